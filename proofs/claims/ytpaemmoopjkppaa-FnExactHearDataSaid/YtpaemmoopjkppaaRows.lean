/-
  No cell of these rows narrows 'for every input' (looked for: loops, veiled, ifaces, maps, wideKeys, modest, calm, conditions, laid).
  DERIVED. THE GIVEN ROWS OF THIS SEAT. 3 by the template 'for every input the law returns true; each argument reads behind the call as it read before'; 0 by the template 'total and deterministic' (their statements: YtpaemmoopjkppaaTotals.lean).
  GIVEN WITH THE SEED: the statements are not yours to turn. If you find one false, say at which input.
  Laid BY PROGRAM, IN A SANDBOX (cutbox-rows.mjs): the forced cells as the released guide's own fill.sh prints them over the translation ff14c1b1752fed92… (all of the seat's roots in one cut). By AI agents, Wed Nov 11 2026. No macro, syntax, notation, axiom, sorry.
-/
import Derived.Test.YtpaemmoopjkppaaChecked
import GoSem.Claim
import GoSem.ClaimJoined
import GoSem.ClaimMapViews
import Derived.JoinedTies
import Derived.KernelRfl
namespace Go.Proofs.Ytpaemmoopjkppaa
/- THE CELL 'sum', in the pinned program and in every row, IS THE sha256 OF THE DUMP (.gsa) THAT YtpaemmoopjkppaaProg.lean LOADS. Nothing in Lean hashes anything: it is a label: what it is worth is what the hold of that sum in a sandbox is worth. -/
noncomputable def Try.pinned : Pinned := { name := "ytpaemmoopjkppaa", sum := "ff14c1b1752fed9208dd8d2b15139b8edc4851c5f72fbf99a4b0458063ad3b09", checked := Try.checked }
namespace Rows
def none {H : Type} : Left H := { results := [], args := [] }

/-- 'laws.FnExactHearData': WHATEVER THE INPUT: true; the input reads as it did. -/
def fnExactHearDataSpec : ChangeSpec := { name := "fnExactHearData", fn := fun _ => fun
  | [d1, d2] => { results := [.lit (.bool true)], args := [d1, d2] }
  | _ => none }
def fnExactHearDataRow : OpenClaim := { program := "ytpaemmoopjkppaa", sum := "ff14c1b1752fed9208dd8d2b15139b8edc4851c5f72fbf99a4b0458063ad3b09", func := "loop.example/g00792/laws.FnExactHearData", spec := "fnExactHearData", inPlace := ["slices.overlaps[loop.example/g00792/impl.Held]"], unfollowed := true, recurses := true, apart := false }
def FnExactHearDataSaid : Prop := fnExactHearDataRow.holds Try.pinned (OpenSpec.ofChange fnExactHearDataSpec)

/-- ITS FALSE NEIGHBOUR: 'it returns false'. Refute it at one input. -/
def fnExactHearDataWrong : ChangeSpec := { name := "fnExactHearData", fn := fun _ => fun
  | [d1, d2] => { results := [.lit (.bool false)], args := [d1, d2] }
  | _ => none }
def FnExactHearDataWrongFalsely : Prop := fnExactHearDataRow.holds Try.pinned (OpenSpec.ofChange fnExactHearDataWrong)

/-- 'laws.FnExactMutedEvents': WHATEVER THE INPUT: true; the input reads as it did. -/
def fnExactMutedEventsSpec : ChangeSpec := { name := "fnExactMutedEvents", fn := fun _ => fun
  | [d] => { results := [.lit (.bool true)], args := [d] }
  | _ => none }
def fnExactMutedEventsRow : OpenClaim := { program := "ytpaemmoopjkppaa", sum := "ff14c1b1752fed9208dd8d2b15139b8edc4851c5f72fbf99a4b0458063ad3b09", func := "loop.example/g00792/laws.FnExactMutedEvents", spec := "fnExactMutedEvents", apart := false }
def FnExactMutedEventsSaid : Prop := fnExactMutedEventsRow.holds Try.pinned (OpenSpec.ofChange fnExactMutedEventsSpec)

/-- ITS FALSE NEIGHBOUR: 'it returns false'. Refute it at one input. -/
def fnExactMutedEventsWrong : ChangeSpec := { name := "fnExactMutedEvents", fn := fun _ => fun
  | [d] => { results := [.lit (.bool false)], args := [d] }
  | _ => none }
def FnExactMutedEventsWrongFalsely : Prop := fnExactMutedEventsRow.holds Try.pinned (OpenSpec.ofChange fnExactMutedEventsWrong)

/-- 'laws.FnExactSamePairs': WHATEVER THE INPUT: true; the input reads as it did. -/
def fnExactSamePairsSpec : ChangeSpec := { name := "fnExactSamePairs", fn := fun _ => fun
  | [d1, d2] => { results := [.lit (.bool true)], args := [d1, d2] }
  | _ => none }
def fnExactSamePairsRow : OpenClaim := { program := "ytpaemmoopjkppaa", sum := "ff14c1b1752fed9208dd8d2b15139b8edc4851c5f72fbf99a4b0458063ad3b09", func := "loop.example/g00792/laws.FnExactSamePairs", spec := "fnExactSamePairs", unfollowed := true, recurses := true, apart := false }
def FnExactSamePairsSaid : Prop := fnExactSamePairsRow.holds Try.pinned (OpenSpec.ofChange fnExactSamePairsSpec)

/-- ITS FALSE NEIGHBOUR: 'it returns false'. Refute it at one input. -/
def fnExactSamePairsWrong : ChangeSpec := { name := "fnExactSamePairs", fn := fun _ => fun
  | [d1, d2] => { results := [.lit (.bool false)], args := [d1, d2] }
  | _ => none }
def FnExactSamePairsWrongFalsely : Prop := fnExactSamePairsRow.holds Try.pinned (OpenSpec.ofChange fnExactSamePairsWrong)

/- THE SECOND FORM. 'bulk': how many values and letters a reading holds, each counted each time it is reached (what is shared counts as often as it is met; a slice's spare places count too). A statement '..UptoSaid' is the law's where the arguments, and the package variables that the reading takes, are together of bulk at most 1048576: NARROWER than '..Said'. Prove '..Said' where nothing that the law and all that it calls make is longer than what came in: it says more and counts as full. Else prove '..UptoSaid'. A law counts once. -/
mutual
def uptoBulk {H : Type} : DataW H → Nat
  | .lit (.string bytes) => bytes.length + 1
  | .lit _ => 1
  | .nil => 1
  | .ptr d => uptoBulk d + 1
  | .slice elems spare => uptoBulkAll elems + uptoBulkAll spare + 1
  | .agg parts => uptoBulkAll parts + 1
  | .iface _ d => uptoBulk d + 1
  | .map entries => uptoBulkEntries entries + 1
  | .held _ => 1
def uptoBulkAll {H : Type} : List (DataW H) → Nat
  | [] => 0
  | d :: r => uptoBulk d + uptoBulkAll r
def uptoBulkEntries {H : Type} : List (Lit × DataW H) → Nat
  | [] => 0
  | x :: r => uptoBulkEntry x + uptoBulkEntries r
def uptoBulkEntry {H : Type} : Lit × DataW H → Nat
  | (.string bytes, d) => bytes.length + uptoBulk d + 1
  | (_, d) => uptoBulk d + 1
 end
def uptoSmall : (H : Type) → List (DataW H) → Bool := fun _ ds => decide (uptoBulkAll ds ≤ 1048576)
def OpenSpec.upto (s : _root_.Go.ChangeSpec) : _root_.Go.OpenSpec := { _root_.Go.OpenSpec.ofChange s with cond := some uptoSmall }

/-- 'laws.FnExactHearData', WHERE WHAT IT READS IS OF BULK AT MOST 1048576: true; the input reads as it did. -/
def fnExactHearDataUptoRow : OpenClaim := { program := "ytpaemmoopjkppaa", sum := "ff14c1b1752fed9208dd8d2b15139b8edc4851c5f72fbf99a4b0458063ad3b09", func := "loop.example/g00792/laws.FnExactHearData", spec := "fnExactHearData", inPlace := ["slices.overlaps[loop.example/g00792/impl.Held]"], unfollowed := true, recurses := true, apart := false, narrowed := true }
def FnExactHearDataUptoSaid : Prop := fnExactHearDataUptoRow.holds Try.pinned (OpenSpec.upto fnExactHearDataSpec)

/-- 'laws.FnExactMutedEvents', WHERE WHAT IT READS IS OF BULK AT MOST 1048576: true; the input reads as it did. -/
def fnExactMutedEventsUptoRow : OpenClaim := { program := "ytpaemmoopjkppaa", sum := "ff14c1b1752fed9208dd8d2b15139b8edc4851c5f72fbf99a4b0458063ad3b09", func := "loop.example/g00792/laws.FnExactMutedEvents", spec := "fnExactMutedEvents", apart := false, narrowed := true }
def FnExactMutedEventsUptoSaid : Prop := fnExactMutedEventsUptoRow.holds Try.pinned (OpenSpec.upto fnExactMutedEventsSpec)

/-- 'laws.FnExactSamePairs', WHERE WHAT IT READS IS OF BULK AT MOST 1048576: true; the input reads as it did. -/
def fnExactSamePairsUptoRow : OpenClaim := { program := "ytpaemmoopjkppaa", sum := "ff14c1b1752fed9208dd8d2b15139b8edc4851c5f72fbf99a4b0458063ad3b09", func := "loop.example/g00792/laws.FnExactSamePairs", spec := "fnExactSamePairs", unfollowed := true, recurses := true, apart := false, narrowed := true }
def FnExactSamePairsUptoSaid : Prop := fnExactSamePairsUptoRow.holds Try.pinned (OpenSpec.upto fnExactSamePairsSpec)

end Rows
end Go.Proofs.Ytpaemmoopjkppaa
