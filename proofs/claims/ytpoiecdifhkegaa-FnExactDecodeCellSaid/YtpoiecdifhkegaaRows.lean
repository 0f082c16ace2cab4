/-
  No cell of these rows narrows 'for every input' (looked for: loops, veiled, ifaces, maps, wideKeys, modest, calm, conditions, laid).
  DERIVED. THE GIVEN ROWS OF THIS SEAT. 6 by the template 'for every input the law returns true; each argument reads behind the call as it read before'; 0 by the template 'total and deterministic' (their statements: YtpoiecdifhkegaaTotals.lean).
  GIVEN WITH THE SEED: the statements are not yours to turn. If you find one false, say at which input.
  Laid BY PROGRAM, IN A SANDBOX (cutbox-rows.mjs): the forced cells as the released guide's own fill.sh prints them over the translation 0e38e99b490960d8… (all of the seat's roots in one cut). By AI agents, Wed Nov 11 2026. No macro, syntax, notation, axiom, sorry.
-/
import Derived.Test.YtpoiecdifhkegaaChecked
import GoSem.Claim
import GoSem.ClaimJoined
import GoSem.ClaimMapViews
import Derived.JoinedTies
import Derived.KernelRfl
namespace Go.Proofs.Ytpoiecdifhkegaa
/- THE CELL 'sum', in the pinned program and in every row, IS THE sha256 OF THE DUMP (.gsa) THAT YtpoiecdifhkegaaProg.lean LOADS. Nothing in Lean hashes anything: it is a label: what it is worth is what the hold of that sum in a sandbox is worth. -/
noncomputable def Try.pinned : Pinned := { name := "ytpoiecdifhkegaa", sum := "0e38e99b490960d808b22c0746874b08127f9b6e1acb495d08528f3335a90f84", checked := Try.checked }
namespace Rows
def none {H : Type} : Left H := { results := [], args := [] }

/-- 'laws.FnCells': WHATEVER THE INPUT: true; the input reads as it did. -/
def fnCellsSpec : ChangeSpec := { name := "fnCells", fn := fun _ => fun
  | [d] => { results := [.lit (.bool true)], args := [d] }
  | _ => none }
def fnCellsRow : OpenClaim := { program := "ytpoiecdifhkegaa", sum := "0e38e99b490960d808b22c0746874b08127f9b6e1acb495d08528f3335a90f84", func := "loop.example/g00792/laws.FnCells", spec := "fnCells", unfollowed := true, recurses := true, apart := false }
def FnCellsSaid : Prop := fnCellsRow.holds Try.pinned (OpenSpec.ofChange fnCellsSpec)

/-- ITS FALSE NEIGHBOUR: 'it returns false'. Refute it at one input. -/
def fnCellsWrong : ChangeSpec := { name := "fnCells", fn := fun _ => fun
  | [d] => { results := [.lit (.bool false)], args := [d] }
  | _ => none }
def FnCellsWrongFalsely : Prop := fnCellsRow.holds Try.pinned (OpenSpec.ofChange fnCellsWrong)

/-- 'laws.FnExactCellFault': WHATEVER THE INPUT: true; the input reads as it did. -/
def fnExactCellFaultSpec : ChangeSpec := { name := "fnExactCellFault", fn := fun _ => fun
  | [d] => { results := [.lit (.bool true)], args := [d] }
  | _ => none }
def fnExactCellFaultRow : OpenClaim := { program := "ytpoiecdifhkegaa", sum := "0e38e99b490960d808b22c0746874b08127f9b6e1acb495d08528f3335a90f84", func := "loop.example/g00792/laws.FnExactCellFault", spec := "fnExactCellFault", apart := false }
def FnExactCellFaultSaid : Prop := fnExactCellFaultRow.holds Try.pinned (OpenSpec.ofChange fnExactCellFaultSpec)

/-- ITS FALSE NEIGHBOUR: 'it returns false'. Refute it at one input. -/
def fnExactCellFaultWrong : ChangeSpec := { name := "fnExactCellFault", fn := fun _ => fun
  | [d] => { results := [.lit (.bool false)], args := [d] }
  | _ => none }
def FnExactCellFaultWrongFalsely : Prop := fnExactCellFaultRow.holds Try.pinned (OpenSpec.ofChange fnExactCellFaultWrong)

/-- 'laws.FnExactEncodeCell': WHATEVER THE INPUT: true; the input reads as it did. -/
def fnExactEncodeCellSpec : ChangeSpec := { name := "fnExactEncodeCell", fn := fun _ => fun
  | [d] => { results := [.lit (.bool true)], args := [d] }
  | _ => none }
def fnExactEncodeCellRow : OpenClaim := { program := "ytpoiecdifhkegaa", sum := "0e38e99b490960d808b22c0746874b08127f9b6e1acb495d08528f3335a90f84", func := "loop.example/g00792/laws.FnExactEncodeCell", spec := "fnExactEncodeCell", unfollowed := true, recurses := true, apart := false }
def FnExactEncodeCellSaid : Prop := fnExactEncodeCellRow.holds Try.pinned (OpenSpec.ofChange fnExactEncodeCellSpec)

/-- ITS FALSE NEIGHBOUR: 'it returns false'. Refute it at one input. -/
def fnExactEncodeCellWrong : ChangeSpec := { name := "fnExactEncodeCell", fn := fun _ => fun
  | [d] => { results := [.lit (.bool false)], args := [d] }
  | _ => none }
def FnExactEncodeCellWrongFalsely : Prop := fnExactEncodeCellRow.holds Try.pinned (OpenSpec.ofChange fnExactEncodeCellWrong)

/-- 'laws.FnExactDecodeCell': WHATEVER THE INPUT: true; the input reads as it did. -/
def fnExactDecodeCellSpec : ChangeSpec := { name := "fnExactDecodeCell", fn := fun _ => fun
  | [d] => { results := [.lit (.bool true)], args := [d] }
  | _ => none }
def fnExactDecodeCellRow : OpenClaim := { program := "ytpoiecdifhkegaa", sum := "0e38e99b490960d808b22c0746874b08127f9b6e1acb495d08528f3335a90f84", func := "loop.example/g00792/laws.FnExactDecodeCell", spec := "fnExactDecodeCell", unfollowed := true, recurses := true, apart := false }
def FnExactDecodeCellSaid : Prop := fnExactDecodeCellRow.holds Try.pinned (OpenSpec.ofChange fnExactDecodeCellSpec)

/-- ITS FALSE NEIGHBOUR: 'it returns false'. Refute it at one input. -/
def fnExactDecodeCellWrong : ChangeSpec := { name := "fnExactDecodeCell", fn := fun _ => fun
  | [d] => { results := [.lit (.bool false)], args := [d] }
  | _ => none }
def FnExactDecodeCellWrongFalsely : Prop := fnExactDecodeCellRow.holds Try.pinned (OpenSpec.ofChange fnExactDecodeCellWrong)

/-- 'laws.FnExactSlotOf': WHATEVER THE INPUT: true; the input reads as it did. -/
def fnExactSlotOfSpec : ChangeSpec := { name := "fnExactSlotOf", fn := fun _ => fun
  | [d] => { results := [.lit (.bool true)], args := [d] }
  | _ => none }
def fnExactSlotOfRow : OpenClaim := { program := "ytpoiecdifhkegaa", sum := "0e38e99b490960d808b22c0746874b08127f9b6e1acb495d08528f3335a90f84", func := "loop.example/g00792/laws.FnExactSlotOf", spec := "fnExactSlotOf", apart := false }
def FnExactSlotOfSaid : Prop := fnExactSlotOfRow.holds Try.pinned (OpenSpec.ofChange fnExactSlotOfSpec)

/-- ITS FALSE NEIGHBOUR: 'it returns false'. Refute it at one input. -/
def fnExactSlotOfWrong : ChangeSpec := { name := "fnExactSlotOf", fn := fun _ => fun
  | [d] => { results := [.lit (.bool false)], args := [d] }
  | _ => none }
def FnExactSlotOfWrongFalsely : Prop := fnExactSlotOfRow.holds Try.pinned (OpenSpec.ofChange fnExactSlotOfWrong)

/-- 'laws.FnExactSameCells': WHATEVER THE INPUT: true; the input reads as it did. -/
def fnExactSameCellsSpec : ChangeSpec := { name := "fnExactSameCells", fn := fun _ => fun
  | [d1, d2] => { results := [.lit (.bool true)], args := [d1, d2] }
  | _ => none }
def fnExactSameCellsRow : OpenClaim := { program := "ytpoiecdifhkegaa", sum := "0e38e99b490960d808b22c0746874b08127f9b6e1acb495d08528f3335a90f84", func := "loop.example/g00792/laws.FnExactSameCells", spec := "fnExactSameCells", apart := false }
def FnExactSameCellsSaid : Prop := fnExactSameCellsRow.holds Try.pinned (OpenSpec.ofChange fnExactSameCellsSpec)

/-- ITS FALSE NEIGHBOUR: 'it returns false'. Refute it at one input. -/
def fnExactSameCellsWrong : ChangeSpec := { name := "fnExactSameCells", fn := fun _ => fun
  | [d1, d2] => { results := [.lit (.bool false)], args := [d1, d2] }
  | _ => none }
def FnExactSameCellsWrongFalsely : Prop := fnExactSameCellsRow.holds Try.pinned (OpenSpec.ofChange fnExactSameCellsWrong)

/- THE SECOND FORM. 'bulk': how many values and letters a reading holds, each counted each time it is reached (what is shared counts as often as it is met; a slice's spare places count too). A statement '..UptoSaid' is the law's where the arguments, and the package variables that the reading takes, are together of bulk at most 1048576: NARROWER than '..Said'. Prove '..Said' where nothing that the law and all that it calls make is longer than what came in: it says more and counts as full. Else prove '..UptoSaid'. A law counts once. -/
mutual
def uptoBulk {H : Type} : DataW H → Nat
  | .lit (.string bytes) => bytes.length + 1
  | .lit _ => 1
  | .nil => 1
  | .ptr d => uptoBulk d + 1
  | .slice elems spare => uptoBulkAll elems + uptoBulkAll spare + 1
  | .agg parts => uptoBulkAll parts + 1
  | .iface _ d => uptoBulk d + 1
  | .map entries => uptoBulkEntries entries + 1
  | .held _ => 1
def uptoBulkAll {H : Type} : List (DataW H) → Nat
  | [] => 0
  | d :: r => uptoBulk d + uptoBulkAll r
def uptoBulkEntries {H : Type} : List (Lit × DataW H) → Nat
  | [] => 0
  | x :: r => uptoBulkEntry x + uptoBulkEntries r
def uptoBulkEntry {H : Type} : Lit × DataW H → Nat
  | (.string bytes, d) => bytes.length + uptoBulk d + 1
  | (_, d) => uptoBulk d + 1
 end
def uptoSmall : (H : Type) → List (DataW H) → Bool := fun _ ds => decide (uptoBulkAll ds ≤ 1048576)
def OpenSpec.upto (s : _root_.Go.ChangeSpec) : _root_.Go.OpenSpec := { _root_.Go.OpenSpec.ofChange s with cond := some uptoSmall }

/-- 'laws.FnCells', WHERE WHAT IT READS IS OF BULK AT MOST 1048576: true; the input reads as it did. -/
def fnCellsUptoRow : OpenClaim := { program := "ytpoiecdifhkegaa", sum := "0e38e99b490960d808b22c0746874b08127f9b6e1acb495d08528f3335a90f84", func := "loop.example/g00792/laws.FnCells", spec := "fnCells", unfollowed := true, recurses := true, apart := false, narrowed := true }
def FnCellsUptoSaid : Prop := fnCellsUptoRow.holds Try.pinned (OpenSpec.upto fnCellsSpec)

/-- 'laws.FnExactCellFault', WHERE WHAT IT READS IS OF BULK AT MOST 1048576: true; the input reads as it did. -/
def fnExactCellFaultUptoRow : OpenClaim := { program := "ytpoiecdifhkegaa", sum := "0e38e99b490960d808b22c0746874b08127f9b6e1acb495d08528f3335a90f84", func := "loop.example/g00792/laws.FnExactCellFault", spec := "fnExactCellFault", apart := false, narrowed := true }
def FnExactCellFaultUptoSaid : Prop := fnExactCellFaultUptoRow.holds Try.pinned (OpenSpec.upto fnExactCellFaultSpec)

/-- 'laws.FnExactEncodeCell', WHERE WHAT IT READS IS OF BULK AT MOST 1048576: true; the input reads as it did. -/
def fnExactEncodeCellUptoRow : OpenClaim := { program := "ytpoiecdifhkegaa", sum := "0e38e99b490960d808b22c0746874b08127f9b6e1acb495d08528f3335a90f84", func := "loop.example/g00792/laws.FnExactEncodeCell", spec := "fnExactEncodeCell", unfollowed := true, recurses := true, apart := false, narrowed := true }
def FnExactEncodeCellUptoSaid : Prop := fnExactEncodeCellUptoRow.holds Try.pinned (OpenSpec.upto fnExactEncodeCellSpec)

/-- 'laws.FnExactDecodeCell', WHERE WHAT IT READS IS OF BULK AT MOST 1048576: true; the input reads as it did. -/
def fnExactDecodeCellUptoRow : OpenClaim := { program := "ytpoiecdifhkegaa", sum := "0e38e99b490960d808b22c0746874b08127f9b6e1acb495d08528f3335a90f84", func := "loop.example/g00792/laws.FnExactDecodeCell", spec := "fnExactDecodeCell", unfollowed := true, recurses := true, apart := false, narrowed := true }
def FnExactDecodeCellUptoSaid : Prop := fnExactDecodeCellUptoRow.holds Try.pinned (OpenSpec.upto fnExactDecodeCellSpec)

/-- 'laws.FnExactSlotOf', WHERE WHAT IT READS IS OF BULK AT MOST 1048576: true; the input reads as it did. -/
def fnExactSlotOfUptoRow : OpenClaim := { program := "ytpoiecdifhkegaa", sum := "0e38e99b490960d808b22c0746874b08127f9b6e1acb495d08528f3335a90f84", func := "loop.example/g00792/laws.FnExactSlotOf", spec := "fnExactSlotOf", apart := false, narrowed := true }
def FnExactSlotOfUptoSaid : Prop := fnExactSlotOfUptoRow.holds Try.pinned (OpenSpec.upto fnExactSlotOfSpec)

/-- 'laws.FnExactSameCells', WHERE WHAT IT READS IS OF BULK AT MOST 1048576: true; the input reads as it did. -/
def fnExactSameCellsUptoRow : OpenClaim := { program := "ytpoiecdifhkegaa", sum := "0e38e99b490960d808b22c0746874b08127f9b6e1acb495d08528f3335a90f84", func := "loop.example/g00792/laws.FnExactSameCells", spec := "fnExactSameCells", apart := false, narrowed := true }
def FnExactSameCellsUptoSaid : Prop := fnExactSameCellsUptoRow.holds Try.pinned (OpenSpec.upto fnExactSameCellsSpec)

end Rows
end Go.Proofs.Ytpoiecdifhkegaa
