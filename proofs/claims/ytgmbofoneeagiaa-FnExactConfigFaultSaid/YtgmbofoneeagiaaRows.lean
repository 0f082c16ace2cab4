/-
  No cell of these rows narrows 'for every input' (looked for: loops, veiled, ifaces, maps, wideKeys, modest, calm, conditions, laid).
  DERIVED. THE GIVEN ROWS OF THIS SEAT. 9 by the template 'for every input the law returns true; each argument reads behind the call as it read before'; 0 by the template 'total and deterministic' (their statements: YtgmbofoneeagiaaTotals.lean).
  GIVEN WITH THE SEED: the statements are not yours to turn. If you find one false, say at which input.
  Laid BY PROGRAM, IN A SANDBOX (cutbox-rows.mjs): the forced cells as the released guide's own fill.sh prints them over the translation 78e8346ec6b2a59d… (all of the seat's roots in one cut). By AI agents, Wed Nov 11 2026. No macro, syntax, notation, axiom, sorry.
-/
import Derived.Test.YtgmbofoneeagiaaChecked
import GoSem.Claim
import GoSem.ClaimJoined
import GoSem.ClaimMapViews
import Derived.JoinedTies
import Derived.KernelRfl
namespace Go.Proofs.Ytgmbofoneeagiaa
/- THE CELL 'sum', in the pinned program and in every row, IS THE sha256 OF THE DUMP (.gsa) THAT YtgmbofoneeagiaaProg.lean LOADS. Nothing in Lean hashes anything: it is a label: what it is worth is what the hold of that sum in a sandbox is worth. -/
noncomputable def Try.pinned : Pinned := { name := "ytgmbofoneeagiaa", sum := "78e8346ec6b2a59d2b7afb88b810bad4c8346b8415d8f72ce70ad9dd2fa209b1", checked := Try.checked }
namespace Rows
def none {H : Type} : Left H := { results := [], args := [] }

/-- 'laws.FnExactConfigFault': WHATEVER THE INPUT: true; the input reads as it did. -/
def fnExactConfigFaultSpec : ChangeSpec := { name := "fnExactConfigFault", fn := fun _ => fun
  | [d] => { results := [.lit (.bool true)], args := [d] }
  | _ => none }
def fnExactConfigFaultRow : OpenClaim := { program := "ytgmbofoneeagiaa", sum := "78e8346ec6b2a59d2b7afb88b810bad4c8346b8415d8f72ce70ad9dd2fa209b1", func := "loop.example/g00792/laws.FnExactConfigFault", spec := "fnExactConfigFault", apart := false }
def FnExactConfigFaultSaid : Prop := fnExactConfigFaultRow.holds Try.pinned (OpenSpec.ofChange fnExactConfigFaultSpec)

/-- ITS FALSE NEIGHBOUR: 'it returns false'. Refute it at one input. -/
def fnExactConfigFaultWrong : ChangeSpec := { name := "fnExactConfigFault", fn := fun _ => fun
  | [d] => { results := [.lit (.bool false)], args := [d] }
  | _ => none }
def FnExactConfigFaultWrongFalsely : Prop := fnExactConfigFaultRow.holds Try.pinned (OpenSpec.ofChange fnExactConfigFaultWrong)

/-- 'laws.FnExactEventFault': WHATEVER THE INPUT: true; the input reads as it did. -/
def fnExactEventFaultSpec : ChangeSpec := { name := "fnExactEventFault", fn := fun _ => fun
  | [d] => { results := [.lit (.bool true)], args := [d] }
  | _ => none }
def fnExactEventFaultRow : OpenClaim := { program := "ytgmbofoneeagiaa", sum := "78e8346ec6b2a59d2b7afb88b810bad4c8346b8415d8f72ce70ad9dd2fa209b1", func := "loop.example/g00792/laws.FnExactEventFault", spec := "fnExactEventFault", apart := false }
def FnExactEventFaultSaid : Prop := fnExactEventFaultRow.holds Try.pinned (OpenSpec.ofChange fnExactEventFaultSpec)

/-- ITS FALSE NEIGHBOUR: 'it returns false'. Refute it at one input. -/
def fnExactEventFaultWrong : ChangeSpec := { name := "fnExactEventFault", fn := fun _ => fun
  | [d] => { results := [.lit (.bool false)], args := [d] }
  | _ => none }
def FnExactEventFaultWrongFalsely : Prop := fnExactEventFaultRow.holds Try.pinned (OpenSpec.ofChange fnExactEventFaultWrong)

/-- 'laws.FnExactSameWires': WHATEVER THE INPUT: true; the input reads as it did. -/
def fnExactSameWiresSpec : ChangeSpec := { name := "fnExactSameWires", fn := fun _ => fun
  | [d1, d2] => { results := [.lit (.bool true)], args := [d1, d2] }
  | _ => none }
def fnExactSameWiresRow : OpenClaim := { program := "ytgmbofoneeagiaa", sum := "78e8346ec6b2a59d2b7afb88b810bad4c8346b8415d8f72ce70ad9dd2fa209b1", func := "loop.example/g00792/laws.FnExactSameWires", spec := "fnExactSameWires", unfollowed := true, recurses := true, apart := false }
def FnExactSameWiresSaid : Prop := fnExactSameWiresRow.holds Try.pinned (OpenSpec.ofChange fnExactSameWiresSpec)

/-- ITS FALSE NEIGHBOUR: 'it returns false'. Refute it at one input. -/
def fnExactSameWiresWrong : ChangeSpec := { name := "fnExactSameWires", fn := fun _ => fun
  | [d1, d2] => { results := [.lit (.bool false)], args := [d1, d2] }
  | _ => none }
def FnExactSameWiresWrongFalsely : Prop := fnExactSameWiresRow.holds Try.pinned (OpenSpec.ofChange fnExactSameWiresWrong)

/-- 'laws.FnExactSamePairs': WHATEVER THE INPUT: true; the input reads as it did. -/
def fnExactSamePairsSpec : ChangeSpec := { name := "fnExactSamePairs", fn := fun _ => fun
  | [d1, d2] => { results := [.lit (.bool true)], args := [d1, d2] }
  | _ => none }
def fnExactSamePairsRow : OpenClaim := { program := "ytgmbofoneeagiaa", sum := "78e8346ec6b2a59d2b7afb88b810bad4c8346b8415d8f72ce70ad9dd2fa209b1", func := "loop.example/g00792/laws.FnExactSamePairs", spec := "fnExactSamePairs", unfollowed := true, recurses := true, apart := false }
def FnExactSamePairsSaid : Prop := fnExactSamePairsRow.holds Try.pinned (OpenSpec.ofChange fnExactSamePairsSpec)

/-- ITS FALSE NEIGHBOUR: 'it returns false'. Refute it at one input. -/
def fnExactSamePairsWrong : ChangeSpec := { name := "fnExactSamePairs", fn := fun _ => fun
  | [d1, d2] => { results := [.lit (.bool false)], args := [d1, d2] }
  | _ => none }
def FnExactSamePairsWrongFalsely : Prop := fnExactSamePairsRow.holds Try.pinned (OpenSpec.ofChange fnExactSamePairsWrong)

/-- 'laws.FnSenders': WHATEVER THE INPUT: true; the input reads as it did. -/
def fnSendersSpec : ChangeSpec := { name := "fnSenders", fn := fun _ => fun
  | [d] => { results := [.lit (.bool true)], args := [d] }
  | _ => none }
def fnSendersRow : OpenClaim := { program := "ytgmbofoneeagiaa", sum := "78e8346ec6b2a59d2b7afb88b810bad4c8346b8415d8f72ce70ad9dd2fa209b1", func := "loop.example/g00792/laws.FnSenders", spec := "fnSenders", unfollowed := true, recurses := true, apart := false }
def FnSendersSaid : Prop := fnSendersRow.holds Try.pinned (OpenSpec.ofChange fnSendersSpec)

/-- ITS FALSE NEIGHBOUR: 'it returns false'. Refute it at one input. -/
def fnSendersWrong : ChangeSpec := { name := "fnSenders", fn := fun _ => fun
  | [d] => { results := [.lit (.bool false)], args := [d] }
  | _ => none }
def FnSendersWrongFalsely : Prop := fnSendersRow.holds Try.pinned (OpenSpec.ofChange fnSendersWrong)

/-- 'laws.FnAcks': WHATEVER THE INPUT: true; the input reads as it did. -/
def fnAcksSpec : ChangeSpec := { name := "fnAcks", fn := fun _ => fun
  | [d] => { results := [.lit (.bool true)], args := [d] }
  | _ => none }
def fnAcksRow : OpenClaim := { program := "ytgmbofoneeagiaa", sum := "78e8346ec6b2a59d2b7afb88b810bad4c8346b8415d8f72ce70ad9dd2fa209b1", func := "loop.example/g00792/laws.FnAcks", spec := "fnAcks", unfollowed := true, recurses := true, apart := false }
def FnAcksSaid : Prop := fnAcksRow.holds Try.pinned (OpenSpec.ofChange fnAcksSpec)

/-- ITS FALSE NEIGHBOUR: 'it returns false'. Refute it at one input. -/
def fnAcksWrong : ChangeSpec := { name := "fnAcks", fn := fun _ => fun
  | [d] => { results := [.lit (.bool false)], args := [d] }
  | _ => none }
def FnAcksWrongFalsely : Prop := fnAcksRow.holds Try.pinned (OpenSpec.ofChange fnAcksWrong)

/-- 'laws.FnReceivers': WHATEVER THE INPUT: true; the input reads as it did. -/
def fnReceiversSpec : ChangeSpec := { name := "fnReceivers", fn := fun _ => fun
  | [d] => { results := [.lit (.bool true)], args := [d] }
  | _ => none }
def fnReceiversRow : OpenClaim := { program := "ytgmbofoneeagiaa", sum := "78e8346ec6b2a59d2b7afb88b810bad4c8346b8415d8f72ce70ad9dd2fa209b1", func := "loop.example/g00792/laws.FnReceivers", spec := "fnReceivers", inPlace := ["slices.overlaps[loop.example/g00792/impl.Held]"], unfollowed := true, recurses := true, apart := false }
def FnReceiversSaid : Prop := fnReceiversRow.holds Try.pinned (OpenSpec.ofChange fnReceiversSpec)

/-- ITS FALSE NEIGHBOUR: 'it returns false'. Refute it at one input. -/
def fnReceiversWrong : ChangeSpec := { name := "fnReceivers", fn := fun _ => fun
  | [d] => { results := [.lit (.bool false)], args := [d] }
  | _ => none }
def FnReceiversWrongFalsely : Prop := fnReceiversRow.holds Try.pinned (OpenSpec.ofChange fnReceiversWrong)

/-- 'laws.FnExactHearData': WHATEVER THE INPUT: true; the input reads as it did. -/
def fnExactHearDataSpec : ChangeSpec := { name := "fnExactHearData", fn := fun _ => fun
  | [d1, d2] => { results := [.lit (.bool true)], args := [d1, d2] }
  | _ => none }
def fnExactHearDataRow : OpenClaim := { program := "ytgmbofoneeagiaa", sum := "78e8346ec6b2a59d2b7afb88b810bad4c8346b8415d8f72ce70ad9dd2fa209b1", func := "loop.example/g00792/laws.FnExactHearData", spec := "fnExactHearData", inPlace := ["slices.overlaps[loop.example/g00792/impl.Held]"], unfollowed := true, recurses := true, apart := false }
def FnExactHearDataSaid : Prop := fnExactHearDataRow.holds Try.pinned (OpenSpec.ofChange fnExactHearDataSpec)

/-- ITS FALSE NEIGHBOUR: 'it returns false'. Refute it at one input. -/
def fnExactHearDataWrong : ChangeSpec := { name := "fnExactHearData", fn := fun _ => fun
  | [d1, d2] => { results := [.lit (.bool false)], args := [d1, d2] }
  | _ => none }
def FnExactHearDataWrongFalsely : Prop := fnExactHearDataRow.holds Try.pinned (OpenSpec.ofChange fnExactHearDataWrong)

/-- 'laws.FnExactCellEnd': WHATEVER THE INPUT: true; the input reads as it did. -/
def fnExactCellEndSpec : ChangeSpec := { name := "fnExactCellEnd", fn := fun _ => fun
  | [d] => { results := [.lit (.bool true)], args := [d] }
  | _ => none }
def fnExactCellEndRow : OpenClaim := { program := "ytgmbofoneeagiaa", sum := "78e8346ec6b2a59d2b7afb88b810bad4c8346b8415d8f72ce70ad9dd2fa209b1", func := "loop.example/g00792/laws.FnExactCellEnd", spec := "fnExactCellEnd", unfollowed := true, recurses := true, apart := false }
def FnExactCellEndSaid : Prop := fnExactCellEndRow.holds Try.pinned (OpenSpec.ofChange fnExactCellEndSpec)

/-- ITS FALSE NEIGHBOUR: 'it returns false'. Refute it at one input. -/
def fnExactCellEndWrong : ChangeSpec := { name := "fnExactCellEnd", fn := fun _ => fun
  | [d] => { results := [.lit (.bool false)], args := [d] }
  | _ => none }
def FnExactCellEndWrongFalsely : Prop := fnExactCellEndRow.holds Try.pinned (OpenSpec.ofChange fnExactCellEndWrong)

/- THE SECOND FORM. 'bulk': how many values and letters a reading holds, each counted each time it is reached (what is shared counts as often as it is met; a slice's spare places count too). A statement '..UptoSaid' is the law's where the arguments, and the package variables that the reading takes, are together of bulk at most 1048576: NARROWER than '..Said'. Prove '..Said' where nothing that the law and all that it calls make is longer than what came in: it says more and counts as full. Else prove '..UptoSaid'. A law counts once. -/
mutual
def uptoBulk {H : Type} : DataW H → Nat
  | .lit (.string bytes) => bytes.length + 1
  | .lit _ => 1
  | .nil => 1
  | .ptr d => uptoBulk d + 1
  | .slice elems spare => uptoBulkAll elems + uptoBulkAll spare + 1
  | .agg parts => uptoBulkAll parts + 1
  | .iface _ d => uptoBulk d + 1
  | .map entries => uptoBulkEntries entries + 1
  | .held _ => 1
def uptoBulkAll {H : Type} : List (DataW H) → Nat
  | [] => 0
  | d :: r => uptoBulk d + uptoBulkAll r
def uptoBulkEntries {H : Type} : List (Lit × DataW H) → Nat
  | [] => 0
  | x :: r => uptoBulkEntry x + uptoBulkEntries r
def uptoBulkEntry {H : Type} : Lit × DataW H → Nat
  | (.string bytes, d) => bytes.length + uptoBulk d + 1
  | (_, d) => uptoBulk d + 1
 end
def uptoSmall : (H : Type) → List (DataW H) → Bool := fun _ ds => decide (uptoBulkAll ds ≤ 1048576)
def OpenSpec.upto (s : _root_.Go.ChangeSpec) : _root_.Go.OpenSpec := { _root_.Go.OpenSpec.ofChange s with cond := some uptoSmall }

/-- 'laws.FnExactConfigFault', WHERE WHAT IT READS IS OF BULK AT MOST 1048576: true; the input reads as it did. -/
def fnExactConfigFaultUptoRow : OpenClaim := { program := "ytgmbofoneeagiaa", sum := "78e8346ec6b2a59d2b7afb88b810bad4c8346b8415d8f72ce70ad9dd2fa209b1", func := "loop.example/g00792/laws.FnExactConfigFault", spec := "fnExactConfigFault", apart := false, narrowed := true }
def FnExactConfigFaultUptoSaid : Prop := fnExactConfigFaultUptoRow.holds Try.pinned (OpenSpec.upto fnExactConfigFaultSpec)

/-- 'laws.FnExactEventFault', WHERE WHAT IT READS IS OF BULK AT MOST 1048576: true; the input reads as it did. -/
def fnExactEventFaultUptoRow : OpenClaim := { program := "ytgmbofoneeagiaa", sum := "78e8346ec6b2a59d2b7afb88b810bad4c8346b8415d8f72ce70ad9dd2fa209b1", func := "loop.example/g00792/laws.FnExactEventFault", spec := "fnExactEventFault", apart := false, narrowed := true }
def FnExactEventFaultUptoSaid : Prop := fnExactEventFaultUptoRow.holds Try.pinned (OpenSpec.upto fnExactEventFaultSpec)

/-- 'laws.FnExactSameWires', WHERE WHAT IT READS IS OF BULK AT MOST 1048576: true; the input reads as it did. -/
def fnExactSameWiresUptoRow : OpenClaim := { program := "ytgmbofoneeagiaa", sum := "78e8346ec6b2a59d2b7afb88b810bad4c8346b8415d8f72ce70ad9dd2fa209b1", func := "loop.example/g00792/laws.FnExactSameWires", spec := "fnExactSameWires", unfollowed := true, recurses := true, apart := false, narrowed := true }
def FnExactSameWiresUptoSaid : Prop := fnExactSameWiresUptoRow.holds Try.pinned (OpenSpec.upto fnExactSameWiresSpec)

/-- 'laws.FnExactSamePairs', WHERE WHAT IT READS IS OF BULK AT MOST 1048576: true; the input reads as it did. -/
def fnExactSamePairsUptoRow : OpenClaim := { program := "ytgmbofoneeagiaa", sum := "78e8346ec6b2a59d2b7afb88b810bad4c8346b8415d8f72ce70ad9dd2fa209b1", func := "loop.example/g00792/laws.FnExactSamePairs", spec := "fnExactSamePairs", unfollowed := true, recurses := true, apart := false, narrowed := true }
def FnExactSamePairsUptoSaid : Prop := fnExactSamePairsUptoRow.holds Try.pinned (OpenSpec.upto fnExactSamePairsSpec)

/-- 'laws.FnSenders', WHERE WHAT IT READS IS OF BULK AT MOST 1048576: true; the input reads as it did. -/
def fnSendersUptoRow : OpenClaim := { program := "ytgmbofoneeagiaa", sum := "78e8346ec6b2a59d2b7afb88b810bad4c8346b8415d8f72ce70ad9dd2fa209b1", func := "loop.example/g00792/laws.FnSenders", spec := "fnSenders", unfollowed := true, recurses := true, apart := false, narrowed := true }
def FnSendersUptoSaid : Prop := fnSendersUptoRow.holds Try.pinned (OpenSpec.upto fnSendersSpec)

/-- 'laws.FnAcks', WHERE WHAT IT READS IS OF BULK AT MOST 1048576: true; the input reads as it did. -/
def fnAcksUptoRow : OpenClaim := { program := "ytgmbofoneeagiaa", sum := "78e8346ec6b2a59d2b7afb88b810bad4c8346b8415d8f72ce70ad9dd2fa209b1", func := "loop.example/g00792/laws.FnAcks", spec := "fnAcks", unfollowed := true, recurses := true, apart := false, narrowed := true }
def FnAcksUptoSaid : Prop := fnAcksUptoRow.holds Try.pinned (OpenSpec.upto fnAcksSpec)

/-- 'laws.FnReceivers', WHERE WHAT IT READS IS OF BULK AT MOST 1048576: true; the input reads as it did. -/
def fnReceiversUptoRow : OpenClaim := { program := "ytgmbofoneeagiaa", sum := "78e8346ec6b2a59d2b7afb88b810bad4c8346b8415d8f72ce70ad9dd2fa209b1", func := "loop.example/g00792/laws.FnReceivers", spec := "fnReceivers", inPlace := ["slices.overlaps[loop.example/g00792/impl.Held]"], unfollowed := true, recurses := true, apart := false, narrowed := true }
def FnReceiversUptoSaid : Prop := fnReceiversUptoRow.holds Try.pinned (OpenSpec.upto fnReceiversSpec)

/-- 'laws.FnExactHearData', WHERE WHAT IT READS IS OF BULK AT MOST 1048576: true; the input reads as it did. -/
def fnExactHearDataUptoRow : OpenClaim := { program := "ytgmbofoneeagiaa", sum := "78e8346ec6b2a59d2b7afb88b810bad4c8346b8415d8f72ce70ad9dd2fa209b1", func := "loop.example/g00792/laws.FnExactHearData", spec := "fnExactHearData", inPlace := ["slices.overlaps[loop.example/g00792/impl.Held]"], unfollowed := true, recurses := true, apart := false, narrowed := true }
def FnExactHearDataUptoSaid : Prop := fnExactHearDataUptoRow.holds Try.pinned (OpenSpec.upto fnExactHearDataSpec)

/-- 'laws.FnExactCellEnd', WHERE WHAT IT READS IS OF BULK AT MOST 1048576: true; the input reads as it did. -/
def fnExactCellEndUptoRow : OpenClaim := { program := "ytgmbofoneeagiaa", sum := "78e8346ec6b2a59d2b7afb88b810bad4c8346b8415d8f72ce70ad9dd2fa209b1", func := "loop.example/g00792/laws.FnExactCellEnd", spec := "fnExactCellEnd", unfollowed := true, recurses := true, apart := false, narrowed := true }
def FnExactCellEndUptoSaid : Prop := fnExactCellEndUptoRow.holds Try.pinned (OpenSpec.upto fnExactCellEndSpec)

end Rows
end Go.Proofs.Ytgmbofoneeagiaa
