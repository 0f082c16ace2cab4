/-
  No cell of these rows narrows 'for every input' (looked for: loops, veiled, ifaces, maps, wideKeys, modest, calm, conditions, laid).
  DERIVED. THE GIVEN ROWS OF THIS SEAT. 12 by the template 'for every input the law returns true; each argument reads behind the call as it read before'; 0 by the template 'total and deterministic' (their statements: YtbelplonlcdahaaTotals.lean).
  GIVEN WITH THE SEED: the statements are not yours to turn. If you find one false, say at which input.
  Laid BY PROGRAM, IN A SANDBOX (cutbox-rows.mjs): the forced cells as the released guide's own fill.sh prints them over the translation 5aa01c972e3a3a71… (all of the seat's roots in one cut). By AI agents, Wed Nov 11 2026. No macro, syntax, notation, axiom, sorry.
-/
import Derived.Test.YtbelplonlcdahaaChecked
import GoSem.Claim
import GoSem.ClaimJoined
import GoSem.ClaimMapViews
import Derived.JoinedTies
import Derived.KernelRfl
namespace Go.Proofs.Ytbelplonlcdahaa
/- THE CELL 'sum', in the pinned program and in every row, IS THE sha256 OF THE DUMP (.gsa) THAT YtbelplonlcdahaaProg.lean LOADS. Nothing in Lean hashes anything: it is a label: what it is worth is what the hold of that sum in a sandbox is worth. -/
noncomputable def Try.pinned : Pinned := { name := "ytbelplonlcdahaa", sum := "5aa01c972e3a3a719adf4048825f96a91d8374b294c31f34e9cfc06f32bf556d", checked := Try.checked }
namespace Rows
def none {H : Type} : Left H := { results := [], args := [] }

/-- 'laws.FnSenders': WHATEVER THE INPUT: true; the input reads as it did. -/
def fnSendersSpec : ChangeSpec := { name := "fnSenders", fn := fun _ => fun
  | [d] => { results := [.lit (.bool true)], args := [d] }
  | _ => none }
def fnSendersRow : OpenClaim := { program := "ytbelplonlcdahaa", sum := "5aa01c972e3a3a719adf4048825f96a91d8374b294c31f34e9cfc06f32bf556d", func := "loop.example/g00792/laws.FnSenders", spec := "fnSenders", unfollowed := true, recurses := true, apart := false }
def FnSendersSaid : Prop := fnSendersRow.holds Try.pinned (OpenSpec.ofChange fnSendersSpec)

/-- ITS FALSE NEIGHBOUR: 'it returns false'. Refute it at one input. -/
def fnSendersWrong : ChangeSpec := { name := "fnSenders", fn := fun _ => fun
  | [d] => { results := [.lit (.bool false)], args := [d] }
  | _ => none }
def FnSendersWrongFalsely : Prop := fnSendersRow.holds Try.pinned (OpenSpec.ofChange fnSendersWrong)

/-- 'laws.FnAcks': WHATEVER THE INPUT: true; the input reads as it did. -/
def fnAcksSpec : ChangeSpec := { name := "fnAcks", fn := fun _ => fun
  | [d] => { results := [.lit (.bool true)], args := [d] }
  | _ => none }
def fnAcksRow : OpenClaim := { program := "ytbelplonlcdahaa", sum := "5aa01c972e3a3a719adf4048825f96a91d8374b294c31f34e9cfc06f32bf556d", func := "loop.example/g00792/laws.FnAcks", spec := "fnAcks", unfollowed := true, recurses := true, apart := false }
def FnAcksSaid : Prop := fnAcksRow.holds Try.pinned (OpenSpec.ofChange fnAcksSpec)

/-- ITS FALSE NEIGHBOUR: 'it returns false'. Refute it at one input. -/
def fnAcksWrong : ChangeSpec := { name := "fnAcks", fn := fun _ => fun
  | [d] => { results := [.lit (.bool false)], args := [d] }
  | _ => none }
def FnAcksWrongFalsely : Prop := fnAcksRow.holds Try.pinned (OpenSpec.ofChange fnAcksWrong)

/-- 'laws.FnReceivers': WHATEVER THE INPUT: true; the input reads as it did. -/
def fnReceiversSpec : ChangeSpec := { name := "fnReceivers", fn := fun _ => fun
  | [d] => { results := [.lit (.bool true)], args := [d] }
  | _ => none }
def fnReceiversRow : OpenClaim := { program := "ytbelplonlcdahaa", sum := "5aa01c972e3a3a719adf4048825f96a91d8374b294c31f34e9cfc06f32bf556d", func := "loop.example/g00792/laws.FnReceivers", spec := "fnReceivers", inPlace := ["slices.overlaps[loop.example/g00792/impl.Held]"], unfollowed := true, recurses := true, apart := false }
def FnReceiversSaid : Prop := fnReceiversRow.holds Try.pinned (OpenSpec.ofChange fnReceiversSpec)

/-- ITS FALSE NEIGHBOUR: 'it returns false'. Refute it at one input. -/
def fnReceiversWrong : ChangeSpec := { name := "fnReceivers", fn := fun _ => fun
  | [d] => { results := [.lit (.bool false)], args := [d] }
  | _ => none }
def FnReceiversWrongFalsely : Prop := fnReceiversRow.holds Try.pinned (OpenSpec.ofChange fnReceiversWrong)

/-- 'laws.FnExactSenderFault': WHATEVER THE INPUT: true; the input reads as it did. -/
def fnExactSenderFaultSpec : ChangeSpec := { name := "fnExactSenderFault", fn := fun _ => fun
  | [d] => { results := [.lit (.bool true)], args := [d] }
  | _ => none }
def fnExactSenderFaultRow : OpenClaim := { program := "ytbelplonlcdahaa", sum := "5aa01c972e3a3a719adf4048825f96a91d8374b294c31f34e9cfc06f32bf556d", func := "loop.example/g00792/laws.FnExactSenderFault", spec := "fnExactSenderFault", apart := false }
def FnExactSenderFaultSaid : Prop := fnExactSenderFaultRow.holds Try.pinned (OpenSpec.ofChange fnExactSenderFaultSpec)

/-- ITS FALSE NEIGHBOUR: 'it returns false'. Refute it at one input. -/
def fnExactSenderFaultWrong : ChangeSpec := { name := "fnExactSenderFault", fn := fun _ => fun
  | [d] => { results := [.lit (.bool false)], args := [d] }
  | _ => none }
def FnExactSenderFaultWrongFalsely : Prop := fnExactSenderFaultRow.holds Try.pinned (OpenSpec.ofChange fnExactSenderFaultWrong)

/-- 'laws.FnExactSendMessage': WHATEVER THE INPUT: true; the input reads as it did. -/
def fnExactSendMessageSpec : ChangeSpec := { name := "fnExactSendMessage", fn := fun _ => fun
  | [d1, d2] => { results := [.lit (.bool true)], args := [d1, d2] }
  | _ => none }
def fnExactSendMessageRow : OpenClaim := { program := "ytbelplonlcdahaa", sum := "5aa01c972e3a3a719adf4048825f96a91d8374b294c31f34e9cfc06f32bf556d", func := "loop.example/g00792/laws.FnExactSendMessage", spec := "fnExactSendMessage", unfollowed := true, recurses := true, apart := false }
def FnExactSendMessageSaid : Prop := fnExactSendMessageRow.holds Try.pinned (OpenSpec.ofChange fnExactSendMessageSpec)

/-- ITS FALSE NEIGHBOUR: 'it returns false'. Refute it at one input. -/
def fnExactSendMessageWrong : ChangeSpec := { name := "fnExactSendMessage", fn := fun _ => fun
  | [d1, d2] => { results := [.lit (.bool false)], args := [d1, d2] }
  | _ => none }
def FnExactSendMessageWrongFalsely : Prop := fnExactSendMessageRow.holds Try.pinned (OpenSpec.ofChange fnExactSendMessageWrong)

/-- 'laws.FnExactNextCell': WHATEVER THE INPUT: true; the input reads as it did. -/
def fnExactNextCellSpec : ChangeSpec := { name := "fnExactNextCell", fn := fun _ => fun
  | [d1, d2] => { results := [.lit (.bool true)], args := [d1, d2] }
  | _ => none }
def fnExactNextCellRow : OpenClaim := { program := "ytbelplonlcdahaa", sum := "5aa01c972e3a3a719adf4048825f96a91d8374b294c31f34e9cfc06f32bf556d", func := "loop.example/g00792/laws.FnExactNextCell", spec := "fnExactNextCell", unfollowed := true, recurses := true, apart := false }
def FnExactNextCellSaid : Prop := fnExactNextCellRow.holds Try.pinned (OpenSpec.ofChange fnExactNextCellSpec)

/-- ITS FALSE NEIGHBOUR: 'it returns false'. Refute it at one input. -/
def fnExactNextCellWrong : ChangeSpec := { name := "fnExactNextCell", fn := fun _ => fun
  | [d1, d2] => { results := [.lit (.bool false)], args := [d1, d2] }
  | _ => none }
def FnExactNextCellWrongFalsely : Prop := fnExactNextCellRow.holds Try.pinned (OpenSpec.ofChange fnExactNextCellWrong)

/-- 'laws.FnExactHearAck': WHATEVER THE INPUT: true; the input reads as it did. -/
def fnExactHearAckSpec : ChangeSpec := { name := "fnExactHearAck", fn := fun _ => fun
  | [d1, d2, d3] => { results := [.lit (.bool true)], args := [d1, d2, d3] }
  | _ => none }
def fnExactHearAckRow : OpenClaim := { program := "ytbelplonlcdahaa", sum := "5aa01c972e3a3a719adf4048825f96a91d8374b294c31f34e9cfc06f32bf556d", func := "loop.example/g00792/laws.FnExactHearAck", spec := "fnExactHearAck", unfollowed := true, recurses := true, apart := false }
def FnExactHearAckSaid : Prop := fnExactHearAckRow.holds Try.pinned (OpenSpec.ofChange fnExactHearAckSpec)

/-- ITS FALSE NEIGHBOUR: 'it returns false'. Refute it at one input. -/
def fnExactHearAckWrong : ChangeSpec := { name := "fnExactHearAck", fn := fun _ => fun
  | [d1, d2, d3] => { results := [.lit (.bool false)], args := [d1, d2, d3] }
  | _ => none }
def FnExactHearAckWrongFalsely : Prop := fnExactHearAckRow.holds Try.pinned (OpenSpec.ofChange fnExactHearAckWrong)

/-- 'laws.FnExactReceiverFault': WHATEVER THE INPUT: true; the input reads as it did. -/
def fnExactReceiverFaultSpec : ChangeSpec := { name := "fnExactReceiverFault", fn := fun _ => fun
  | [d] => { results := [.lit (.bool true)], args := [d] }
  | _ => none }
def fnExactReceiverFaultRow : OpenClaim := { program := "ytbelplonlcdahaa", sum := "5aa01c972e3a3a719adf4048825f96a91d8374b294c31f34e9cfc06f32bf556d", func := "loop.example/g00792/laws.FnExactReceiverFault", spec := "fnExactReceiverFault", apart := false }
def FnExactReceiverFaultSaid : Prop := fnExactReceiverFaultRow.holds Try.pinned (OpenSpec.ofChange fnExactReceiverFaultSpec)

/-- ITS FALSE NEIGHBOUR: 'it returns false'. Refute it at one input. -/
def fnExactReceiverFaultWrong : ChangeSpec := { name := "fnExactReceiverFault", fn := fun _ => fun
  | [d] => { results := [.lit (.bool false)], args := [d] }
  | _ => none }
def FnExactReceiverFaultWrongFalsely : Prop := fnExactReceiverFaultRow.holds Try.pinned (OpenSpec.ofChange fnExactReceiverFaultWrong)

/-- 'laws.FnExactHearData': WHATEVER THE INPUT: true; the input reads as it did. -/
def fnExactHearDataSpec : ChangeSpec := { name := "fnExactHearData", fn := fun _ => fun
  | [d1, d2] => { results := [.lit (.bool true)], args := [d1, d2] }
  | _ => none }
def fnExactHearDataRow : OpenClaim := { program := "ytbelplonlcdahaa", sum := "5aa01c972e3a3a719adf4048825f96a91d8374b294c31f34e9cfc06f32bf556d", func := "loop.example/g00792/laws.FnExactHearData", spec := "fnExactHearData", inPlace := ["slices.overlaps[loop.example/g00792/impl.Held]"], unfollowed := true, recurses := true, apart := false }
def FnExactHearDataSaid : Prop := fnExactHearDataRow.holds Try.pinned (OpenSpec.ofChange fnExactHearDataSpec)

/-- ITS FALSE NEIGHBOUR: 'it returns false'. Refute it at one input. -/
def fnExactHearDataWrong : ChangeSpec := { name := "fnExactHearData", fn := fun _ => fun
  | [d1, d2] => { results := [.lit (.bool false)], args := [d1, d2] }
  | _ => none }
def FnExactHearDataWrongFalsely : Prop := fnExactHearDataRow.holds Try.pinned (OpenSpec.ofChange fnExactHearDataWrong)

/-- 'laws.FnExactAckOf': WHATEVER THE INPUT: true; the input reads as it did. -/
def fnExactAckOfSpec : ChangeSpec := { name := "fnExactAckOf", fn := fun _ => fun
  | [d] => { results := [.lit (.bool true)], args := [d] }
  | _ => none }
def fnExactAckOfRow : OpenClaim := { program := "ytbelplonlcdahaa", sum := "5aa01c972e3a3a719adf4048825f96a91d8374b294c31f34e9cfc06f32bf556d", func := "loop.example/g00792/laws.FnExactAckOf", spec := "fnExactAckOf", apart := false }
def FnExactAckOfSaid : Prop := fnExactAckOfRow.holds Try.pinned (OpenSpec.ofChange fnExactAckOfSpec)

/-- ITS FALSE NEIGHBOUR: 'it returns false'. Refute it at one input. -/
def fnExactAckOfWrong : ChangeSpec := { name := "fnExactAckOf", fn := fun _ => fun
  | [d] => { results := [.lit (.bool false)], args := [d] }
  | _ => none }
def FnExactAckOfWrongFalsely : Prop := fnExactAckOfRow.holds Try.pinned (OpenSpec.ofChange fnExactAckOfWrong)

/-- 'laws.FnExactSameSenders': WHATEVER THE INPUT: true; the input reads as it did. -/
def fnExactSameSendersSpec : ChangeSpec := { name := "fnExactSameSenders", fn := fun _ => fun
  | [d1, d2] => { results := [.lit (.bool true)], args := [d1, d2] }
  | _ => none }
def fnExactSameSendersRow : OpenClaim := { program := "ytbelplonlcdahaa", sum := "5aa01c972e3a3a719adf4048825f96a91d8374b294c31f34e9cfc06f32bf556d", func := "loop.example/g00792/laws.FnExactSameSenders", spec := "fnExactSameSenders", unfollowed := true, recurses := true, apart := false }
def FnExactSameSendersSaid : Prop := fnExactSameSendersRow.holds Try.pinned (OpenSpec.ofChange fnExactSameSendersSpec)

/-- ITS FALSE NEIGHBOUR: 'it returns false'. Refute it at one input. -/
def fnExactSameSendersWrong : ChangeSpec := { name := "fnExactSameSenders", fn := fun _ => fun
  | [d1, d2] => { results := [.lit (.bool false)], args := [d1, d2] }
  | _ => none }
def FnExactSameSendersWrongFalsely : Prop := fnExactSameSendersRow.holds Try.pinned (OpenSpec.ofChange fnExactSameSendersWrong)

/-- 'laws.FnExactSameReceivers': WHATEVER THE INPUT: true; the input reads as it did. -/
def fnExactSameReceiversSpec : ChangeSpec := { name := "fnExactSameReceivers", fn := fun _ => fun
  | [d1, d2] => { results := [.lit (.bool true)], args := [d1, d2] }
  | _ => none }
def fnExactSameReceiversRow : OpenClaim := { program := "ytbelplonlcdahaa", sum := "5aa01c972e3a3a719adf4048825f96a91d8374b294c31f34e9cfc06f32bf556d", func := "loop.example/g00792/laws.FnExactSameReceivers", spec := "fnExactSameReceivers", unfollowed := true, recurses := true, apart := false }
def FnExactSameReceiversSaid : Prop := fnExactSameReceiversRow.holds Try.pinned (OpenSpec.ofChange fnExactSameReceiversSpec)

/-- ITS FALSE NEIGHBOUR: 'it returns false'. Refute it at one input. -/
def fnExactSameReceiversWrong : ChangeSpec := { name := "fnExactSameReceivers", fn := fun _ => fun
  | [d1, d2] => { results := [.lit (.bool false)], args := [d1, d2] }
  | _ => none }
def FnExactSameReceiversWrongFalsely : Prop := fnExactSameReceiversRow.holds Try.pinned (OpenSpec.ofChange fnExactSameReceiversWrong)

/- THE SECOND FORM. 'bulk': how many values and letters a reading holds, each counted each time it is reached (what is shared counts as often as it is met; a slice's spare places count too). A statement '..UptoSaid' is the law's where the arguments, and the package variables that the reading takes, are together of bulk at most 1048576: NARROWER than '..Said'. Prove '..Said' where nothing that the law and all that it calls make is longer than what came in: it says more and counts as full. Else prove '..UptoSaid'. A law counts once. -/
mutual
def uptoBulk {H : Type} : DataW H → Nat
  | .lit (.string bytes) => bytes.length + 1
  | .lit _ => 1
  | .nil => 1
  | .ptr d => uptoBulk d + 1
  | .slice elems spare => uptoBulkAll elems + uptoBulkAll spare + 1
  | .agg parts => uptoBulkAll parts + 1
  | .iface _ d => uptoBulk d + 1
  | .map entries => uptoBulkEntries entries + 1
  | .held _ => 1
def uptoBulkAll {H : Type} : List (DataW H) → Nat
  | [] => 0
  | d :: r => uptoBulk d + uptoBulkAll r
def uptoBulkEntries {H : Type} : List (Lit × DataW H) → Nat
  | [] => 0
  | x :: r => uptoBulkEntry x + uptoBulkEntries r
def uptoBulkEntry {H : Type} : Lit × DataW H → Nat
  | (.string bytes, d) => bytes.length + uptoBulk d + 1
  | (_, d) => uptoBulk d + 1
 end
def uptoSmall : (H : Type) → List (DataW H) → Bool := fun _ ds => decide (uptoBulkAll ds ≤ 1048576)
def OpenSpec.upto (s : _root_.Go.ChangeSpec) : _root_.Go.OpenSpec := { _root_.Go.OpenSpec.ofChange s with cond := some uptoSmall }

/-- 'laws.FnSenders', WHERE WHAT IT READS IS OF BULK AT MOST 1048576: true; the input reads as it did. -/
def fnSendersUptoRow : OpenClaim := { program := "ytbelplonlcdahaa", sum := "5aa01c972e3a3a719adf4048825f96a91d8374b294c31f34e9cfc06f32bf556d", func := "loop.example/g00792/laws.FnSenders", spec := "fnSenders", unfollowed := true, recurses := true, apart := false, narrowed := true }
def FnSendersUptoSaid : Prop := fnSendersUptoRow.holds Try.pinned (OpenSpec.upto fnSendersSpec)

/-- 'laws.FnAcks', WHERE WHAT IT READS IS OF BULK AT MOST 1048576: true; the input reads as it did. -/
def fnAcksUptoRow : OpenClaim := { program := "ytbelplonlcdahaa", sum := "5aa01c972e3a3a719adf4048825f96a91d8374b294c31f34e9cfc06f32bf556d", func := "loop.example/g00792/laws.FnAcks", spec := "fnAcks", unfollowed := true, recurses := true, apart := false, narrowed := true }
def FnAcksUptoSaid : Prop := fnAcksUptoRow.holds Try.pinned (OpenSpec.upto fnAcksSpec)

/-- 'laws.FnReceivers', WHERE WHAT IT READS IS OF BULK AT MOST 1048576: true; the input reads as it did. -/
def fnReceiversUptoRow : OpenClaim := { program := "ytbelplonlcdahaa", sum := "5aa01c972e3a3a719adf4048825f96a91d8374b294c31f34e9cfc06f32bf556d", func := "loop.example/g00792/laws.FnReceivers", spec := "fnReceivers", inPlace := ["slices.overlaps[loop.example/g00792/impl.Held]"], unfollowed := true, recurses := true, apart := false, narrowed := true }
def FnReceiversUptoSaid : Prop := fnReceiversUptoRow.holds Try.pinned (OpenSpec.upto fnReceiversSpec)

/-- 'laws.FnExactSenderFault', WHERE WHAT IT READS IS OF BULK AT MOST 1048576: true; the input reads as it did. -/
def fnExactSenderFaultUptoRow : OpenClaim := { program := "ytbelplonlcdahaa", sum := "5aa01c972e3a3a719adf4048825f96a91d8374b294c31f34e9cfc06f32bf556d", func := "loop.example/g00792/laws.FnExactSenderFault", spec := "fnExactSenderFault", apart := false, narrowed := true }
def FnExactSenderFaultUptoSaid : Prop := fnExactSenderFaultUptoRow.holds Try.pinned (OpenSpec.upto fnExactSenderFaultSpec)

/-- 'laws.FnExactSendMessage', WHERE WHAT IT READS IS OF BULK AT MOST 1048576: true; the input reads as it did. -/
def fnExactSendMessageUptoRow : OpenClaim := { program := "ytbelplonlcdahaa", sum := "5aa01c972e3a3a719adf4048825f96a91d8374b294c31f34e9cfc06f32bf556d", func := "loop.example/g00792/laws.FnExactSendMessage", spec := "fnExactSendMessage", unfollowed := true, recurses := true, apart := false, narrowed := true }
def FnExactSendMessageUptoSaid : Prop := fnExactSendMessageUptoRow.holds Try.pinned (OpenSpec.upto fnExactSendMessageSpec)

/-- 'laws.FnExactNextCell', WHERE WHAT IT READS IS OF BULK AT MOST 1048576: true; the input reads as it did. -/
def fnExactNextCellUptoRow : OpenClaim := { program := "ytbelplonlcdahaa", sum := "5aa01c972e3a3a719adf4048825f96a91d8374b294c31f34e9cfc06f32bf556d", func := "loop.example/g00792/laws.FnExactNextCell", spec := "fnExactNextCell", unfollowed := true, recurses := true, apart := false, narrowed := true }
def FnExactNextCellUptoSaid : Prop := fnExactNextCellUptoRow.holds Try.pinned (OpenSpec.upto fnExactNextCellSpec)

/-- 'laws.FnExactHearAck', WHERE WHAT IT READS IS OF BULK AT MOST 1048576: true; the input reads as it did. -/
def fnExactHearAckUptoRow : OpenClaim := { program := "ytbelplonlcdahaa", sum := "5aa01c972e3a3a719adf4048825f96a91d8374b294c31f34e9cfc06f32bf556d", func := "loop.example/g00792/laws.FnExactHearAck", spec := "fnExactHearAck", unfollowed := true, recurses := true, apart := false, narrowed := true }
def FnExactHearAckUptoSaid : Prop := fnExactHearAckUptoRow.holds Try.pinned (OpenSpec.upto fnExactHearAckSpec)

/-- 'laws.FnExactReceiverFault', WHERE WHAT IT READS IS OF BULK AT MOST 1048576: true; the input reads as it did. -/
def fnExactReceiverFaultUptoRow : OpenClaim := { program := "ytbelplonlcdahaa", sum := "5aa01c972e3a3a719adf4048825f96a91d8374b294c31f34e9cfc06f32bf556d", func := "loop.example/g00792/laws.FnExactReceiverFault", spec := "fnExactReceiverFault", apart := false, narrowed := true }
def FnExactReceiverFaultUptoSaid : Prop := fnExactReceiverFaultUptoRow.holds Try.pinned (OpenSpec.upto fnExactReceiverFaultSpec)

/-- 'laws.FnExactHearData', WHERE WHAT IT READS IS OF BULK AT MOST 1048576: true; the input reads as it did. -/
def fnExactHearDataUptoRow : OpenClaim := { program := "ytbelplonlcdahaa", sum := "5aa01c972e3a3a719adf4048825f96a91d8374b294c31f34e9cfc06f32bf556d", func := "loop.example/g00792/laws.FnExactHearData", spec := "fnExactHearData", inPlace := ["slices.overlaps[loop.example/g00792/impl.Held]"], unfollowed := true, recurses := true, apart := false, narrowed := true }
def FnExactHearDataUptoSaid : Prop := fnExactHearDataUptoRow.holds Try.pinned (OpenSpec.upto fnExactHearDataSpec)

/-- 'laws.FnExactAckOf', WHERE WHAT IT READS IS OF BULK AT MOST 1048576: true; the input reads as it did. -/
def fnExactAckOfUptoRow : OpenClaim := { program := "ytbelplonlcdahaa", sum := "5aa01c972e3a3a719adf4048825f96a91d8374b294c31f34e9cfc06f32bf556d", func := "loop.example/g00792/laws.FnExactAckOf", spec := "fnExactAckOf", apart := false, narrowed := true }
def FnExactAckOfUptoSaid : Prop := fnExactAckOfUptoRow.holds Try.pinned (OpenSpec.upto fnExactAckOfSpec)

/-- 'laws.FnExactSameSenders', WHERE WHAT IT READS IS OF BULK AT MOST 1048576: true; the input reads as it did. -/
def fnExactSameSendersUptoRow : OpenClaim := { program := "ytbelplonlcdahaa", sum := "5aa01c972e3a3a719adf4048825f96a91d8374b294c31f34e9cfc06f32bf556d", func := "loop.example/g00792/laws.FnExactSameSenders", spec := "fnExactSameSenders", unfollowed := true, recurses := true, apart := false, narrowed := true }
def FnExactSameSendersUptoSaid : Prop := fnExactSameSendersUptoRow.holds Try.pinned (OpenSpec.upto fnExactSameSendersSpec)

/-- 'laws.FnExactSameReceivers', WHERE WHAT IT READS IS OF BULK AT MOST 1048576: true; the input reads as it did. -/
def fnExactSameReceiversUptoRow : OpenClaim := { program := "ytbelplonlcdahaa", sum := "5aa01c972e3a3a719adf4048825f96a91d8374b294c31f34e9cfc06f32bf556d", func := "loop.example/g00792/laws.FnExactSameReceivers", spec := "fnExactSameReceivers", unfollowed := true, recurses := true, apart := false, narrowed := true }
def FnExactSameReceiversUptoSaid : Prop := fnExactSameReceiversUptoRow.holds Try.pinned (OpenSpec.upto fnExactSameReceiversSpec)

end Rows
end Go.Proofs.Ytbelplonlcdahaa
