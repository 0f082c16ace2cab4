/-
  No cell of these rows narrows 'for every input' (looked for: loops, veiled, ifaces, maps, wideKeys, modest, calm, conditions, laid).
  DERIVED. THE GIVEN ROWS OF THIS SEAT. 9 by the template 'for every input the law returns true; each argument reads behind the call as it read before'; 0 by the template 'total and deterministic' (their statements: YtjpnacgdefgalaaTotals.lean).
  GIVEN WITH THE SEED: the statements are not yours to turn. If you find one false, say at which input.
  Laid BY PROGRAM, IN A SANDBOX (cutbox-rows.mjs): the forced cells as the released guide's own fill.sh prints them over the translation 7ffae98001df2016… (all of the seat's roots in one cut). By AI agents, Wed Nov 11 2026. No macro, syntax, notation, axiom, sorry.
-/
import Derived.Test.YtjpnacgdefgalaaChecked
import GoSem.Claim
import GoSem.ClaimJoined
import GoSem.ClaimMapViews
import Derived.JoinedTies
import Derived.KernelRfl
namespace Go.Proofs.Ytjpnacgdefgalaa
/- THE CELL 'sum', in the pinned program and in every row, IS THE sha256 OF THE DUMP (.gsa) THAT YtjpnacgdefgalaaProg.lean LOADS. Nothing in Lean hashes anything: it is a label: what it is worth is what the hold of that sum in a sandbox is worth. -/
noncomputable def Try.pinned : Pinned := { name := "ytjpnacgdefgalaa", sum := "7ffae98001df2016d120900670ba80aa7594d7228dcf0a6dd568936eb80c1420", checked := Try.checked }
namespace Rows
def none {H : Type} : Left H := { results := [], args := [] }

/-- 'laws.FnExactEndFault': WHATEVER THE INPUT: true; the input reads as it did. -/
def fnExactEndFaultSpec : ChangeSpec := { name := "fnExactEndFault", fn := fun _ => fun
  | [d] => { results := [.lit (.bool true)], args := [d] }
  | _ => none }
def fnExactEndFaultRow : OpenClaim := { program := "ytjpnacgdefgalaa", sum := "7ffae98001df2016d120900670ba80aa7594d7228dcf0a6dd568936eb80c1420", func := "loop.example/g00792/laws.FnExactEndFault", spec := "fnExactEndFault", apart := false }
def FnExactEndFaultSaid : Prop := fnExactEndFaultRow.holds Try.pinned (OpenSpec.ofChange fnExactEndFaultSpec)

/-- ITS FALSE NEIGHBOUR: 'it returns false'. Refute it at one input. -/
def fnExactEndFaultWrong : ChangeSpec := { name := "fnExactEndFault", fn := fun _ => fun
  | [d] => { results := [.lit (.bool false)], args := [d] }
  | _ => none }
def FnExactEndFaultWrongFalsely : Prop := fnExactEndFaultRow.holds Try.pinned (OpenSpec.ofChange fnExactEndFaultWrong)

/-- 'laws.FnExactSendEnd': WHATEVER THE INPUT: true; the input reads as it did. -/
def fnExactSendEndSpec : ChangeSpec := { name := "fnExactSendEnd", fn := fun _ => fun
  | [d1, d2] => { results := [.lit (.bool true)], args := [d1, d2] }
  | _ => none }
def fnExactSendEndRow : OpenClaim := { program := "ytjpnacgdefgalaa", sum := "7ffae98001df2016d120900670ba80aa7594d7228dcf0a6dd568936eb80c1420", func := "loop.example/g00792/laws.FnExactSendEnd", spec := "fnExactSendEnd", unfollowed := true, recurses := true, apart := false }
def FnExactSendEndSaid : Prop := fnExactSendEndRow.holds Try.pinned (OpenSpec.ofChange fnExactSendEndSpec)

/-- ITS FALSE NEIGHBOUR: 'it returns false'. Refute it at one input. -/
def fnExactSendEndWrong : ChangeSpec := { name := "fnExactSendEnd", fn := fun _ => fun
  | [d1, d2] => { results := [.lit (.bool false)], args := [d1, d2] }
  | _ => none }
def FnExactSendEndWrongFalsely : Prop := fnExactSendEndRow.holds Try.pinned (OpenSpec.ofChange fnExactSendEndWrong)

/-- 'laws.FnExactCellEnd': WHATEVER THE INPUT: true; the input reads as it did. -/
def fnExactCellEndSpec : ChangeSpec := { name := "fnExactCellEnd", fn := fun _ => fun
  | [d] => { results := [.lit (.bool true)], args := [d] }
  | _ => none }
def fnExactCellEndRow : OpenClaim := { program := "ytjpnacgdefgalaa", sum := "7ffae98001df2016d120900670ba80aa7594d7228dcf0a6dd568936eb80c1420", func := "loop.example/g00792/laws.FnExactCellEnd", spec := "fnExactCellEnd", unfollowed := true, recurses := true, apart := false }
def FnExactCellEndSaid : Prop := fnExactCellEndRow.holds Try.pinned (OpenSpec.ofChange fnExactCellEndSpec)

/-- ITS FALSE NEIGHBOUR: 'it returns false'. Refute it at one input. -/
def fnExactCellEndWrong : ChangeSpec := { name := "fnExactCellEnd", fn := fun _ => fun
  | [d] => { results := [.lit (.bool false)], args := [d] }
  | _ => none }
def FnExactCellEndWrongFalsely : Prop := fnExactCellEndRow.holds Try.pinned (OpenSpec.ofChange fnExactCellEndWrong)

/-- 'laws.FnExactSameEnds': WHATEVER THE INPUT: true; the input reads as it did. -/
def fnExactSameEndsSpec : ChangeSpec := { name := "fnExactSameEnds", fn := fun _ => fun
  | [d1, d2] => { results := [.lit (.bool true)], args := [d1, d2] }
  | _ => none }
def fnExactSameEndsRow : OpenClaim := { program := "ytjpnacgdefgalaa", sum := "7ffae98001df2016d120900670ba80aa7594d7228dcf0a6dd568936eb80c1420", func := "loop.example/g00792/laws.FnExactSameEnds", spec := "fnExactSameEnds", unfollowed := true, recurses := true, apart := false }
def FnExactSameEndsSaid : Prop := fnExactSameEndsRow.holds Try.pinned (OpenSpec.ofChange fnExactSameEndsSpec)

/-- ITS FALSE NEIGHBOUR: 'it returns false'. Refute it at one input. -/
def fnExactSameEndsWrong : ChangeSpec := { name := "fnExactSameEnds", fn := fun _ => fun
  | [d1, d2] => { results := [.lit (.bool false)], args := [d1, d2] }
  | _ => none }
def FnExactSameEndsWrongFalsely : Prop := fnExactSameEndsRow.holds Try.pinned (OpenSpec.ofChange fnExactSameEndsWrong)

/-- 'laws.FnExactSendMessage': WHATEVER THE INPUT: true; the input reads as it did. -/
def fnExactSendMessageSpec : ChangeSpec := { name := "fnExactSendMessage", fn := fun _ => fun
  | [d1, d2] => { results := [.lit (.bool true)], args := [d1, d2] }
  | _ => none }
def fnExactSendMessageRow : OpenClaim := { program := "ytjpnacgdefgalaa", sum := "7ffae98001df2016d120900670ba80aa7594d7228dcf0a6dd568936eb80c1420", func := "loop.example/g00792/laws.FnExactSendMessage", spec := "fnExactSendMessage", unfollowed := true, recurses := true, apart := false }
def FnExactSendMessageSaid : Prop := fnExactSendMessageRow.holds Try.pinned (OpenSpec.ofChange fnExactSendMessageSpec)

/-- ITS FALSE NEIGHBOUR: 'it returns false'. Refute it at one input. -/
def fnExactSendMessageWrong : ChangeSpec := { name := "fnExactSendMessage", fn := fun _ => fun
  | [d1, d2] => { results := [.lit (.bool false)], args := [d1, d2] }
  | _ => none }
def FnExactSendMessageWrongFalsely : Prop := fnExactSendMessageRow.holds Try.pinned (OpenSpec.ofChange fnExactSendMessageWrong)

/-- 'laws.FnExactHearData': WHATEVER THE INPUT: true; the input reads as it did. -/
def fnExactHearDataSpec : ChangeSpec := { name := "fnExactHearData", fn := fun _ => fun
  | [d1, d2] => { results := [.lit (.bool true)], args := [d1, d2] }
  | _ => none }
def fnExactHearDataRow : OpenClaim := { program := "ytjpnacgdefgalaa", sum := "7ffae98001df2016d120900670ba80aa7594d7228dcf0a6dd568936eb80c1420", func := "loop.example/g00792/laws.FnExactHearData", spec := "fnExactHearData", inPlace := ["slices.overlaps[loop.example/g00792/impl.Held]"], unfollowed := true, recurses := true, apart := false }
def FnExactHearDataSaid : Prop := fnExactHearDataRow.holds Try.pinned (OpenSpec.ofChange fnExactHearDataSpec)

/-- ITS FALSE NEIGHBOUR: 'it returns false'. Refute it at one input. -/
def fnExactHearDataWrong : ChangeSpec := { name := "fnExactHearData", fn := fun _ => fun
  | [d1, d2] => { results := [.lit (.bool false)], args := [d1, d2] }
  | _ => none }
def FnExactHearDataWrongFalsely : Prop := fnExactHearDataRow.holds Try.pinned (OpenSpec.ofChange fnExactHearDataWrong)

/-- 'laws.FnSenders': WHATEVER THE INPUT: true; the input reads as it did. -/
def fnSendersSpec : ChangeSpec := { name := "fnSenders", fn := fun _ => fun
  | [d] => { results := [.lit (.bool true)], args := [d] }
  | _ => none }
def fnSendersRow : OpenClaim := { program := "ytjpnacgdefgalaa", sum := "7ffae98001df2016d120900670ba80aa7594d7228dcf0a6dd568936eb80c1420", func := "loop.example/g00792/laws.FnSenders", spec := "fnSenders", unfollowed := true, recurses := true, apart := false }
def FnSendersSaid : Prop := fnSendersRow.holds Try.pinned (OpenSpec.ofChange fnSendersSpec)

/-- ITS FALSE NEIGHBOUR: 'it returns false'. Refute it at one input. -/
def fnSendersWrong : ChangeSpec := { name := "fnSenders", fn := fun _ => fun
  | [d] => { results := [.lit (.bool false)], args := [d] }
  | _ => none }
def FnSendersWrongFalsely : Prop := fnSendersRow.holds Try.pinned (OpenSpec.ofChange fnSendersWrong)

/-- 'laws.FnAcks': WHATEVER THE INPUT: true; the input reads as it did. -/
def fnAcksSpec : ChangeSpec := { name := "fnAcks", fn := fun _ => fun
  | [d] => { results := [.lit (.bool true)], args := [d] }
  | _ => none }
def fnAcksRow : OpenClaim := { program := "ytjpnacgdefgalaa", sum := "7ffae98001df2016d120900670ba80aa7594d7228dcf0a6dd568936eb80c1420", func := "loop.example/g00792/laws.FnAcks", spec := "fnAcks", unfollowed := true, recurses := true, apart := false }
def FnAcksSaid : Prop := fnAcksRow.holds Try.pinned (OpenSpec.ofChange fnAcksSpec)

/-- ITS FALSE NEIGHBOUR: 'it returns false'. Refute it at one input. -/
def fnAcksWrong : ChangeSpec := { name := "fnAcks", fn := fun _ => fun
  | [d] => { results := [.lit (.bool false)], args := [d] }
  | _ => none }
def FnAcksWrongFalsely : Prop := fnAcksRow.holds Try.pinned (OpenSpec.ofChange fnAcksWrong)

/-- 'laws.FnReceivers': WHATEVER THE INPUT: true; the input reads as it did. -/
def fnReceiversSpec : ChangeSpec := { name := "fnReceivers", fn := fun _ => fun
  | [d] => { results := [.lit (.bool true)], args := [d] }
  | _ => none }
def fnReceiversRow : OpenClaim := { program := "ytjpnacgdefgalaa", sum := "7ffae98001df2016d120900670ba80aa7594d7228dcf0a6dd568936eb80c1420", func := "loop.example/g00792/laws.FnReceivers", spec := "fnReceivers", inPlace := ["slices.overlaps[loop.example/g00792/impl.Held]"], unfollowed := true, recurses := true, apart := false }
def FnReceiversSaid : Prop := fnReceiversRow.holds Try.pinned (OpenSpec.ofChange fnReceiversSpec)

/-- ITS FALSE NEIGHBOUR: 'it returns false'. Refute it at one input. -/
def fnReceiversWrong : ChangeSpec := { name := "fnReceivers", fn := fun _ => fun
  | [d] => { results := [.lit (.bool false)], args := [d] }
  | _ => none }
def FnReceiversWrongFalsely : Prop := fnReceiversRow.holds Try.pinned (OpenSpec.ofChange fnReceiversWrong)

/- THE SECOND FORM. 'bulk': how many values and letters a reading holds, each counted each time it is reached (what is shared counts as often as it is met; a slice's spare places count too). A statement '..UptoSaid' is the law's where the arguments, and the package variables that the reading takes, are together of bulk at most 1048576: NARROWER than '..Said'. Prove '..Said' where nothing that the law and all that it calls make is longer than what came in: it says more and counts as full. Else prove '..UptoSaid'. A law counts once. -/
mutual
def uptoBulk {H : Type} : DataW H → Nat
  | .lit (.string bytes) => bytes.length + 1
  | .lit _ => 1
  | .nil => 1
  | .ptr d => uptoBulk d + 1
  | .slice elems spare => uptoBulkAll elems + uptoBulkAll spare + 1
  | .agg parts => uptoBulkAll parts + 1
  | .iface _ d => uptoBulk d + 1
  | .map entries => uptoBulkEntries entries + 1
  | .held _ => 1
def uptoBulkAll {H : Type} : List (DataW H) → Nat
  | [] => 0
  | d :: r => uptoBulk d + uptoBulkAll r
def uptoBulkEntries {H : Type} : List (Lit × DataW H) → Nat
  | [] => 0
  | x :: r => uptoBulkEntry x + uptoBulkEntries r
def uptoBulkEntry {H : Type} : Lit × DataW H → Nat
  | (.string bytes, d) => bytes.length + uptoBulk d + 1
  | (_, d) => uptoBulk d + 1
 end
def uptoSmall : (H : Type) → List (DataW H) → Bool := fun _ ds => decide (uptoBulkAll ds ≤ 1048576)
def OpenSpec.upto (s : _root_.Go.ChangeSpec) : _root_.Go.OpenSpec := { _root_.Go.OpenSpec.ofChange s with cond := some uptoSmall }

/-- 'laws.FnExactEndFault', WHERE WHAT IT READS IS OF BULK AT MOST 1048576: true; the input reads as it did. -/
def fnExactEndFaultUptoRow : OpenClaim := { program := "ytjpnacgdefgalaa", sum := "7ffae98001df2016d120900670ba80aa7594d7228dcf0a6dd568936eb80c1420", func := "loop.example/g00792/laws.FnExactEndFault", spec := "fnExactEndFault", apart := false, narrowed := true }
def FnExactEndFaultUptoSaid : Prop := fnExactEndFaultUptoRow.holds Try.pinned (OpenSpec.upto fnExactEndFaultSpec)

/-- 'laws.FnExactSendEnd', WHERE WHAT IT READS IS OF BULK AT MOST 1048576: true; the input reads as it did. -/
def fnExactSendEndUptoRow : OpenClaim := { program := "ytjpnacgdefgalaa", sum := "7ffae98001df2016d120900670ba80aa7594d7228dcf0a6dd568936eb80c1420", func := "loop.example/g00792/laws.FnExactSendEnd", spec := "fnExactSendEnd", unfollowed := true, recurses := true, apart := false, narrowed := true }
def FnExactSendEndUptoSaid : Prop := fnExactSendEndUptoRow.holds Try.pinned (OpenSpec.upto fnExactSendEndSpec)

/-- 'laws.FnExactCellEnd', WHERE WHAT IT READS IS OF BULK AT MOST 1048576: true; the input reads as it did. -/
def fnExactCellEndUptoRow : OpenClaim := { program := "ytjpnacgdefgalaa", sum := "7ffae98001df2016d120900670ba80aa7594d7228dcf0a6dd568936eb80c1420", func := "loop.example/g00792/laws.FnExactCellEnd", spec := "fnExactCellEnd", unfollowed := true, recurses := true, apart := false, narrowed := true }
def FnExactCellEndUptoSaid : Prop := fnExactCellEndUptoRow.holds Try.pinned (OpenSpec.upto fnExactCellEndSpec)

/-- 'laws.FnExactSameEnds', WHERE WHAT IT READS IS OF BULK AT MOST 1048576: true; the input reads as it did. -/
def fnExactSameEndsUptoRow : OpenClaim := { program := "ytjpnacgdefgalaa", sum := "7ffae98001df2016d120900670ba80aa7594d7228dcf0a6dd568936eb80c1420", func := "loop.example/g00792/laws.FnExactSameEnds", spec := "fnExactSameEnds", unfollowed := true, recurses := true, apart := false, narrowed := true }
def FnExactSameEndsUptoSaid : Prop := fnExactSameEndsUptoRow.holds Try.pinned (OpenSpec.upto fnExactSameEndsSpec)

/-- 'laws.FnExactSendMessage', WHERE WHAT IT READS IS OF BULK AT MOST 1048576: true; the input reads as it did. -/
def fnExactSendMessageUptoRow : OpenClaim := { program := "ytjpnacgdefgalaa", sum := "7ffae98001df2016d120900670ba80aa7594d7228dcf0a6dd568936eb80c1420", func := "loop.example/g00792/laws.FnExactSendMessage", spec := "fnExactSendMessage", unfollowed := true, recurses := true, apart := false, narrowed := true }
def FnExactSendMessageUptoSaid : Prop := fnExactSendMessageUptoRow.holds Try.pinned (OpenSpec.upto fnExactSendMessageSpec)

/-- 'laws.FnExactHearData', WHERE WHAT IT READS IS OF BULK AT MOST 1048576: true; the input reads as it did. -/
def fnExactHearDataUptoRow : OpenClaim := { program := "ytjpnacgdefgalaa", sum := "7ffae98001df2016d120900670ba80aa7594d7228dcf0a6dd568936eb80c1420", func := "loop.example/g00792/laws.FnExactHearData", spec := "fnExactHearData", inPlace := ["slices.overlaps[loop.example/g00792/impl.Held]"], unfollowed := true, recurses := true, apart := false, narrowed := true }
def FnExactHearDataUptoSaid : Prop := fnExactHearDataUptoRow.holds Try.pinned (OpenSpec.upto fnExactHearDataSpec)

/-- 'laws.FnSenders', WHERE WHAT IT READS IS OF BULK AT MOST 1048576: true; the input reads as it did. -/
def fnSendersUptoRow : OpenClaim := { program := "ytjpnacgdefgalaa", sum := "7ffae98001df2016d120900670ba80aa7594d7228dcf0a6dd568936eb80c1420", func := "loop.example/g00792/laws.FnSenders", spec := "fnSenders", unfollowed := true, recurses := true, apart := false, narrowed := true }
def FnSendersUptoSaid : Prop := fnSendersUptoRow.holds Try.pinned (OpenSpec.upto fnSendersSpec)

/-- 'laws.FnAcks', WHERE WHAT IT READS IS OF BULK AT MOST 1048576: true; the input reads as it did. -/
def fnAcksUptoRow : OpenClaim := { program := "ytjpnacgdefgalaa", sum := "7ffae98001df2016d120900670ba80aa7594d7228dcf0a6dd568936eb80c1420", func := "loop.example/g00792/laws.FnAcks", spec := "fnAcks", unfollowed := true, recurses := true, apart := false, narrowed := true }
def FnAcksUptoSaid : Prop := fnAcksUptoRow.holds Try.pinned (OpenSpec.upto fnAcksSpec)

/-- 'laws.FnReceivers', WHERE WHAT IT READS IS OF BULK AT MOST 1048576: true; the input reads as it did. -/
def fnReceiversUptoRow : OpenClaim := { program := "ytjpnacgdefgalaa", sum := "7ffae98001df2016d120900670ba80aa7594d7228dcf0a6dd568936eb80c1420", func := "loop.example/g00792/laws.FnReceivers", spec := "fnReceivers", inPlace := ["slices.overlaps[loop.example/g00792/impl.Held]"], unfollowed := true, recurses := true, apart := false, narrowed := true }
def FnReceiversUptoSaid : Prop := fnReceiversUptoRow.holds Try.pinned (OpenSpec.upto fnReceiversSpec)

end Rows
end Go.Proofs.Ytjpnacgdefgalaa
