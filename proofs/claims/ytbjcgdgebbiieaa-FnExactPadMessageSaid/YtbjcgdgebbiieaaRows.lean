/-
  No cell of these rows narrows 'for every input' (looked for: loops, veiled, ifaces, maps, wideKeys, modest, calm, conditions, laid).
  DERIVED. THE GIVEN ROWS OF THIS SEAT. 10 by the template 'for every input the law returns true; each argument reads behind the call as it read before'; 0 by the template 'total and deterministic' (their statements: YtbjcgdgebbiieaaTotals.lean).
  GIVEN WITH THE SEED: the statements are not yours to turn. If you find one false, say at which input.
  Laid BY PROGRAM, IN A SANDBOX (cutbox-rows.mjs): the forced cells as the released guide's own fill.sh prints them over the translation 1642043041be96fa… (all of the seat's roots in one cut). By AI agents, Wed Nov 11 2026. No macro, syntax, notation, axiom, sorry.
-/
import Derived.Test.YtbjcgdgebbiieaaChecked
import GoSem.Claim
import GoSem.ClaimJoined
import GoSem.ClaimMapViews
import Derived.JoinedTies
import Derived.KernelRfl
namespace Go.Proofs.Ytbjcgdgebbiieaa
/- THE CELL 'sum', in the pinned program and in every row, IS THE sha256 OF THE DUMP (.gsa) THAT YtbjcgdgebbiieaaProg.lean LOADS. Nothing in Lean hashes anything: it is a label: what it is worth is what the hold of that sum in a sandbox is worth. -/
noncomputable def Try.pinned : Pinned := { name := "ytbjcgdgebbiieaa", sum := "1642043041be96fa96d0940dedc3aa75ea1bb0ae498c5930963f3a9eea949185", checked := Try.checked }
namespace Rows
def none {H : Type} : Left H := { results := [], args := [] }

/-- 'laws.FnWords': WHATEVER THE INPUT: true; the input reads as it did. -/
def fnWordsSpec : ChangeSpec := { name := "fnWords", fn := fun _ => fun
  | [d] => { results := [.lit (.bool true)], args := [d] }
  | _ => none }
def fnWordsRow : OpenClaim := { program := "ytbjcgdgebbiieaa", sum := "1642043041be96fa96d0940dedc3aa75ea1bb0ae498c5930963f3a9eea949185", func := "loop.example/g00792/laws.FnWords", spec := "fnWords", unfollowed := true, recurses := true, apart := false }
def FnWordsSaid : Prop := fnWordsRow.holds Try.pinned (OpenSpec.ofChange fnWordsSpec)

/-- ITS FALSE NEIGHBOUR: 'it returns false'. Refute it at one input. -/
def fnWordsWrong : ChangeSpec := { name := "fnWords", fn := fun _ => fun
  | [d] => { results := [.lit (.bool false)], args := [d] }
  | _ => none }
def FnWordsWrongFalsely : Prop := fnWordsRow.holds Try.pinned (OpenSpec.ofChange fnWordsWrong)

/-- 'laws.FnTurns': WHATEVER THE INPUT: true; the input reads as it did. -/
def fnTurnsSpec : ChangeSpec := { name := "fnTurns", fn := fun _ => fun
  | [d] => { results := [.lit (.bool true)], args := [d] }
  | _ => none }
def fnTurnsRow : OpenClaim := { program := "ytbjcgdgebbiieaa", sum := "1642043041be96fa96d0940dedc3aa75ea1bb0ae498c5930963f3a9eea949185", func := "loop.example/g00792/laws.FnTurns", spec := "fnTurns", apart := false }
def FnTurnsSaid : Prop := fnTurnsRow.holds Try.pinned (OpenSpec.ofChange fnTurnsSpec)

/-- ITS FALSE NEIGHBOUR: 'it returns false'. Refute it at one input. -/
def fnTurnsWrong : ChangeSpec := { name := "fnTurns", fn := fun _ => fun
  | [d] => { results := [.lit (.bool false)], args := [d] }
  | _ => none }
def FnTurnsWrongFalsely : Prop := fnTurnsRow.holds Try.pinned (OpenSpec.ofChange fnTurnsWrong)

/-- 'laws.FnExactPackLow': WHATEVER THE INPUT: true; the input reads as it did. -/
def fnExactPackLowSpec : ChangeSpec := { name := "fnExactPackLow", fn := fun _ => fun
  | [d1, d2] => { results := [.lit (.bool true)], args := [d1, d2] }
  | _ => none }
def fnExactPackLowRow : OpenClaim := { program := "ytbjcgdgebbiieaa", sum := "1642043041be96fa96d0940dedc3aa75ea1bb0ae498c5930963f3a9eea949185", func := "loop.example/g00792/laws.FnExactPackLow", spec := "fnExactPackLow", apart := false }
def FnExactPackLowSaid : Prop := fnExactPackLowRow.holds Try.pinned (OpenSpec.ofChange fnExactPackLowSpec)

/-- ITS FALSE NEIGHBOUR: 'it returns false'. Refute it at one input. -/
def fnExactPackLowWrong : ChangeSpec := { name := "fnExactPackLow", fn := fun _ => fun
  | [d1, d2] => { results := [.lit (.bool false)], args := [d1, d2] }
  | _ => none }
def FnExactPackLowWrongFalsely : Prop := fnExactPackLowRow.holds Try.pinned (OpenSpec.ofChange fnExactPackLowWrong)

/-- 'laws.FnExactPackHigh': WHATEVER THE INPUT: true; the input reads as it did. -/
def fnExactPackHighSpec : ChangeSpec := { name := "fnExactPackHigh", fn := fun _ => fun
  | [d1, d2] => { results := [.lit (.bool true)], args := [d1, d2] }
  | _ => none }
def fnExactPackHighRow : OpenClaim := { program := "ytbjcgdgebbiieaa", sum := "1642043041be96fa96d0940dedc3aa75ea1bb0ae498c5930963f3a9eea949185", func := "loop.example/g00792/laws.FnExactPackHigh", spec := "fnExactPackHigh", apart := false }
def FnExactPackHighSaid : Prop := fnExactPackHighRow.holds Try.pinned (OpenSpec.ofChange fnExactPackHighSpec)

/-- ITS FALSE NEIGHBOUR: 'it returns false'. Refute it at one input. -/
def fnExactPackHighWrong : ChangeSpec := { name := "fnExactPackHigh", fn := fun _ => fun
  | [d1, d2] => { results := [.lit (.bool false)], args := [d1, d2] }
  | _ => none }
def FnExactPackHighWrongFalsely : Prop := fnExactPackHighRow.holds Try.pinned (OpenSpec.ofChange fnExactPackHighWrong)

/-- 'laws.FnExactReadLow': WHATEVER THE INPUT: true; the input reads as it did. -/
def fnExactReadLowSpec : ChangeSpec := { name := "fnExactReadLow", fn := fun _ => fun
  | [d] => { results := [.lit (.bool true)], args := [d] }
  | _ => none }
def fnExactReadLowRow : OpenClaim := { program := "ytbjcgdgebbiieaa", sum := "1642043041be96fa96d0940dedc3aa75ea1bb0ae498c5930963f3a9eea949185", func := "loop.example/g00792/laws.FnExactReadLow", spec := "fnExactReadLow", unfollowed := true, recurses := true, apart := false }
def FnExactReadLowSaid : Prop := fnExactReadLowRow.holds Try.pinned (OpenSpec.ofChange fnExactReadLowSpec)

/-- ITS FALSE NEIGHBOUR: 'it returns false'. Refute it at one input. -/
def fnExactReadLowWrong : ChangeSpec := { name := "fnExactReadLow", fn := fun _ => fun
  | [d] => { results := [.lit (.bool false)], args := [d] }
  | _ => none }
def FnExactReadLowWrongFalsely : Prop := fnExactReadLowRow.holds Try.pinned (OpenSpec.ofChange fnExactReadLowWrong)

/-- 'laws.FnExactReadHigh': WHATEVER THE INPUT: true; the input reads as it did. -/
def fnExactReadHighSpec : ChangeSpec := { name := "fnExactReadHigh", fn := fun _ => fun
  | [d] => { results := [.lit (.bool true)], args := [d] }
  | _ => none }
def fnExactReadHighRow : OpenClaim := { program := "ytbjcgdgebbiieaa", sum := "1642043041be96fa96d0940dedc3aa75ea1bb0ae498c5930963f3a9eea949185", func := "loop.example/g00792/laws.FnExactReadHigh", spec := "fnExactReadHigh", apart := false }
def FnExactReadHighSaid : Prop := fnExactReadHighRow.holds Try.pinned (OpenSpec.ofChange fnExactReadHighSpec)

/-- ITS FALSE NEIGHBOUR: 'it returns false'. Refute it at one input. -/
def fnExactReadHighWrong : ChangeSpec := { name := "fnExactReadHigh", fn := fun _ => fun
  | [d] => { results := [.lit (.bool false)], args := [d] }
  | _ => none }
def FnExactReadHighWrongFalsely : Prop := fnExactReadHighRow.holds Try.pinned (OpenSpec.ofChange fnExactReadHighWrong)

/-- 'laws.FnExactTurnWord': WHATEVER THE INPUT: true; the input reads as it did. -/
def fnExactTurnWordSpec : ChangeSpec := { name := "fnExactTurnWord", fn := fun _ => fun
  | [d1, d2] => { results := [.lit (.bool true)], args := [d1, d2] }
  | _ => none }
def fnExactTurnWordRow : OpenClaim := { program := "ytbjcgdgebbiieaa", sum := "1642043041be96fa96d0940dedc3aa75ea1bb0ae498c5930963f3a9eea949185", func := "loop.example/g00792/laws.FnExactTurnWord", spec := "fnExactTurnWord", apart := false }
def FnExactTurnWordSaid : Prop := fnExactTurnWordRow.holds Try.pinned (OpenSpec.ofChange fnExactTurnWordSpec)

/-- ITS FALSE NEIGHBOUR: 'it returns false'. Refute it at one input. -/
def fnExactTurnWordWrong : ChangeSpec := { name := "fnExactTurnWord", fn := fun _ => fun
  | [d1, d2] => { results := [.lit (.bool false)], args := [d1, d2] }
  | _ => none }
def FnExactTurnWordWrongFalsely : Prop := fnExactTurnWordRow.holds Try.pinned (OpenSpec.ofChange fnExactTurnWordWrong)

/-- 'laws.FnExactXorBytes': WHATEVER THE INPUT: true; the input reads as it did. -/
def fnExactXorBytesSpec : ChangeSpec := { name := "fnExactXorBytes", fn := fun _ => fun
  | [d1, d2] => { results := [.lit (.bool true)], args := [d1, d2] }
  | _ => none }
def fnExactXorBytesRow : OpenClaim := { program := "ytbjcgdgebbiieaa", sum := "1642043041be96fa96d0940dedc3aa75ea1bb0ae498c5930963f3a9eea949185", func := "loop.example/g00792/laws.FnExactXorBytes", spec := "fnExactXorBytes", apart := false }
def FnExactXorBytesSaid : Prop := fnExactXorBytesRow.holds Try.pinned (OpenSpec.ofChange fnExactXorBytesSpec)

/-- ITS FALSE NEIGHBOUR: 'it returns false'. Refute it at one input. -/
def fnExactXorBytesWrong : ChangeSpec := { name := "fnExactXorBytes", fn := fun _ => fun
  | [d1, d2] => { results := [.lit (.bool false)], args := [d1, d2] }
  | _ => none }
def FnExactXorBytesWrongFalsely : Prop := fnExactXorBytesRow.holds Try.pinned (OpenSpec.ofChange fnExactXorBytesWrong)

/-- 'laws.FnExactSameBytes': WHATEVER THE INPUT: true; the input reads as it did. -/
def fnExactSameBytesSpec : ChangeSpec := { name := "fnExactSameBytes", fn := fun _ => fun
  | [d1, d2] => { results := [.lit (.bool true)], args := [d1, d2] }
  | _ => none }
def fnExactSameBytesRow : OpenClaim := { program := "ytbjcgdgebbiieaa", sum := "1642043041be96fa96d0940dedc3aa75ea1bb0ae498c5930963f3a9eea949185", func := "loop.example/g00792/laws.FnExactSameBytes", spec := "fnExactSameBytes", apart := false }
def FnExactSameBytesSaid : Prop := fnExactSameBytesRow.holds Try.pinned (OpenSpec.ofChange fnExactSameBytesSpec)

/-- ITS FALSE NEIGHBOUR: 'it returns false'. Refute it at one input. -/
def fnExactSameBytesWrong : ChangeSpec := { name := "fnExactSameBytes", fn := fun _ => fun
  | [d1, d2] => { results := [.lit (.bool false)], args := [d1, d2] }
  | _ => none }
def FnExactSameBytesWrongFalsely : Prop := fnExactSameBytesRow.holds Try.pinned (OpenSpec.ofChange fnExactSameBytesWrong)

/-- 'laws.FnExactPadMessage': WHATEVER THE INPUT: true; the input reads as it did. -/
def fnExactPadMessageSpec : ChangeSpec := { name := "fnExactPadMessage", fn := fun _ => fun
  | [d] => { results := [.lit (.bool true)], args := [d] }
  | _ => none }
def fnExactPadMessageRow : OpenClaim := { program := "ytbjcgdgebbiieaa", sum := "1642043041be96fa96d0940dedc3aa75ea1bb0ae498c5930963f3a9eea949185", func := "loop.example/g00792/laws.FnExactPadMessage", spec := "fnExactPadMessage", apart := false }
def FnExactPadMessageSaid : Prop := fnExactPadMessageRow.holds Try.pinned (OpenSpec.ofChange fnExactPadMessageSpec)

/-- ITS FALSE NEIGHBOUR: 'it returns false'. Refute it at one input. -/
def fnExactPadMessageWrong : ChangeSpec := { name := "fnExactPadMessage", fn := fun _ => fun
  | [d] => { results := [.lit (.bool false)], args := [d] }
  | _ => none }
def FnExactPadMessageWrongFalsely : Prop := fnExactPadMessageRow.holds Try.pinned (OpenSpec.ofChange fnExactPadMessageWrong)

/- THE SECOND FORM. 'bulk': how many values and letters a reading holds, each counted each time it is reached (what is shared counts as often as it is met; a slice's spare places count too). A statement '..UptoSaid' is the law's where the arguments, and the package variables that the reading takes, are together of bulk at most 1048576: NARROWER than '..Said'. Prove '..Said' where nothing that the law and all that it calls make is longer than what came in: it says more and counts as full. Else prove '..UptoSaid'. A law counts once. -/
mutual
def uptoBulk {H : Type} : DataW H → Nat
  | .lit (.string bytes) => bytes.length + 1
  | .lit _ => 1
  | .nil => 1
  | .ptr d => uptoBulk d + 1
  | .slice elems spare => uptoBulkAll elems + uptoBulkAll spare + 1
  | .agg parts => uptoBulkAll parts + 1
  | .iface _ d => uptoBulk d + 1
  | .map entries => uptoBulkEntries entries + 1
  | .held _ => 1
def uptoBulkAll {H : Type} : List (DataW H) → Nat
  | [] => 0
  | d :: r => uptoBulk d + uptoBulkAll r
def uptoBulkEntries {H : Type} : List (Lit × DataW H) → Nat
  | [] => 0
  | x :: r => uptoBulkEntry x + uptoBulkEntries r
def uptoBulkEntry {H : Type} : Lit × DataW H → Nat
  | (.string bytes, d) => bytes.length + uptoBulk d + 1
  | (_, d) => uptoBulk d + 1
 end
def uptoSmall : (H : Type) → List (DataW H) → Bool := fun _ ds => decide (uptoBulkAll ds ≤ 1048576)
def OpenSpec.upto (s : _root_.Go.ChangeSpec) : _root_.Go.OpenSpec := { _root_.Go.OpenSpec.ofChange s with cond := some uptoSmall }

/-- 'laws.FnWords', WHERE WHAT IT READS IS OF BULK AT MOST 1048576: true; the input reads as it did. -/
def fnWordsUptoRow : OpenClaim := { program := "ytbjcgdgebbiieaa", sum := "1642043041be96fa96d0940dedc3aa75ea1bb0ae498c5930963f3a9eea949185", func := "loop.example/g00792/laws.FnWords", spec := "fnWords", unfollowed := true, recurses := true, apart := false, narrowed := true }
def FnWordsUptoSaid : Prop := fnWordsUptoRow.holds Try.pinned (OpenSpec.upto fnWordsSpec)

/-- 'laws.FnTurns', WHERE WHAT IT READS IS OF BULK AT MOST 1048576: true; the input reads as it did. -/
def fnTurnsUptoRow : OpenClaim := { program := "ytbjcgdgebbiieaa", sum := "1642043041be96fa96d0940dedc3aa75ea1bb0ae498c5930963f3a9eea949185", func := "loop.example/g00792/laws.FnTurns", spec := "fnTurns", apart := false, narrowed := true }
def FnTurnsUptoSaid : Prop := fnTurnsUptoRow.holds Try.pinned (OpenSpec.upto fnTurnsSpec)

/-- 'laws.FnExactPackLow', WHERE WHAT IT READS IS OF BULK AT MOST 1048576: true; the input reads as it did. -/
def fnExactPackLowUptoRow : OpenClaim := { program := "ytbjcgdgebbiieaa", sum := "1642043041be96fa96d0940dedc3aa75ea1bb0ae498c5930963f3a9eea949185", func := "loop.example/g00792/laws.FnExactPackLow", spec := "fnExactPackLow", apart := false, narrowed := true }
def FnExactPackLowUptoSaid : Prop := fnExactPackLowUptoRow.holds Try.pinned (OpenSpec.upto fnExactPackLowSpec)

/-- 'laws.FnExactPackHigh', WHERE WHAT IT READS IS OF BULK AT MOST 1048576: true; the input reads as it did. -/
def fnExactPackHighUptoRow : OpenClaim := { program := "ytbjcgdgebbiieaa", sum := "1642043041be96fa96d0940dedc3aa75ea1bb0ae498c5930963f3a9eea949185", func := "loop.example/g00792/laws.FnExactPackHigh", spec := "fnExactPackHigh", apart := false, narrowed := true }
def FnExactPackHighUptoSaid : Prop := fnExactPackHighUptoRow.holds Try.pinned (OpenSpec.upto fnExactPackHighSpec)

/-- 'laws.FnExactReadLow', WHERE WHAT IT READS IS OF BULK AT MOST 1048576: true; the input reads as it did. -/
def fnExactReadLowUptoRow : OpenClaim := { program := "ytbjcgdgebbiieaa", sum := "1642043041be96fa96d0940dedc3aa75ea1bb0ae498c5930963f3a9eea949185", func := "loop.example/g00792/laws.FnExactReadLow", spec := "fnExactReadLow", unfollowed := true, recurses := true, apart := false, narrowed := true }
def FnExactReadLowUptoSaid : Prop := fnExactReadLowUptoRow.holds Try.pinned (OpenSpec.upto fnExactReadLowSpec)

/-- 'laws.FnExactReadHigh', WHERE WHAT IT READS IS OF BULK AT MOST 1048576: true; the input reads as it did. -/
def fnExactReadHighUptoRow : OpenClaim := { program := "ytbjcgdgebbiieaa", sum := "1642043041be96fa96d0940dedc3aa75ea1bb0ae498c5930963f3a9eea949185", func := "loop.example/g00792/laws.FnExactReadHigh", spec := "fnExactReadHigh", apart := false, narrowed := true }
def FnExactReadHighUptoSaid : Prop := fnExactReadHighUptoRow.holds Try.pinned (OpenSpec.upto fnExactReadHighSpec)

/-- 'laws.FnExactTurnWord', WHERE WHAT IT READS IS OF BULK AT MOST 1048576: true; the input reads as it did. -/
def fnExactTurnWordUptoRow : OpenClaim := { program := "ytbjcgdgebbiieaa", sum := "1642043041be96fa96d0940dedc3aa75ea1bb0ae498c5930963f3a9eea949185", func := "loop.example/g00792/laws.FnExactTurnWord", spec := "fnExactTurnWord", apart := false, narrowed := true }
def FnExactTurnWordUptoSaid : Prop := fnExactTurnWordUptoRow.holds Try.pinned (OpenSpec.upto fnExactTurnWordSpec)

/-- 'laws.FnExactXorBytes', WHERE WHAT IT READS IS OF BULK AT MOST 1048576: true; the input reads as it did. -/
def fnExactXorBytesUptoRow : OpenClaim := { program := "ytbjcgdgebbiieaa", sum := "1642043041be96fa96d0940dedc3aa75ea1bb0ae498c5930963f3a9eea949185", func := "loop.example/g00792/laws.FnExactXorBytes", spec := "fnExactXorBytes", apart := false, narrowed := true }
def FnExactXorBytesUptoSaid : Prop := fnExactXorBytesUptoRow.holds Try.pinned (OpenSpec.upto fnExactXorBytesSpec)

/-- 'laws.FnExactSameBytes', WHERE WHAT IT READS IS OF BULK AT MOST 1048576: true; the input reads as it did. -/
def fnExactSameBytesUptoRow : OpenClaim := { program := "ytbjcgdgebbiieaa", sum := "1642043041be96fa96d0940dedc3aa75ea1bb0ae498c5930963f3a9eea949185", func := "loop.example/g00792/laws.FnExactSameBytes", spec := "fnExactSameBytes", apart := false, narrowed := true }
def FnExactSameBytesUptoSaid : Prop := fnExactSameBytesUptoRow.holds Try.pinned (OpenSpec.upto fnExactSameBytesSpec)

/-- 'laws.FnExactPadMessage', WHERE WHAT IT READS IS OF BULK AT MOST 1048576: true; the input reads as it did. -/
def fnExactPadMessageUptoRow : OpenClaim := { program := "ytbjcgdgebbiieaa", sum := "1642043041be96fa96d0940dedc3aa75ea1bb0ae498c5930963f3a9eea949185", func := "loop.example/g00792/laws.FnExactPadMessage", spec := "fnExactPadMessage", apart := false, narrowed := true }
def FnExactPadMessageUptoSaid : Prop := fnExactPadMessageUptoRow.holds Try.pinned (OpenSpec.upto fnExactPadMessageSpec)

end Rows
end Go.Proofs.Ytbjcgdgebbiieaa
