/-
  NARROWER THAN 'FOR EVERY INPUT', by the rows' own cells (each row's printed sentence says how): FnStreams: laid · FnBoxes: ifaces, laid · FnExactStreamBlock: laid · FnExactStreamXor: laid · FnExactSealBox: laid · FnExactOpenBox: ifaces, laid.
  DERIVED. THE GIVEN ROWS OF THIS SEAT. 6 by the template 'for every input the law returns true; each argument reads behind the call as it read before'; 0 by the template 'total and deterministic' (their statements: YtcanmhlhnihijaaDoorTotals.lean).
  GIVEN WITH THE SEED: the statements are not yours to turn. If you find one false, say at which input.
  Laid BY PROGRAM, IN A SANDBOX (cutbox-rows.mjs): the forced cells as the released guide's own fill.sh prints them over the translation 094a49b69c04b8c6… (all of the seat's roots in one cut). By AI agents, Wed Nov 11 2026. No macro, syntax, notation, axiom, sorry.
-/
import Derived.Test.YtcanmhlhnihijaaDoorChecked
import GoSem.Claim
import GoSem.ClaimJoined
import GoSem.ClaimMapViews
import Derived.JoinedTies
import Derived.KernelRfl
namespace Go.Proofs.YtcanmhlhnihijaaDoor
/- THE CELL 'sum', in the pinned program and in every row, IS THE sha256 OF THE DUMP (.gsa) THAT YtcanmhlhnihijaaDoorProg.lean LOADS. Nothing in Lean hashes anything: it is a label: what it is worth is what the hold of that sum in a sandbox is worth. -/
noncomputable def Tryd.pinned : Pinned := { name := "ytcanmhlhnihijaadoor", sum := "094a49b69c04b8c69beb16ee65426467b45a4dace5f44221e5f9a08dfa2de517", checked := Tryd.checked }
namespace Rows
def none {H : Type} : Left H := { results := [], args := [] }

/- WHAT THE LISTED PACKAGE-LEVEL VARIABLES READ AS WHEN THE CALL BEGINS. Each datum BY PROGRAM (the guide's laid-datum.mjs) off the statement by which the dump's own 'gosem.cut.vars' lays the variable. In a bare row this is a premise. The card (YtcanmhlhnihijaaDoorCards.lean) ties it to the program's text. -/
def laid_loop_example_g00792_impl_quarterPlaces {H : Type} : DataW H := .agg [.agg [.lit (.int .i64 0), .lit (.int .i64 4), .lit (.int .i64 8), .lit (.int .i64 12)], .agg [.lit (.int .i64 1), .lit (.int .i64 5), .lit (.int .i64 9), .lit (.int .i64 13)], .agg [.lit (.int .i64 2), .lit (.int .i64 6), .lit (.int .i64 10), .lit (.int .i64 14)], .agg [.lit (.int .i64 3), .lit (.int .i64 7), .lit (.int .i64 11), .lit (.int .i64 15)], .agg [.lit (.int .i64 0), .lit (.int .i64 5), .lit (.int .i64 10), .lit (.int .i64 15)], .agg [.lit (.int .i64 1), .lit (.int .i64 6), .lit (.int .i64 11), .lit (.int .i64 12)], .agg [.lit (.int .i64 2), .lit (.int .i64 7), .lit (.int .i64 8), .lit (.int .i64 13)], .agg [.lit (.int .i64 3), .lit (.int .i64 4), .lit (.int .i64 9), .lit (.int .i64 14)]]
def laid_loop_example_g00792_impl_errTurned {H : Type} : DataW H := .iface "*errors.errorString" (.ptr (.agg [.lit (.string [116, 104, 101, 32, 98, 111, 120, 32, 119, 97, 115, 32, 116, 117, 114, 110, 101, 100, 44, 32, 111, 114, 32, 105, 115, 32, 110, 111, 116, 32, 102, 111, 114, 32, 116, 104, 105, 115, 32, 107, 101, 121])]))

/-- 'laws.FnStreams': WHATEVER THE INPUT: true; the input reads as it did. -/
def fnStreamsSpec : ChangeSpec := { name := "fnStreams", vars := ["loop.example/g00792/impl.quarterPlaces"], fn := fun _ => fun
  | [d, g1] => { results := [.lit (.bool true)], args := [d], vars := [g1] }
  | _ => none }
def fnStreamsRow : OpenClaim := { program := "ytcanmhlhnihijaadoor", sum := "094a49b69c04b8c69beb16ee65426467b45a4dace5f44221e5f9a08dfa2de517", func := "loop.example/g00792/laws.FnStreams", spec := "fnStreams", unfollowed := true, recurses := true, named := ["loop.example/g00792/impl.quarterPlaces"], apart := false, laid := [("loop.example/g00792/impl.quarterPlaces", laid_loop_example_g00792_impl_quarterPlaces)] }
def FnStreamsSaid : Prop := fnStreamsRow.holds Tryd.pinned (OpenSpec.ofChange fnStreamsSpec)

/-- ITS FALSE NEIGHBOUR: 'it returns false'. Refute it at one input. -/
def fnStreamsWrong : ChangeSpec := { name := "fnStreams", vars := ["loop.example/g00792/impl.quarterPlaces"], fn := fun _ => fun
  | [d, g1] => { results := [.lit (.bool false)], args := [d], vars := [g1] }
  | _ => none }
def FnStreamsWrongFalsely : Prop := fnStreamsRow.holds Tryd.pinned (OpenSpec.ofChange fnStreamsWrong)

/-- 'laws.FnBoxes': WHATEVER THE INPUT: true; the input reads as it did. -/
def fnBoxesSpec : ChangeSpec := { name := "fnBoxes", vars := ["loop.example/g00792/impl.quarterPlaces", "loop.example/g00792/impl.errTurned"], fn := fun _ => fun
  | [d, g1, g2] => { results := [.lit (.bool true)], args := [d], vars := [g1, g2] }
  | _ => none }
def fnBoxesRow : OpenClaim := { program := "ytcanmhlhnihijaadoor", sum := "094a49b69c04b8c69beb16ee65426467b45a4dace5f44221e5f9a08dfa2de517", func := "loop.example/g00792/laws.FnBoxes", spec := "fnBoxes", inPlace := ["internal/reflectlite.TypeOf"], unfollowed := true, recurses := true, named := ["loop.example/g00792/impl.quarterPlaces", "loop.example/g00792/impl.errTurned"], ifaces := true, apart := false, laid := [("loop.example/g00792/impl.errTurned", laid_loop_example_g00792_impl_errTurned), ("loop.example/g00792/impl.quarterPlaces", laid_loop_example_g00792_impl_quarterPlaces)] }
def FnBoxesSaid : Prop := fnBoxesRow.holds Tryd.pinned (OpenSpec.ofChange fnBoxesSpec)

/-- ITS FALSE NEIGHBOUR: 'it returns false'. Refute it at one input. -/
def fnBoxesWrong : ChangeSpec := { name := "fnBoxes", vars := ["loop.example/g00792/impl.quarterPlaces", "loop.example/g00792/impl.errTurned"], fn := fun _ => fun
  | [d, g1, g2] => { results := [.lit (.bool false)], args := [d], vars := [g1, g2] }
  | _ => none }
def FnBoxesWrongFalsely : Prop := fnBoxesRow.holds Tryd.pinned (OpenSpec.ofChange fnBoxesWrong)

/-- 'laws.FnExactStreamBlock': WHATEVER THE INPUT: true; the input reads as it did. -/
def fnExactStreamBlockSpec : ChangeSpec := { name := "fnExactStreamBlock", vars := ["loop.example/g00792/impl.quarterPlaces"], fn := fun _ => fun
  | [d1, d2, d3, g1] => { results := [.lit (.bool true)], args := [d1, d2, d3], vars := [g1] }
  | _ => none }
def fnExactStreamBlockRow : OpenClaim := { program := "ytcanmhlhnihijaadoor", sum := "094a49b69c04b8c69beb16ee65426467b45a4dace5f44221e5f9a08dfa2de517", func := "loop.example/g00792/laws.FnExactStreamBlock", spec := "fnExactStreamBlock", unfollowed := true, recurses := true, named := ["loop.example/g00792/impl.quarterPlaces"], apart := false, laid := [("loop.example/g00792/impl.quarterPlaces", laid_loop_example_g00792_impl_quarterPlaces)] }
def FnExactStreamBlockSaid : Prop := fnExactStreamBlockRow.holds Tryd.pinned (OpenSpec.ofChange fnExactStreamBlockSpec)

/-- ITS FALSE NEIGHBOUR: 'it returns false'. Refute it at one input. -/
def fnExactStreamBlockWrong : ChangeSpec := { name := "fnExactStreamBlock", vars := ["loop.example/g00792/impl.quarterPlaces"], fn := fun _ => fun
  | [d1, d2, d3, g1] => { results := [.lit (.bool false)], args := [d1, d2, d3], vars := [g1] }
  | _ => none }
def FnExactStreamBlockWrongFalsely : Prop := fnExactStreamBlockRow.holds Tryd.pinned (OpenSpec.ofChange fnExactStreamBlockWrong)

/-- 'laws.FnExactStreamXor': WHATEVER THE INPUT: true; the input reads as it did. -/
def fnExactStreamXorSpec : ChangeSpec := { name := "fnExactStreamXor", vars := ["loop.example/g00792/impl.quarterPlaces"], fn := fun _ => fun
  | [d1, d2, d3, d4, g1] => { results := [.lit (.bool true)], args := [d1, d2, d3, d4], vars := [g1] }
  | _ => none }
def fnExactStreamXorRow : OpenClaim := { program := "ytcanmhlhnihijaadoor", sum := "094a49b69c04b8c69beb16ee65426467b45a4dace5f44221e5f9a08dfa2de517", func := "loop.example/g00792/laws.FnExactStreamXor", spec := "fnExactStreamXor", unfollowed := true, recurses := true, named := ["loop.example/g00792/impl.quarterPlaces"], apart := false, laid := [("loop.example/g00792/impl.quarterPlaces", laid_loop_example_g00792_impl_quarterPlaces)] }
def FnExactStreamXorSaid : Prop := fnExactStreamXorRow.holds Tryd.pinned (OpenSpec.ofChange fnExactStreamXorSpec)

/-- ITS FALSE NEIGHBOUR: 'it returns false'. Refute it at one input. -/
def fnExactStreamXorWrong : ChangeSpec := { name := "fnExactStreamXor", vars := ["loop.example/g00792/impl.quarterPlaces"], fn := fun _ => fun
  | [d1, d2, d3, d4, g1] => { results := [.lit (.bool false)], args := [d1, d2, d3, d4], vars := [g1] }
  | _ => none }
def FnExactStreamXorWrongFalsely : Prop := fnExactStreamXorRow.holds Tryd.pinned (OpenSpec.ofChange fnExactStreamXorWrong)

/-- 'laws.FnExactSealBox': WHATEVER THE INPUT: true; the input reads as it did. -/
def fnExactSealBoxSpec : ChangeSpec := { name := "fnExactSealBox", vars := ["loop.example/g00792/impl.quarterPlaces"], fn := fun _ => fun
  | [d1, d2, d3, d4, g1] => { results := [.lit (.bool true)], args := [d1, d2, d3, d4], vars := [g1] }
  | _ => none }
def fnExactSealBoxRow : OpenClaim := { program := "ytcanmhlhnihijaadoor", sum := "094a49b69c04b8c69beb16ee65426467b45a4dace5f44221e5f9a08dfa2de517", func := "loop.example/g00792/laws.FnExactSealBox", spec := "fnExactSealBox", unfollowed := true, recurses := true, named := ["loop.example/g00792/impl.quarterPlaces"], apart := false, laid := [("loop.example/g00792/impl.quarterPlaces", laid_loop_example_g00792_impl_quarterPlaces)] }
def FnExactSealBoxSaid : Prop := fnExactSealBoxRow.holds Tryd.pinned (OpenSpec.ofChange fnExactSealBoxSpec)

/-- ITS FALSE NEIGHBOUR: 'it returns false'. Refute it at one input. -/
def fnExactSealBoxWrong : ChangeSpec := { name := "fnExactSealBox", vars := ["loop.example/g00792/impl.quarterPlaces"], fn := fun _ => fun
  | [d1, d2, d3, d4, g1] => { results := [.lit (.bool false)], args := [d1, d2, d3, d4], vars := [g1] }
  | _ => none }
def FnExactSealBoxWrongFalsely : Prop := fnExactSealBoxRow.holds Tryd.pinned (OpenSpec.ofChange fnExactSealBoxWrong)

/-- 'laws.FnExactOpenBox': WHATEVER THE INPUT: true; the input reads as it did. -/
def fnExactOpenBoxSpec : ChangeSpec := { name := "fnExactOpenBox", vars := ["loop.example/g00792/impl.errTurned", "loop.example/g00792/impl.quarterPlaces"], fn := fun _ => fun
  | [d1, d2, d3, d4, g1, g2] => { results := [.lit (.bool true)], args := [d1, d2, d3, d4], vars := [g1, g2] }
  | _ => none }
def fnExactOpenBoxRow : OpenClaim := { program := "ytcanmhlhnihijaadoor", sum := "094a49b69c04b8c69beb16ee65426467b45a4dace5f44221e5f9a08dfa2de517", func := "loop.example/g00792/laws.FnExactOpenBox", spec := "fnExactOpenBox", inPlace := ["internal/reflectlite.TypeOf"], unfollowed := true, recurses := true, named := ["loop.example/g00792/impl.errTurned", "loop.example/g00792/impl.quarterPlaces"], ifaces := true, apart := false, laid := [("loop.example/g00792/impl.errTurned", laid_loop_example_g00792_impl_errTurned), ("loop.example/g00792/impl.quarterPlaces", laid_loop_example_g00792_impl_quarterPlaces)] }
def FnExactOpenBoxSaid : Prop := fnExactOpenBoxRow.holds Tryd.pinned (OpenSpec.ofChange fnExactOpenBoxSpec)

/-- ITS FALSE NEIGHBOUR: 'it returns false'. Refute it at one input. -/
def fnExactOpenBoxWrong : ChangeSpec := { name := "fnExactOpenBox", vars := ["loop.example/g00792/impl.errTurned", "loop.example/g00792/impl.quarterPlaces"], fn := fun _ => fun
  | [d1, d2, d3, d4, g1, g2] => { results := [.lit (.bool false)], args := [d1, d2, d3, d4], vars := [g1, g2] }
  | _ => none }
def FnExactOpenBoxWrongFalsely : Prop := fnExactOpenBoxRow.holds Tryd.pinned (OpenSpec.ofChange fnExactOpenBoxWrong)

/- THE SECOND FORM. 'bulk': how many values and letters a reading holds, each counted each time it is reached (what is shared counts as often as it is met; a slice's spare places count too). A statement '..UptoSaid' is the law's where the arguments, and the package variables that the reading takes, are together of bulk at most 1048576: NARROWER than '..Said'. Prove '..Said' where nothing that the law and all that it calls make is longer than what came in: it says more and counts as full. Else prove '..UptoSaid'. A law counts once. -/
mutual
def uptoBulk {H : Type} : DataW H → Nat
  | .lit (.string bytes) => bytes.length + 1
  | .lit _ => 1
  | .nil => 1
  | .ptr d => uptoBulk d + 1
  | .slice elems spare => uptoBulkAll elems + uptoBulkAll spare + 1
  | .agg parts => uptoBulkAll parts + 1
  | .iface _ d => uptoBulk d + 1
  | .map entries => uptoBulkEntries entries + 1
  | .held _ => 1
def uptoBulkAll {H : Type} : List (DataW H) → Nat
  | [] => 0
  | d :: r => uptoBulk d + uptoBulkAll r
def uptoBulkEntries {H : Type} : List (Lit × DataW H) → Nat
  | [] => 0
  | x :: r => uptoBulkEntry x + uptoBulkEntries r
def uptoBulkEntry {H : Type} : Lit × DataW H → Nat
  | (.string bytes, d) => bytes.length + uptoBulk d + 1
  | (_, d) => uptoBulk d + 1
 end
def uptoSmall : (H : Type) → List (DataW H) → Bool := fun _ ds => decide (uptoBulkAll ds ≤ 1048576)
def OpenSpec.upto (s : _root_.Go.ChangeSpec) : _root_.Go.OpenSpec := { _root_.Go.OpenSpec.ofChange s with cond := some uptoSmall }

/-- 'laws.FnStreams', WHERE WHAT IT READS IS OF BULK AT MOST 1048576: true; the input reads as it did. -/
def fnStreamsUptoRow : OpenClaim := { program := "ytcanmhlhnihijaadoor", sum := "094a49b69c04b8c69beb16ee65426467b45a4dace5f44221e5f9a08dfa2de517", func := "loop.example/g00792/laws.FnStreams", spec := "fnStreams", unfollowed := true, recurses := true, named := ["loop.example/g00792/impl.quarterPlaces"], apart := false, laid := [("loop.example/g00792/impl.quarterPlaces", laid_loop_example_g00792_impl_quarterPlaces)], narrowed := true }
def FnStreamsUptoSaid : Prop := fnStreamsUptoRow.holds Tryd.pinned (OpenSpec.upto fnStreamsSpec)

/-- 'laws.FnBoxes', WHERE WHAT IT READS IS OF BULK AT MOST 1048576: true; the input reads as it did. -/
def fnBoxesUptoRow : OpenClaim := { program := "ytcanmhlhnihijaadoor", sum := "094a49b69c04b8c69beb16ee65426467b45a4dace5f44221e5f9a08dfa2de517", func := "loop.example/g00792/laws.FnBoxes", spec := "fnBoxes", inPlace := ["internal/reflectlite.TypeOf"], unfollowed := true, recurses := true, named := ["loop.example/g00792/impl.quarterPlaces", "loop.example/g00792/impl.errTurned"], ifaces := true, apart := false, laid := [("loop.example/g00792/impl.errTurned", laid_loop_example_g00792_impl_errTurned), ("loop.example/g00792/impl.quarterPlaces", laid_loop_example_g00792_impl_quarterPlaces)], narrowed := true }
def FnBoxesUptoSaid : Prop := fnBoxesUptoRow.holds Tryd.pinned (OpenSpec.upto fnBoxesSpec)

/-- 'laws.FnExactStreamBlock', WHERE WHAT IT READS IS OF BULK AT MOST 1048576: true; the input reads as it did. -/
def fnExactStreamBlockUptoRow : OpenClaim := { program := "ytcanmhlhnihijaadoor", sum := "094a49b69c04b8c69beb16ee65426467b45a4dace5f44221e5f9a08dfa2de517", func := "loop.example/g00792/laws.FnExactStreamBlock", spec := "fnExactStreamBlock", unfollowed := true, recurses := true, named := ["loop.example/g00792/impl.quarterPlaces"], apart := false, laid := [("loop.example/g00792/impl.quarterPlaces", laid_loop_example_g00792_impl_quarterPlaces)], narrowed := true }
def FnExactStreamBlockUptoSaid : Prop := fnExactStreamBlockUptoRow.holds Tryd.pinned (OpenSpec.upto fnExactStreamBlockSpec)

/-- 'laws.FnExactStreamXor', WHERE WHAT IT READS IS OF BULK AT MOST 1048576: true; the input reads as it did. -/
def fnExactStreamXorUptoRow : OpenClaim := { program := "ytcanmhlhnihijaadoor", sum := "094a49b69c04b8c69beb16ee65426467b45a4dace5f44221e5f9a08dfa2de517", func := "loop.example/g00792/laws.FnExactStreamXor", spec := "fnExactStreamXor", unfollowed := true, recurses := true, named := ["loop.example/g00792/impl.quarterPlaces"], apart := false, laid := [("loop.example/g00792/impl.quarterPlaces", laid_loop_example_g00792_impl_quarterPlaces)], narrowed := true }
def FnExactStreamXorUptoSaid : Prop := fnExactStreamXorUptoRow.holds Tryd.pinned (OpenSpec.upto fnExactStreamXorSpec)

/-- 'laws.FnExactSealBox', WHERE WHAT IT READS IS OF BULK AT MOST 1048576: true; the input reads as it did. -/
def fnExactSealBoxUptoRow : OpenClaim := { program := "ytcanmhlhnihijaadoor", sum := "094a49b69c04b8c69beb16ee65426467b45a4dace5f44221e5f9a08dfa2de517", func := "loop.example/g00792/laws.FnExactSealBox", spec := "fnExactSealBox", unfollowed := true, recurses := true, named := ["loop.example/g00792/impl.quarterPlaces"], apart := false, laid := [("loop.example/g00792/impl.quarterPlaces", laid_loop_example_g00792_impl_quarterPlaces)], narrowed := true }
def FnExactSealBoxUptoSaid : Prop := fnExactSealBoxUptoRow.holds Tryd.pinned (OpenSpec.upto fnExactSealBoxSpec)

/-- 'laws.FnExactOpenBox', WHERE WHAT IT READS IS OF BULK AT MOST 1048576: true; the input reads as it did. -/
def fnExactOpenBoxUptoRow : OpenClaim := { program := "ytcanmhlhnihijaadoor", sum := "094a49b69c04b8c69beb16ee65426467b45a4dace5f44221e5f9a08dfa2de517", func := "loop.example/g00792/laws.FnExactOpenBox", spec := "fnExactOpenBox", inPlace := ["internal/reflectlite.TypeOf"], unfollowed := true, recurses := true, named := ["loop.example/g00792/impl.errTurned", "loop.example/g00792/impl.quarterPlaces"], ifaces := true, apart := false, laid := [("loop.example/g00792/impl.errTurned", laid_loop_example_g00792_impl_errTurned), ("loop.example/g00792/impl.quarterPlaces", laid_loop_example_g00792_impl_quarterPlaces)], narrowed := true }
def FnExactOpenBoxUptoSaid : Prop := fnExactOpenBoxUptoRow.holds Tryd.pinned (OpenSpec.upto fnExactOpenBoxSpec)

end Rows
end Go.Proofs.YtcanmhlhnihijaaDoor
