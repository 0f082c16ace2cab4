/-
  NARROWER THAN 'FOR EVERY INPUT', by the rows' own cells (each row's printed sentence says how): FnSyms: ifaces, laid · FnShakes: ifaces, laid · FnSeals: ifaces, laid · FnExactSealHash: laid · FnExactOpenHash: ifaces, laid · FnExactRunShake: ifaces, laid · FnExactOpenCell: ifaces, laid.
  DERIVED. THE GIVEN ROWS OF THIS SEAT. 7 by the template 'for every input the law returns true; each argument reads behind the call as it read before'; 0 by the template 'total and deterministic' (their statements: YtabhcolfkkfonaaGreatDoorTotals.lean).
  GIVEN WITH THE SEED: the statements are not yours to turn. If you find one false, say at which input.
  Laid BY PROGRAM, IN A SANDBOX (cutbox-rows.mjs): the forced cells as the released guide's own fill.sh prints them over the translation 877b756d29e45cf0… (all of the seat's roots in one cut). By AI agents, Wed Nov 11 2026. No macro, syntax, notation, axiom, sorry.
-/
import Derived.Test.YtabhcolfkkfonaaGreatDoorChecked
import GoSem.Claim
import GoSem.ClaimJoined
import GoSem.ClaimMapViews
import Derived.JoinedTies
import Derived.KernelRfl
namespace Go.Proofs.YtabhcolfkkfonaaGreatDoor
/- THE CELL 'sum', in the pinned program and in every row, IS THE sha256 OF THE DUMP (.gsa) THAT YtabhcolfkkfonaaGreatDoorProg.lean LOADS. Nothing in Lean hashes anything: it is a label: what it is worth is what the hold of that sum in a sandbox is worth. -/
noncomputable def Tryz.pinned : Pinned := { name := "ytabhcolfkkfonaagreatdoor", sum := "877b756d29e45cf0cfa5625f0f5c3eb5506b16d4219a97e3dc9bcf8a048bfe0c", checked := Tryz.checked }
namespace Rows
def none {H : Type} : Left H := { results := [], args := [] }

/- WHAT THE LISTED PACKAGE-LEVEL VARIABLES READ AS WHEN THE CALL BEGINS. Each datum BY PROGRAM (the guide's laid-datum.mjs) off the statement by which the dump's own 'gosem.cut.vars' lays the variable. In a bare row this is a premise. The card (YtabhcolfkkfonaaGreatDoorCards.lean) ties it to the program's text. -/
def laid_loop_example_g00792_impl_firstWords {H : Type} : DataW H := .agg [.lit (.int .u32 1779033703), .lit (.int .u32 3144134277), .lit (.int .u32 1013904242), .lit (.int .u32 2773480762), .lit (.int .u32 1359893119), .lit (.int .u32 2600822924), .lit (.int .u32 528734635), .lit (.int .u32 1541459225)]
def laid_loop_example_g00792_impl_roundWords {H : Type} : DataW H := .agg [.lit (.int .u32 1116352408), .lit (.int .u32 1899447441), .lit (.int .u32 3049323471), .lit (.int .u32 3921009573), .lit (.int .u32 961987163), .lit (.int .u32 1508970993), .lit (.int .u32 2453635748), .lit (.int .u32 2870763221), .lit (.int .u32 3624381080), .lit (.int .u32 310598401), .lit (.int .u32 607225278), .lit (.int .u32 1426881987), .lit (.int .u32 1925078388), .lit (.int .u32 2162078206), .lit (.int .u32 2614888103), .lit (.int .u32 3248222580), .lit (.int .u32 3835390401), .lit (.int .u32 4022224774), .lit (.int .u32 264347078), .lit (.int .u32 604807628), .lit (.int .u32 770255983), .lit (.int .u32 1249150122), .lit (.int .u32 1555081692), .lit (.int .u32 1996064986), .lit (.int .u32 2554220882), .lit (.int .u32 2821834349), .lit (.int .u32 2952996808), .lit (.int .u32 3210313671), .lit (.int .u32 3336571891), .lit (.int .u32 3584528711), .lit (.int .u32 113926993), .lit (.int .u32 338241895), .lit (.int .u32 666307205), .lit (.int .u32 773529912), .lit (.int .u32 1294757372), .lit (.int .u32 1396182291), .lit (.int .u32 1695183700), .lit (.int .u32 1986661051), .lit (.int .u32 2177026350), .lit (.int .u32 2456956037), .lit (.int .u32 2730485921), .lit (.int .u32 2820302411), .lit (.int .u32 3259730800), .lit (.int .u32 3345764771), .lit (.int .u32 3516065817), .lit (.int .u32 3600352804), .lit (.int .u32 4094571909), .lit (.int .u32 275423344), .lit (.int .u32 430227734), .lit (.int .u32 506948616), .lit (.int .u32 659060556), .lit (.int .u32 883997877), .lit (.int .u32 958139571), .lit (.int .u32 1322822218), .lit (.int .u32 1537002063), .lit (.int .u32 1747873779), .lit (.int .u32 1955562222), .lit (.int .u32 2024104815), .lit (.int .u32 2227730452), .lit (.int .u32 2361852424), .lit (.int .u32 2428436474), .lit (.int .u32 2756734187), .lit (.int .u32 3204031479), .lit (.int .u32 3329325298)]
def laid_loop_example_g00792_impl_errTurned {H : Type} : DataW H := .iface "*errors.errorString" (.ptr (.agg [.lit (.string [116, 104, 101, 32, 98, 111, 120, 32, 119, 97, 115, 32, 116, 117, 114, 110, 101, 100, 44, 32, 111, 114, 32, 105, 115, 32, 110, 111, 116, 32, 102, 111, 114, 32, 116, 104, 105, 115, 32, 107, 101, 121])]))
def laid_loop_example_g00792_impl_quarterPlaces {H : Type} : DataW H := .agg [.agg [.lit (.int .i64 0), .lit (.int .i64 4), .lit (.int .i64 8), .lit (.int .i64 12)], .agg [.lit (.int .i64 1), .lit (.int .i64 5), .lit (.int .i64 9), .lit (.int .i64 13)], .agg [.lit (.int .i64 2), .lit (.int .i64 6), .lit (.int .i64 10), .lit (.int .i64 14)], .agg [.lit (.int .i64 3), .lit (.int .i64 7), .lit (.int .i64 11), .lit (.int .i64 15)], .agg [.lit (.int .i64 0), .lit (.int .i64 5), .lit (.int .i64 10), .lit (.int .i64 15)], .agg [.lit (.int .i64 1), .lit (.int .i64 6), .lit (.int .i64 11), .lit (.int .i64 12)], .agg [.lit (.int .i64 2), .lit (.int .i64 7), .lit (.int .i64 8), .lit (.int .i64 13)], .agg [.lit (.int .i64 3), .lit (.int .i64 4), .lit (.int .i64 9), .lit (.int .i64 14)]]
def laid_loop_example_g00792_impl_lastPlaces {H : Type} : DataW H := .agg [.lit (.int .i64 0), .lit (.int .i64 7), .lit (.int .i64 47), .lit (.int .i64 39)]

/-- 'laws.FnSyms': WHATEVER THE INPUT: true; the input reads as it did. -/
def fnSymsSpec : ChangeSpec := { name := "fnSyms", vars := ["loop.example/g00792/impl.quarterPlaces", "loop.example/g00792/impl.firstWords", "loop.example/g00792/impl.roundWords", "loop.example/g00792/impl.errTurned"], fn := fun _ => fun
  | [d, g1, g2, g3, g4] => { results := [.lit (.bool true)], args := [d], vars := [g1, g2, g3, g4] }
  | _ => none }
def fnSymsRow : OpenClaim := { program := "ytabhcolfkkfonaagreatdoor", sum := "877b756d29e45cf0cfa5625f0f5c3eb5506b16d4219a97e3dc9bcf8a048bfe0c", func := "loop.example/g00792/laws.FnSyms", spec := "fnSyms", inPlace := ["internal/reflectlite.TypeOf"], unfollowed := true, recurses := true, named := ["loop.example/g00792/impl.quarterPlaces", "loop.example/g00792/impl.firstWords", "loop.example/g00792/impl.roundWords", "loop.example/g00792/impl.errTurned"], ifaces := true, apart := false, laid := [("loop.example/g00792/impl.firstWords", laid_loop_example_g00792_impl_firstWords), ("loop.example/g00792/impl.roundWords", laid_loop_example_g00792_impl_roundWords), ("loop.example/g00792/impl.errTurned", laid_loop_example_g00792_impl_errTurned), ("loop.example/g00792/impl.quarterPlaces", laid_loop_example_g00792_impl_quarterPlaces)] }
def FnSymsSaid : Prop := fnSymsRow.holds Tryz.pinned (OpenSpec.ofChange fnSymsSpec)

/-- ITS FALSE NEIGHBOUR: 'it returns false'. Refute it at one input. -/
def fnSymsWrong : ChangeSpec := { name := "fnSyms", vars := ["loop.example/g00792/impl.quarterPlaces", "loop.example/g00792/impl.firstWords", "loop.example/g00792/impl.roundWords", "loop.example/g00792/impl.errTurned"], fn := fun _ => fun
  | [d, g1, g2, g3, g4] => { results := [.lit (.bool false)], args := [d], vars := [g1, g2, g3, g4] }
  | _ => none }
def FnSymsWrongFalsely : Prop := fnSymsRow.holds Tryz.pinned (OpenSpec.ofChange fnSymsWrong)

/-- 'laws.FnShakes': WHATEVER THE INPUT: true; the input reads as it did. -/
def fnShakesSpec : ChangeSpec := { name := "fnShakes", vars := ["loop.example/g00792/impl.lastPlaces", "loop.example/g00792/impl.firstWords", "loop.example/g00792/impl.roundWords", "loop.example/g00792/impl.quarterPlaces", "loop.example/g00792/impl.errTurned"], fn := fun _ => fun
  | [d, g1, g2, g3, g4, g5] => { results := [.lit (.bool true)], args := [d], vars := [g1, g2, g3, g4, g5] }
  | _ => none }
def fnShakesRow : OpenClaim := { program := "ytabhcolfkkfonaagreatdoor", sum := "877b756d29e45cf0cfa5625f0f5c3eb5506b16d4219a97e3dc9bcf8a048bfe0c", func := "loop.example/g00792/laws.FnShakes", spec := "fnShakes", inPlace := ["internal/reflectlite.TypeOf"], unfollowed := true, recurses := true, named := ["loop.example/g00792/impl.lastPlaces", "loop.example/g00792/impl.firstWords", "loop.example/g00792/impl.roundWords", "math/bits.divideError", "math/bits.overflowError", "loop.example/g00792/impl.quarterPlaces", "loop.example/g00792/impl.errTurned"], ifaces := true, apart := false, laid := [("loop.example/g00792/impl.firstWords", laid_loop_example_g00792_impl_firstWords), ("loop.example/g00792/impl.roundWords", laid_loop_example_g00792_impl_roundWords), ("loop.example/g00792/impl.errTurned", laid_loop_example_g00792_impl_errTurned), ("loop.example/g00792/impl.quarterPlaces", laid_loop_example_g00792_impl_quarterPlaces), ("loop.example/g00792/impl.lastPlaces", laid_loop_example_g00792_impl_lastPlaces)] }
def FnShakesSaid : Prop := fnShakesRow.holds Tryz.pinned (OpenSpec.ofChange fnShakesSpec)

/-- ITS FALSE NEIGHBOUR: 'it returns false'. Refute it at one input. -/
def fnShakesWrong : ChangeSpec := { name := "fnShakes", vars := ["loop.example/g00792/impl.lastPlaces", "loop.example/g00792/impl.firstWords", "loop.example/g00792/impl.roundWords", "loop.example/g00792/impl.quarterPlaces", "loop.example/g00792/impl.errTurned"], fn := fun _ => fun
  | [d, g1, g2, g3, g4, g5] => { results := [.lit (.bool false)], args := [d], vars := [g1, g2, g3, g4, g5] }
  | _ => none }
def FnShakesWrongFalsely : Prop := fnShakesRow.holds Tryz.pinned (OpenSpec.ofChange fnShakesWrong)

/-- 'laws.FnSeals': WHATEVER THE INPUT: true; the input reads as it did. -/
def fnSealsSpec : ChangeSpec := { name := "fnSeals", vars := ["loop.example/g00792/impl.quarterPlaces", "loop.example/g00792/impl.errTurned"], fn := fun _ => fun
  | [d, g1, g2] => { results := [.lit (.bool true)], args := [d], vars := [g1, g2] }
  | _ => none }
def fnSealsRow : OpenClaim := { program := "ytabhcolfkkfonaagreatdoor", sum := "877b756d29e45cf0cfa5625f0f5c3eb5506b16d4219a97e3dc9bcf8a048bfe0c", func := "loop.example/g00792/laws.FnSeals", spec := "fnSeals", inPlace := ["internal/reflectlite.TypeOf"], unfollowed := true, recurses := true, named := ["loop.example/g00792/impl.quarterPlaces", "loop.example/g00792/impl.errTurned"], ifaces := true, apart := false, laid := [("loop.example/g00792/impl.errTurned", laid_loop_example_g00792_impl_errTurned), ("loop.example/g00792/impl.quarterPlaces", laid_loop_example_g00792_impl_quarterPlaces)] }
def FnSealsSaid : Prop := fnSealsRow.holds Tryz.pinned (OpenSpec.ofChange fnSealsSpec)

/-- ITS FALSE NEIGHBOUR: 'it returns false'. Refute it at one input. -/
def fnSealsWrong : ChangeSpec := { name := "fnSeals", vars := ["loop.example/g00792/impl.quarterPlaces", "loop.example/g00792/impl.errTurned"], fn := fun _ => fun
  | [d, g1, g2] => { results := [.lit (.bool false)], args := [d], vars := [g1, g2] }
  | _ => none }
def FnSealsWrongFalsely : Prop := fnSealsRow.holds Tryz.pinned (OpenSpec.ofChange fnSealsWrong)

/-- 'laws.FnExactSealHash': WHATEVER THE INPUT: true; the input reads as it did. -/
def fnExactSealHashSpec : ChangeSpec := { name := "fnExactSealHash", vars := ["loop.example/g00792/impl.quarterPlaces", "loop.example/g00792/impl.firstWords", "loop.example/g00792/impl.roundWords"], fn := fun _ => fun
  | [d1, d2, g1, g2, g3] => { results := [.lit (.bool true)], args := [d1, d2], vars := [g1, g2, g3] }
  | _ => none }
def fnExactSealHashRow : OpenClaim := { program := "ytabhcolfkkfonaagreatdoor", sum := "877b756d29e45cf0cfa5625f0f5c3eb5506b16d4219a97e3dc9bcf8a048bfe0c", func := "loop.example/g00792/laws.FnExactSealHash", spec := "fnExactSealHash", unfollowed := true, recurses := true, named := ["loop.example/g00792/impl.quarterPlaces", "loop.example/g00792/impl.firstWords", "loop.example/g00792/impl.roundWords"], apart := false, laid := [("loop.example/g00792/impl.firstWords", laid_loop_example_g00792_impl_firstWords), ("loop.example/g00792/impl.roundWords", laid_loop_example_g00792_impl_roundWords), ("loop.example/g00792/impl.quarterPlaces", laid_loop_example_g00792_impl_quarterPlaces)] }
def FnExactSealHashSaid : Prop := fnExactSealHashRow.holds Tryz.pinned (OpenSpec.ofChange fnExactSealHashSpec)

/-- ITS FALSE NEIGHBOUR: 'it returns false'. Refute it at one input. -/
def fnExactSealHashWrong : ChangeSpec := { name := "fnExactSealHash", vars := ["loop.example/g00792/impl.quarterPlaces", "loop.example/g00792/impl.firstWords", "loop.example/g00792/impl.roundWords"], fn := fun _ => fun
  | [d1, d2, g1, g2, g3] => { results := [.lit (.bool false)], args := [d1, d2], vars := [g1, g2, g3] }
  | _ => none }
def FnExactSealHashWrongFalsely : Prop := fnExactSealHashRow.holds Tryz.pinned (OpenSpec.ofChange fnExactSealHashWrong)

/-- 'laws.FnExactOpenHash': WHATEVER THE INPUT: true; the input reads as it did. -/
def fnExactOpenHashSpec : ChangeSpec := { name := "fnExactOpenHash", vars := ["loop.example/g00792/impl.errTurned", "loop.example/g00792/impl.quarterPlaces", "loop.example/g00792/impl.firstWords", "loop.example/g00792/impl.roundWords"], fn := fun _ => fun
  | [d1, d2, g1, g2, g3, g4] => { results := [.lit (.bool true)], args := [d1, d2], vars := [g1, g2, g3, g4] }
  | _ => none }
def fnExactOpenHashRow : OpenClaim := { program := "ytabhcolfkkfonaagreatdoor", sum := "877b756d29e45cf0cfa5625f0f5c3eb5506b16d4219a97e3dc9bcf8a048bfe0c", func := "loop.example/g00792/laws.FnExactOpenHash", spec := "fnExactOpenHash", inPlace := ["internal/reflectlite.TypeOf"], unfollowed := true, recurses := true, named := ["loop.example/g00792/impl.errTurned", "loop.example/g00792/impl.quarterPlaces", "loop.example/g00792/impl.firstWords", "loop.example/g00792/impl.roundWords"], ifaces := true, apart := false, laid := [("loop.example/g00792/impl.firstWords", laid_loop_example_g00792_impl_firstWords), ("loop.example/g00792/impl.roundWords", laid_loop_example_g00792_impl_roundWords), ("loop.example/g00792/impl.errTurned", laid_loop_example_g00792_impl_errTurned), ("loop.example/g00792/impl.quarterPlaces", laid_loop_example_g00792_impl_quarterPlaces)] }
def FnExactOpenHashSaid : Prop := fnExactOpenHashRow.holds Tryz.pinned (OpenSpec.ofChange fnExactOpenHashSpec)

/-- ITS FALSE NEIGHBOUR: 'it returns false'. Refute it at one input. -/
def fnExactOpenHashWrong : ChangeSpec := { name := "fnExactOpenHash", vars := ["loop.example/g00792/impl.errTurned", "loop.example/g00792/impl.quarterPlaces", "loop.example/g00792/impl.firstWords", "loop.example/g00792/impl.roundWords"], fn := fun _ => fun
  | [d1, d2, g1, g2, g3, g4] => { results := [.lit (.bool false)], args := [d1, d2], vars := [g1, g2, g3, g4] }
  | _ => none }
def FnExactOpenHashWrongFalsely : Prop := fnExactOpenHashRow.holds Tryz.pinned (OpenSpec.ofChange fnExactOpenHashWrong)

/-- 'laws.FnExactRunShake': WHATEVER THE INPUT: true; the input reads as it did. -/
def fnExactRunShakeSpec : ChangeSpec := { name := "fnExactRunShake", vars := ["loop.example/g00792/impl.lastPlaces", "loop.example/g00792/impl.firstWords", "loop.example/g00792/impl.roundWords", "loop.example/g00792/impl.quarterPlaces", "loop.example/g00792/impl.errTurned"], fn := fun _ => fun
  | [d, g1, g2, g3, g4, g5] => { results := [.lit (.bool true)], args := [d], vars := [g1, g2, g3, g4, g5] }
  | _ => none }
def fnExactRunShakeRow : OpenClaim := { program := "ytabhcolfkkfonaagreatdoor", sum := "877b756d29e45cf0cfa5625f0f5c3eb5506b16d4219a97e3dc9bcf8a048bfe0c", func := "loop.example/g00792/laws.FnExactRunShake", spec := "fnExactRunShake", inPlace := ["internal/reflectlite.TypeOf"], unfollowed := true, recurses := true, named := ["loop.example/g00792/impl.lastPlaces", "loop.example/g00792/impl.firstWords", "loop.example/g00792/impl.roundWords", "math/bits.divideError", "math/bits.overflowError", "loop.example/g00792/impl.quarterPlaces", "loop.example/g00792/impl.errTurned"], ifaces := true, apart := false, laid := [("loop.example/g00792/impl.firstWords", laid_loop_example_g00792_impl_firstWords), ("loop.example/g00792/impl.roundWords", laid_loop_example_g00792_impl_roundWords), ("loop.example/g00792/impl.errTurned", laid_loop_example_g00792_impl_errTurned), ("loop.example/g00792/impl.quarterPlaces", laid_loop_example_g00792_impl_quarterPlaces), ("loop.example/g00792/impl.lastPlaces", laid_loop_example_g00792_impl_lastPlaces)] }
def FnExactRunShakeSaid : Prop := fnExactRunShakeRow.holds Tryz.pinned (OpenSpec.ofChange fnExactRunShakeSpec)

/-- ITS FALSE NEIGHBOUR: 'it returns false'. Refute it at one input. -/
def fnExactRunShakeWrong : ChangeSpec := { name := "fnExactRunShake", vars := ["loop.example/g00792/impl.lastPlaces", "loop.example/g00792/impl.firstWords", "loop.example/g00792/impl.roundWords", "loop.example/g00792/impl.quarterPlaces", "loop.example/g00792/impl.errTurned"], fn := fun _ => fun
  | [d, g1, g2, g3, g4, g5] => { results := [.lit (.bool false)], args := [d], vars := [g1, g2, g3, g4, g5] }
  | _ => none }
def FnExactRunShakeWrongFalsely : Prop := fnExactRunShakeRow.holds Tryz.pinned (OpenSpec.ofChange fnExactRunShakeWrong)

/-- 'laws.FnExactOpenCell': WHATEVER THE INPUT: true; the input reads as it did. -/
def fnExactOpenCellSpec : ChangeSpec := { name := "fnExactOpenCell", vars := ["loop.example/g00792/impl.errTurned", "loop.example/g00792/impl.quarterPlaces"], fn := fun _ => fun
  | [d1, d2, g1, g2] => { results := [.lit (.bool true)], args := [d1, d2], vars := [g1, g2] }
  | _ => none }
def fnExactOpenCellRow : OpenClaim := { program := "ytabhcolfkkfonaagreatdoor", sum := "877b756d29e45cf0cfa5625f0f5c3eb5506b16d4219a97e3dc9bcf8a048bfe0c", func := "loop.example/g00792/laws.FnExactOpenCell", spec := "fnExactOpenCell", inPlace := ["internal/reflectlite.TypeOf"], unfollowed := true, recurses := true, named := ["loop.example/g00792/impl.errTurned", "loop.example/g00792/impl.quarterPlaces"], ifaces := true, apart := false, laid := [("loop.example/g00792/impl.errTurned", laid_loop_example_g00792_impl_errTurned), ("loop.example/g00792/impl.quarterPlaces", laid_loop_example_g00792_impl_quarterPlaces)] }
def FnExactOpenCellSaid : Prop := fnExactOpenCellRow.holds Tryz.pinned (OpenSpec.ofChange fnExactOpenCellSpec)

/-- ITS FALSE NEIGHBOUR: 'it returns false'. Refute it at one input. -/
def fnExactOpenCellWrong : ChangeSpec := { name := "fnExactOpenCell", vars := ["loop.example/g00792/impl.errTurned", "loop.example/g00792/impl.quarterPlaces"], fn := fun _ => fun
  | [d1, d2, g1, g2] => { results := [.lit (.bool false)], args := [d1, d2], vars := [g1, g2] }
  | _ => none }
def FnExactOpenCellWrongFalsely : Prop := fnExactOpenCellRow.holds Tryz.pinned (OpenSpec.ofChange fnExactOpenCellWrong)

/- THE SECOND FORM. 'bulk': how many values and letters a reading holds, each counted each time it is reached (what is shared counts as often as it is met; a slice's spare places count too). A statement '..UptoSaid' is the law's where the arguments, and the package variables that the reading takes, are together of bulk at most 1048576: NARROWER than '..Said'. Prove '..Said' where nothing that the law and all that it calls make is longer than what came in: it says more and counts as full. Else prove '..UptoSaid'. A law counts once. -/
mutual
def uptoBulk {H : Type} : DataW H → Nat
  | .lit (.string bytes) => bytes.length + 1
  | .lit _ => 1
  | .nil => 1
  | .ptr d => uptoBulk d + 1
  | .slice elems spare => uptoBulkAll elems + uptoBulkAll spare + 1
  | .agg parts => uptoBulkAll parts + 1
  | .iface _ d => uptoBulk d + 1
  | .map entries => uptoBulkEntries entries + 1
  | .held _ => 1
def uptoBulkAll {H : Type} : List (DataW H) → Nat
  | [] => 0
  | d :: r => uptoBulk d + uptoBulkAll r
def uptoBulkEntries {H : Type} : List (Lit × DataW H) → Nat
  | [] => 0
  | x :: r => uptoBulkEntry x + uptoBulkEntries r
def uptoBulkEntry {H : Type} : Lit × DataW H → Nat
  | (.string bytes, d) => bytes.length + uptoBulk d + 1
  | (_, d) => uptoBulk d + 1
 end
def uptoSmall : (H : Type) → List (DataW H) → Bool := fun _ ds => decide (uptoBulkAll ds ≤ 1048576)
def OpenSpec.upto (s : _root_.Go.ChangeSpec) : _root_.Go.OpenSpec := { _root_.Go.OpenSpec.ofChange s with cond := some uptoSmall }

/-- 'laws.FnSyms', WHERE WHAT IT READS IS OF BULK AT MOST 1048576: true; the input reads as it did. -/
def fnSymsUptoRow : OpenClaim := { program := "ytabhcolfkkfonaagreatdoor", sum := "877b756d29e45cf0cfa5625f0f5c3eb5506b16d4219a97e3dc9bcf8a048bfe0c", func := "loop.example/g00792/laws.FnSyms", spec := "fnSyms", inPlace := ["internal/reflectlite.TypeOf"], unfollowed := true, recurses := true, named := ["loop.example/g00792/impl.quarterPlaces", "loop.example/g00792/impl.firstWords", "loop.example/g00792/impl.roundWords", "loop.example/g00792/impl.errTurned"], ifaces := true, apart := false, laid := [("loop.example/g00792/impl.firstWords", laid_loop_example_g00792_impl_firstWords), ("loop.example/g00792/impl.roundWords", laid_loop_example_g00792_impl_roundWords), ("loop.example/g00792/impl.errTurned", laid_loop_example_g00792_impl_errTurned), ("loop.example/g00792/impl.quarterPlaces", laid_loop_example_g00792_impl_quarterPlaces)], narrowed := true }
def FnSymsUptoSaid : Prop := fnSymsUptoRow.holds Tryz.pinned (OpenSpec.upto fnSymsSpec)

/-- 'laws.FnShakes', WHERE WHAT IT READS IS OF BULK AT MOST 1048576: true; the input reads as it did. -/
def fnShakesUptoRow : OpenClaim := { program := "ytabhcolfkkfonaagreatdoor", sum := "877b756d29e45cf0cfa5625f0f5c3eb5506b16d4219a97e3dc9bcf8a048bfe0c", func := "loop.example/g00792/laws.FnShakes", spec := "fnShakes", inPlace := ["internal/reflectlite.TypeOf"], unfollowed := true, recurses := true, named := ["loop.example/g00792/impl.lastPlaces", "loop.example/g00792/impl.firstWords", "loop.example/g00792/impl.roundWords", "math/bits.divideError", "math/bits.overflowError", "loop.example/g00792/impl.quarterPlaces", "loop.example/g00792/impl.errTurned"], ifaces := true, apart := false, laid := [("loop.example/g00792/impl.firstWords", laid_loop_example_g00792_impl_firstWords), ("loop.example/g00792/impl.roundWords", laid_loop_example_g00792_impl_roundWords), ("loop.example/g00792/impl.errTurned", laid_loop_example_g00792_impl_errTurned), ("loop.example/g00792/impl.quarterPlaces", laid_loop_example_g00792_impl_quarterPlaces), ("loop.example/g00792/impl.lastPlaces", laid_loop_example_g00792_impl_lastPlaces)], narrowed := true }
def FnShakesUptoSaid : Prop := fnShakesUptoRow.holds Tryz.pinned (OpenSpec.upto fnShakesSpec)

/-- 'laws.FnSeals', WHERE WHAT IT READS IS OF BULK AT MOST 1048576: true; the input reads as it did. -/
def fnSealsUptoRow : OpenClaim := { program := "ytabhcolfkkfonaagreatdoor", sum := "877b756d29e45cf0cfa5625f0f5c3eb5506b16d4219a97e3dc9bcf8a048bfe0c", func := "loop.example/g00792/laws.FnSeals", spec := "fnSeals", inPlace := ["internal/reflectlite.TypeOf"], unfollowed := true, recurses := true, named := ["loop.example/g00792/impl.quarterPlaces", "loop.example/g00792/impl.errTurned"], ifaces := true, apart := false, laid := [("loop.example/g00792/impl.errTurned", laid_loop_example_g00792_impl_errTurned), ("loop.example/g00792/impl.quarterPlaces", laid_loop_example_g00792_impl_quarterPlaces)], narrowed := true }
def FnSealsUptoSaid : Prop := fnSealsUptoRow.holds Tryz.pinned (OpenSpec.upto fnSealsSpec)

/-- 'laws.FnExactSealHash', WHERE WHAT IT READS IS OF BULK AT MOST 1048576: true; the input reads as it did. -/
def fnExactSealHashUptoRow : OpenClaim := { program := "ytabhcolfkkfonaagreatdoor", sum := "877b756d29e45cf0cfa5625f0f5c3eb5506b16d4219a97e3dc9bcf8a048bfe0c", func := "loop.example/g00792/laws.FnExactSealHash", spec := "fnExactSealHash", unfollowed := true, recurses := true, named := ["loop.example/g00792/impl.quarterPlaces", "loop.example/g00792/impl.firstWords", "loop.example/g00792/impl.roundWords"], apart := false, laid := [("loop.example/g00792/impl.firstWords", laid_loop_example_g00792_impl_firstWords), ("loop.example/g00792/impl.roundWords", laid_loop_example_g00792_impl_roundWords), ("loop.example/g00792/impl.quarterPlaces", laid_loop_example_g00792_impl_quarterPlaces)], narrowed := true }
def FnExactSealHashUptoSaid : Prop := fnExactSealHashUptoRow.holds Tryz.pinned (OpenSpec.upto fnExactSealHashSpec)

/-- 'laws.FnExactOpenHash', WHERE WHAT IT READS IS OF BULK AT MOST 1048576: true; the input reads as it did. -/
def fnExactOpenHashUptoRow : OpenClaim := { program := "ytabhcolfkkfonaagreatdoor", sum := "877b756d29e45cf0cfa5625f0f5c3eb5506b16d4219a97e3dc9bcf8a048bfe0c", func := "loop.example/g00792/laws.FnExactOpenHash", spec := "fnExactOpenHash", inPlace := ["internal/reflectlite.TypeOf"], unfollowed := true, recurses := true, named := ["loop.example/g00792/impl.errTurned", "loop.example/g00792/impl.quarterPlaces", "loop.example/g00792/impl.firstWords", "loop.example/g00792/impl.roundWords"], ifaces := true, apart := false, laid := [("loop.example/g00792/impl.firstWords", laid_loop_example_g00792_impl_firstWords), ("loop.example/g00792/impl.roundWords", laid_loop_example_g00792_impl_roundWords), ("loop.example/g00792/impl.errTurned", laid_loop_example_g00792_impl_errTurned), ("loop.example/g00792/impl.quarterPlaces", laid_loop_example_g00792_impl_quarterPlaces)], narrowed := true }
def FnExactOpenHashUptoSaid : Prop := fnExactOpenHashUptoRow.holds Tryz.pinned (OpenSpec.upto fnExactOpenHashSpec)

/-- 'laws.FnExactRunShake', WHERE WHAT IT READS IS OF BULK AT MOST 1048576: true; the input reads as it did. -/
def fnExactRunShakeUptoRow : OpenClaim := { program := "ytabhcolfkkfonaagreatdoor", sum := "877b756d29e45cf0cfa5625f0f5c3eb5506b16d4219a97e3dc9bcf8a048bfe0c", func := "loop.example/g00792/laws.FnExactRunShake", spec := "fnExactRunShake", inPlace := ["internal/reflectlite.TypeOf"], unfollowed := true, recurses := true, named := ["loop.example/g00792/impl.lastPlaces", "loop.example/g00792/impl.firstWords", "loop.example/g00792/impl.roundWords", "math/bits.divideError", "math/bits.overflowError", "loop.example/g00792/impl.quarterPlaces", "loop.example/g00792/impl.errTurned"], ifaces := true, apart := false, laid := [("loop.example/g00792/impl.firstWords", laid_loop_example_g00792_impl_firstWords), ("loop.example/g00792/impl.roundWords", laid_loop_example_g00792_impl_roundWords), ("loop.example/g00792/impl.errTurned", laid_loop_example_g00792_impl_errTurned), ("loop.example/g00792/impl.quarterPlaces", laid_loop_example_g00792_impl_quarterPlaces), ("loop.example/g00792/impl.lastPlaces", laid_loop_example_g00792_impl_lastPlaces)], narrowed := true }
def FnExactRunShakeUptoSaid : Prop := fnExactRunShakeUptoRow.holds Tryz.pinned (OpenSpec.upto fnExactRunShakeSpec)

/-- 'laws.FnExactOpenCell', WHERE WHAT IT READS IS OF BULK AT MOST 1048576: true; the input reads as it did. -/
def fnExactOpenCellUptoRow : OpenClaim := { program := "ytabhcolfkkfonaagreatdoor", sum := "877b756d29e45cf0cfa5625f0f5c3eb5506b16d4219a97e3dc9bcf8a048bfe0c", func := "loop.example/g00792/laws.FnExactOpenCell", spec := "fnExactOpenCell", inPlace := ["internal/reflectlite.TypeOf"], unfollowed := true, recurses := true, named := ["loop.example/g00792/impl.errTurned", "loop.example/g00792/impl.quarterPlaces"], ifaces := true, apart := false, laid := [("loop.example/g00792/impl.errTurned", laid_loop_example_g00792_impl_errTurned), ("loop.example/g00792/impl.quarterPlaces", laid_loop_example_g00792_impl_quarterPlaces)], narrowed := true }
def FnExactOpenCellUptoSaid : Prop := fnExactOpenCellUptoRow.holds Tryz.pinned (OpenSpec.upto fnExactOpenCellSpec)

end Rows
end Go.Proofs.YtabhcolfkkfonaaGreatDoor
