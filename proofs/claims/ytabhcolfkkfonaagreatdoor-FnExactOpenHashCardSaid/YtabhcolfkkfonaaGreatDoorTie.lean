/-
  DERIVED. GIVEN WITH THE SEED: THE PROGRAM's TIES (one call each: nine closed facts by the kernel) AND EACH ROW's TIE, after the 31st guide's Derived/Test/Toyas{Tie, Card}.lean. No idea stands in it: it is a product of the set-up. Laid BY PROGRAM, IN A SANDBOX (cutbox-door.mjs). By AI agents, Wed Nov 11 2026. No macro, syntax, notation, axiom, sorry.
-/
import Derived.Test.YtabhcolfkkfonaaGreatDoorRows
import Derived.LaidByTextLater
import Derived.SevenTiedAt
import Derived.LaidSub
import Derived.LaidOnce
namespace Go.Proofs.YtabhcolfkkfonaaGreatDoor
open Go
set_option maxRecDepth 100000
theorem seatTie1 : Tryz.prog.laidByTextLater [("loop.example/g00792/impl.firstWords", Rows.laid_loop_example_g00792_impl_firstWords), ("loop.example/g00792/impl.roundWords", Rows.laid_loop_example_g00792_impl_roundWords), ("loop.example/g00792/impl.errTurned", Rows.laid_loop_example_g00792_impl_errTurned), ("loop.example/g00792/impl.quarterPlaces", Rows.laid_loop_example_g00792_impl_quarterPlaces), ("loop.example/g00792/impl.lastPlaces", Rows.laid_loop_example_g00792_impl_lastPlaces)] [.data, .data, .sentinel, .data, .data] true :=
  Program.laidByTextLater_by_one 56 8 65 (by kernel_rfl) (by kernel_rfl) (by kernel_rfl) (by kernel_rfl) (by kernel_rfl) (by kernel_rfl) (fun _ _ => by kernel_rfl)
theorem noOwnUnsafe : Tryz.pinned.checked.prog.headLifts.contains "ownunsafe" = false := by kernel_rfl
theorem tie : Tryz.prog.laidByTextLater [("loop.example/g00792/impl.firstWords", Rows.laid_loop_example_g00792_impl_firstWords), ("loop.example/g00792/impl.roundWords", Rows.laid_loop_example_g00792_impl_roundWords), ("loop.example/g00792/impl.errTurned", Rows.laid_loop_example_g00792_impl_errTurned), ("loop.example/g00792/impl.quarterPlaces", Rows.laid_loop_example_g00792_impl_quarterPlaces)] [.data, .data, .sentinel, .data] true :=
  Program.laidByTextLater.sub seatTie1 ["loop.example/g00792/impl.firstWords", "loop.example/g00792/impl.roundWords", "loop.example/g00792/impl.errTurned", "loop.example/g00792/impl.quarterPlaces"] (by kernel_rfl) (by kernel_rfl)
theorem fnSyms_row_tie : Rows.fnSymsRow.laidByTextAt .later Tryz.pinned [.data, .data, .sentinel, .data] true :=
  OpenClaim.laidByTextAt_later rfl rfl tie noOwnUnsafe
theorem fnExactOpenHash_row_tie : Rows.fnExactOpenHashRow.laidByTextAt .later Tryz.pinned [.data, .data, .sentinel, .data] true :=
  OpenClaim.laidByTextAt_later rfl rfl tie noOwnUnsafe
theorem tie2 : Tryz.prog.laidByTextLater [("loop.example/g00792/impl.firstWords", Rows.laid_loop_example_g00792_impl_firstWords), ("loop.example/g00792/impl.roundWords", Rows.laid_loop_example_g00792_impl_roundWords), ("loop.example/g00792/impl.errTurned", Rows.laid_loop_example_g00792_impl_errTurned), ("loop.example/g00792/impl.quarterPlaces", Rows.laid_loop_example_g00792_impl_quarterPlaces), ("loop.example/g00792/impl.lastPlaces", Rows.laid_loop_example_g00792_impl_lastPlaces)] [.data, .data, .sentinel, .data, .data] true :=
  Program.laidByTextLater.sub seatTie1 ["loop.example/g00792/impl.firstWords", "loop.example/g00792/impl.roundWords", "loop.example/g00792/impl.errTurned", "loop.example/g00792/impl.quarterPlaces", "loop.example/g00792/impl.lastPlaces"] (by kernel_rfl) (by kernel_rfl)
theorem fnShakes_row_tie : Rows.fnShakesRow.laidByTextAt .later Tryz.pinned [.data, .data, .sentinel, .data, .data] true :=
  OpenClaim.laidByTextAt_later rfl rfl tie2 noOwnUnsafe
theorem fnExactRunShake_row_tie : Rows.fnExactRunShakeRow.laidByTextAt .later Tryz.pinned [.data, .data, .sentinel, .data, .data] true :=
  OpenClaim.laidByTextAt_later rfl rfl tie2 noOwnUnsafe
theorem tie3 : Tryz.prog.laidByTextLater [("loop.example/g00792/impl.errTurned", Rows.laid_loop_example_g00792_impl_errTurned), ("loop.example/g00792/impl.quarterPlaces", Rows.laid_loop_example_g00792_impl_quarterPlaces)] [.sentinel, .data] true :=
  Program.laidByTextLater.sub seatTie1 ["loop.example/g00792/impl.errTurned", "loop.example/g00792/impl.quarterPlaces"] (by kernel_rfl) (by kernel_rfl)
theorem fnSeals_row_tie : Rows.fnSealsRow.laidByTextAt .later Tryz.pinned [.sentinel, .data] true :=
  OpenClaim.laidByTextAt_later rfl rfl tie3 noOwnUnsafe
theorem fnExactOpenCell_row_tie : Rows.fnExactOpenCellRow.laidByTextAt .later Tryz.pinned [.sentinel, .data] true :=
  OpenClaim.laidByTextAt_later rfl rfl tie3 noOwnUnsafe
theorem tie4 : Tryz.prog.laidByTextLater [("loop.example/g00792/impl.firstWords", Rows.laid_loop_example_g00792_impl_firstWords), ("loop.example/g00792/impl.roundWords", Rows.laid_loop_example_g00792_impl_roundWords), ("loop.example/g00792/impl.quarterPlaces", Rows.laid_loop_example_g00792_impl_quarterPlaces)] [.data, .data, .data] true :=
  Program.laidByTextLater.sub seatTie1 ["loop.example/g00792/impl.firstWords", "loop.example/g00792/impl.roundWords", "loop.example/g00792/impl.quarterPlaces"] (by kernel_rfl) (by kernel_rfl)
theorem fnExactSealHash_row_tie : Rows.fnExactSealHashRow.laidByTextAt .later Tryz.pinned [.data, .data, .data] true :=
  OpenClaim.laidByTextAt_later rfl rfl tie4 noOwnUnsafe
theorem fnSymsUpto_row_tie : Rows.fnSymsUptoRow.laidByTextAt .later Tryz.pinned [.data, .data, .sentinel, .data] true :=
  OpenClaim.laidByTextAt_later rfl rfl tie noOwnUnsafe
theorem fnShakesUpto_row_tie : Rows.fnShakesUptoRow.laidByTextAt .later Tryz.pinned [.data, .data, .sentinel, .data, .data] true :=
  OpenClaim.laidByTextAt_later rfl rfl tie2 noOwnUnsafe
theorem fnSealsUpto_row_tie : Rows.fnSealsUptoRow.laidByTextAt .later Tryz.pinned [.sentinel, .data] true :=
  OpenClaim.laidByTextAt_later rfl rfl tie3 noOwnUnsafe
theorem fnExactSealHashUpto_row_tie : Rows.fnExactSealHashUptoRow.laidByTextAt .later Tryz.pinned [.data, .data, .data] true :=
  OpenClaim.laidByTextAt_later rfl rfl tie4 noOwnUnsafe
theorem fnExactOpenHashUpto_row_tie : Rows.fnExactOpenHashUptoRow.laidByTextAt .later Tryz.pinned [.data, .data, .sentinel, .data] true :=
  OpenClaim.laidByTextAt_later rfl rfl tie noOwnUnsafe
theorem fnExactRunShakeUpto_row_tie : Rows.fnExactRunShakeUptoRow.laidByTextAt .later Tryz.pinned [.data, .data, .sentinel, .data, .data] true :=
  OpenClaim.laidByTextAt_later rfl rfl tie2 noOwnUnsafe
theorem fnExactOpenCellUpto_row_tie : Rows.fnExactOpenCellUptoRow.laidByTextAt .later Tryz.pinned [.sentinel, .data] true :=
  OpenClaim.laidByTextAt_later rfl rfl tie3 noOwnUnsafe
end Go.Proofs.YtabhcolfkkfonaaGreatDoor
