/-
  DERIVED. GIVEN WITH THE SEED: THE PROGRAM's TIES (one call each: nine closed facts by the kernel) AND EACH ROW's TIE, after the 31st guide's Derived/Test/Toyas{Tie, Card}.lean. No idea stands in it: it is a product of the set-up. Laid BY PROGRAM, IN A SANDBOX (cutbox-door.mjs). By AI agents, Wed Nov 11 2026. No macro, syntax, notation, axiom, sorry.
-/
import Derived.Test.YtcanmhlhnihijaaDoorRows
import Derived.LaidByTextLater
import Derived.SevenTiedAt
import Derived.LaidSub
import Derived.LaidOnce
namespace Go.Proofs.YtcanmhlhnihijaaDoor
open Go
set_option maxRecDepth 100000
theorem seatTie1 : Tryd.prog.laidByTextLater [("loop.example/g00792/impl.errTurned", Rows.laid_loop_example_g00792_impl_errTurned), ("loop.example/g00792/impl.quarterPlaces", Rows.laid_loop_example_g00792_impl_quarterPlaces)] [.sentinel, .data] true :=
  Program.laidByTextLater_by_one 41 8 33 (by kernel_rfl) (by kernel_rfl) (by kernel_rfl) (by kernel_rfl) (by kernel_rfl) (by kernel_rfl) (fun _ _ => by kernel_rfl)
theorem noOwnUnsafe : Tryd.pinned.checked.prog.headLifts.contains "ownunsafe" = false := by kernel_rfl
theorem tie : Tryd.prog.laidByTextLater [("loop.example/g00792/impl.quarterPlaces", Rows.laid_loop_example_g00792_impl_quarterPlaces)] [.data] true :=
  Program.laidByTextLater.sub seatTie1 ["loop.example/g00792/impl.quarterPlaces"] (by kernel_rfl) (by kernel_rfl)
theorem fnStreams_row_tie : Rows.fnStreamsRow.laidByTextAt .later Tryd.pinned [.data] true :=
  OpenClaim.laidByTextAt_later rfl rfl tie noOwnUnsafe
theorem fnExactStreamBlock_row_tie : Rows.fnExactStreamBlockRow.laidByTextAt .later Tryd.pinned [.data] true :=
  OpenClaim.laidByTextAt_later rfl rfl tie noOwnUnsafe
theorem fnExactStreamXor_row_tie : Rows.fnExactStreamXorRow.laidByTextAt .later Tryd.pinned [.data] true :=
  OpenClaim.laidByTextAt_later rfl rfl tie noOwnUnsafe
theorem fnExactSealBox_row_tie : Rows.fnExactSealBoxRow.laidByTextAt .later Tryd.pinned [.data] true :=
  OpenClaim.laidByTextAt_later rfl rfl tie noOwnUnsafe
theorem tie2 : Tryd.prog.laidByTextLater [("loop.example/g00792/impl.errTurned", Rows.laid_loop_example_g00792_impl_errTurned), ("loop.example/g00792/impl.quarterPlaces", Rows.laid_loop_example_g00792_impl_quarterPlaces)] [.sentinel, .data] true :=
  Program.laidByTextLater.sub seatTie1 ["loop.example/g00792/impl.errTurned", "loop.example/g00792/impl.quarterPlaces"] (by kernel_rfl) (by kernel_rfl)
theorem fnBoxes_row_tie : Rows.fnBoxesRow.laidByTextAt .later Tryd.pinned [.sentinel, .data] true :=
  OpenClaim.laidByTextAt_later rfl rfl tie2 noOwnUnsafe
theorem fnExactOpenBox_row_tie : Rows.fnExactOpenBoxRow.laidByTextAt .later Tryd.pinned [.sentinel, .data] true :=
  OpenClaim.laidByTextAt_later rfl rfl tie2 noOwnUnsafe
theorem fnStreamsUpto_row_tie : Rows.fnStreamsUptoRow.laidByTextAt .later Tryd.pinned [.data] true :=
  OpenClaim.laidByTextAt_later rfl rfl tie noOwnUnsafe
theorem fnBoxesUpto_row_tie : Rows.fnBoxesUptoRow.laidByTextAt .later Tryd.pinned [.sentinel, .data] true :=
  OpenClaim.laidByTextAt_later rfl rfl tie2 noOwnUnsafe
theorem fnExactStreamBlockUpto_row_tie : Rows.fnExactStreamBlockUptoRow.laidByTextAt .later Tryd.pinned [.data] true :=
  OpenClaim.laidByTextAt_later rfl rfl tie noOwnUnsafe
theorem fnExactStreamXorUpto_row_tie : Rows.fnExactStreamXorUptoRow.laidByTextAt .later Tryd.pinned [.data] true :=
  OpenClaim.laidByTextAt_later rfl rfl tie noOwnUnsafe
theorem fnExactSealBoxUpto_row_tie : Rows.fnExactSealBoxUptoRow.laidByTextAt .later Tryd.pinned [.data] true :=
  OpenClaim.laidByTextAt_later rfl rfl tie noOwnUnsafe
theorem fnExactOpenBoxUpto_row_tie : Rows.fnExactOpenBoxUptoRow.laidByTextAt .later Tryd.pinned [.sentinel, .data] true :=
  OpenClaim.laidByTextAt_later rfl rfl tie2 noOwnUnsafe
end Go.Proofs.YtcanmhlhnihijaaDoor
