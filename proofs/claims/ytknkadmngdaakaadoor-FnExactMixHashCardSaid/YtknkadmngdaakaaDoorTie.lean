/-
  DERIVED. GIVEN WITH THE SEED: THE PROGRAM's TIES (one call each: nine closed facts by the kernel) AND EACH ROW's TIE, after the 31st guide's Derived/Test/Toyas{Tie, Card}.lean. No idea stands in it: it is a product of the set-up. Laid BY PROGRAM, IN A SANDBOX (cutbox-door.mjs). By AI agents, Wed Nov 11 2026. No macro, syntax, notation, axiom, sorry.
-/
import Derived.Test.YtknkadmngdaakaaDoorRows
import Derived.LaidByTextLater
import Derived.SevenTiedAt
import Derived.LaidSub
import Derived.LaidOnce
namespace Go.Proofs.YtknkadmngdaakaaDoor
open Go
set_option maxRecDepth 100000
theorem seatTie1 : Tryd.prog.laidByTextLater [("loop.example/g00792/impl.firstWords", Rows.laid_loop_example_g00792_impl_firstWords), ("loop.example/g00792/impl.roundWords", Rows.laid_loop_example_g00792_impl_roundWords), ("loop.example/g00792/impl.lastPlaces", Rows.laid_loop_example_g00792_impl_lastPlaces)] [.data, .data, .data] true :=
  Program.laidByTextLater_by_one 24 8 65 (by kernel_rfl) (by kernel_rfl) (by kernel_rfl) (by kernel_rfl) (by kernel_rfl) (by kernel_rfl) (fun _ _ => by kernel_rfl)
theorem noOwnUnsafe : Tryd.pinned.checked.prog.headLifts.contains "ownunsafe" = false := by kernel_rfl
theorem tie : Tryd.prog.laidByTextLater [("loop.example/g00792/impl.firstWords", Rows.laid_loop_example_g00792_impl_firstWords), ("loop.example/g00792/impl.roundWords", Rows.laid_loop_example_g00792_impl_roundWords)] [.data, .data] true :=
  Program.laidByTextLater.sub seatTie1 ["loop.example/g00792/impl.firstWords", "loop.example/g00792/impl.roundWords"] (by kernel_rfl) (by kernel_rfl)
theorem fnExactMixHash_row_tie : Rows.fnExactMixHashRow.laidByTextAt .later Tryd.pinned [.data, .data] true :=
  OpenClaim.laidByTextAt_later rfl rfl tie noOwnUnsafe
theorem fnExactMixKey_row_tie : Rows.fnExactMixKeyRow.laidByTextAt .later Tryd.pinned [.data, .data] true :=
  OpenClaim.laidByTextAt_later rfl rfl tie noOwnUnsafe
theorem fnExactSplitSym_row_tie : Rows.fnExactSplitSymRow.laidByTextAt .later Tryd.pinned [.data, .data] true :=
  OpenClaim.laidByTextAt_later rfl rfl tie noOwnUnsafe
theorem tie2 : Tryd.prog.laidByTextLater [("loop.example/g00792/impl.lastPlaces", Rows.laid_loop_example_g00792_impl_lastPlaces)] [.data] true :=
  Program.laidByTextLater.sub seatTie1 ["loop.example/g00792/impl.lastPlaces"] (by kernel_rfl) (by kernel_rfl)
theorem fnExactShakeFault_row_tie : Rows.fnExactShakeFaultRow.laidByTextAt .later Tryd.pinned [.data] true :=
  OpenClaim.laidByTextAt_later rfl rfl tie2 noOwnUnsafe
theorem fnExactMixHashUpto_row_tie : Rows.fnExactMixHashUptoRow.laidByTextAt .later Tryd.pinned [.data, .data] true :=
  OpenClaim.laidByTextAt_later rfl rfl tie noOwnUnsafe
theorem fnExactMixKeyUpto_row_tie : Rows.fnExactMixKeyUptoRow.laidByTextAt .later Tryd.pinned [.data, .data] true :=
  OpenClaim.laidByTextAt_later rfl rfl tie noOwnUnsafe
theorem fnExactSplitSymUpto_row_tie : Rows.fnExactSplitSymUptoRow.laidByTextAt .later Tryd.pinned [.data, .data] true :=
  OpenClaim.laidByTextAt_later rfl rfl tie noOwnUnsafe
theorem fnExactShakeFaultUpto_row_tie : Rows.fnExactShakeFaultUptoRow.laidByTextAt .later Tryd.pinned [.data] true :=
  OpenClaim.laidByTextAt_later rfl rfl tie2 noOwnUnsafe
end Go.Proofs.YtknkadmngdaakaaDoor
