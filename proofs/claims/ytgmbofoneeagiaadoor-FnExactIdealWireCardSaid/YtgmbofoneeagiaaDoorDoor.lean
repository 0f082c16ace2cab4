/- What the two listed tables give: their cells; a world in which they lie so. -/
import Derived.Test.YtgmbofoneeagiaaDoorShaX
import Derived.Test.YtgmbofoneeagiaaDoorTie
import Derived.Test.YtgmbofoneeagiaaDoorCards
import Derived.LaidMore
import Derived.Lib.LaidTab
import Derived.OpenVars
import Derived.SevenTiedAt
import Derived.Stop.Joined
import Derived.ChangeSame
import Derived.ChangeVars
namespace Go.Proofs.YtgmbofoneeagiaaDoor
open Go.RowKit Go.ChangeShapes Go.WideShapes Go.ChangeAt

theorem own : ownKnob Tryd.prog.godebug = none := by kernel_rfl
theorem laidOut : laidOutB Tryd.prog = true := by kernel_rfl
theorem gFirst : Tryd.prog.globalNamed "loop.example/g00792/impl.firstWords" = some 0 := by kernel_rfl
theorem gRound : Tryd.prog.globalNamed "loop.example/g00792/impl.roundWords" = some 1 := by kernel_rfl
theorem tFirst : (Tryd.prog.globals[0]?).map (·.type) = some 46 := by kernel_rfl
theorem tRound : (Tryd.prog.globals[1]?).map (·.type) = some 55 := by kernel_rfl
theorem cells32 : Tryd.prog.cellsOf 44 = 1 := by kernel_rfl
theorem cells8 : Tryd.prog.cellsOf 46 = 8 := by kernel_rfl
theorem cells64 : Tryd.prog.cellsOf 55 = 64 := by kernel_rfl

/-- the two tables as the rows list them -/
def laidTwo {H : Type} : List (String × DataW H) := [("loop.example/g00792/impl.firstWords", Rows.laid_loop_example_g00792_impl_firstWords), ("loop.example/g00792/impl.roundWords", Rows.laid_loop_example_g00792_impl_roundWords)]

theorem of_var {W : World} {n : String} {g : Nat} {cs : Array Value} (hg : Tryd.prog.globalNamed n = some g) (h : W.var? Tryd.prog n = some cs) : ∃ t f, W.heap[g]? = some (.cells cs t f) := by
  simp only [World.var?, hg, Option.bind_some] at h
  split at h
  · rename_i cs' t f e
    injection h with h
    subst h
    exact ⟨t, f, e⟩
  · cases h

theorem tabs_of_laid {W : World} (h : laidMetH Tryd.prog laidTwo W) : Tabs W := by
  rw [MakeChecks.laidMetH_plain _ _ _ (by kernel_rfl)] at h
  obtain ⟨ps, ⟨g0, t0, cs0, f0, p0, q0, hg0, ht0, hv0, hd0, ⟨g1, t1, cs1, f1, p1, q1, hg1, ht1, hv1, hd1, _, _⟩, _⟩, _, _⟩ := h
  obtain rfl := Option.some.inj (gFirst.symm.trans hg0)
  obtain rfl := Option.some.inj (gRound.symm.trans hg1)
  obtain rfl := Option.some.inj (tFirst.symm.trans ht0)
  obtain rfl := Option.some.inj (tRound.symm.trans ht1)
  have e0 := Lib.cells_of_tab (zs := firstWords) Tryd.underlying46 Tryd.underlying44 cells32 cells8 hd0
  have e1 := Lib.cells_of_tab (zs := roundWords) Tryd.underlying55 Tryd.underlying44 cells32 cells64 hd1
  have c0 : cs0 = (firstWords.map (Value.int .u32)).toArray := by rw [← e0]
  have c1 : cs1 = (roundWords.map (Value.int .u32)).toArray := by rw [← e1]
  subst c0 c1
  exact ⟨of_var gFirst hv0, of_var gRound hv1⟩

theorem door_met (os : Os) (args : Array Value) : laidMetH Tryd.prog laidTwo ((World.doorLaid Tryd.prog 400 os).forCall (fun _ _ => 0) ⟨#[], args, []⟩).memory :=
  laidMetH_of_parts3 (fuel := 8) (laidMet_of_run' 8 (by kernel_rfl) (by kernel_rfl)) (by kernel_rfl) (by kernel_rfl)

theorem rowed : varsRowed Tryd.prog ["loop.example/g00792/impl.firstWords", "loop.example/g00792/impl.roundWords"] = true := by kernel_rfl
theorem byte_stands : Tryd.prog.wantsStandIn 22 = false := by kernel_rfl
end Go.Proofs.YtgmbofoneeagiaaDoor
