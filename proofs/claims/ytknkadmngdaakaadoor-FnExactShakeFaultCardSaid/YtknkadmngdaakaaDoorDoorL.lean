/- What the listed table of the last places gives: its cells; a world in which it lies so. -/
import Derived.Test.YtknkadmngdaakaaDoorShakeC
import Derived.Test.YtknkadmngdaakaaDoorTie
import Derived.Test.YtknkadmngdaakaaDoorCards
import Derived.LaidMore
import Derived.Lib.LaidTab
import Derived.OpenVars
import Derived.SevenTiedAt
import Derived.Stop.Joined
import Derived.ChangeSame
import Derived.ChangeVars
namespace Go.Proofs.YtknkadmngdaakaaDoor
open Go.RowKit Go.ChangeShapes Go.WideShapes Go.ChangeAt

theorem ownL : ownKnob Tryd.prog.godebug = none := by kernel_rfl
theorem laidOutL : laidOutB Tryd.prog = true := by kernel_rfl
theorem gLast : Tryd.prog.globalNamed "loop.example/g00792/impl.lastPlaces" = some 0 := by kernel_rfl
theorem tLast : (Tryd.prog.globals[0]?).map (·.type) = some 73 := by kernel_rfl
theorem cellsL : Tryd.prog.cellsOf 2 = 1 := by kernel_rfl
theorem cells4L : Tryd.prog.cellsOf 73 = 4 := by kernel_rfl
def laidLast {H : Type} : List (String × DataW H) := [("loop.example/g00792/impl.lastPlaces", Rows.laid_loop_example_g00792_impl_lastPlaces)]
theorem of_varL {W : World} {n : String} {g : Nat} {cs : Array Value} (hg : Tryd.prog.globalNamed n = some g) (h : W.var? Tryd.prog n = some cs) : ∃ t f, W.heap[g]? = some (.cells cs t f) := by
  simp only [World.var?, hg, Option.bind_some] at h
  split at h
  · rename_i cs' t f e
    injection h with h
    subst h
    exact ⟨t, f, e⟩
  · cases h
theorem last_of_laid {W : World} (h : laidMetH Tryd.prog laidLast W) : Last W := by
  rw [MakeChecks.laidMetH_plain _ _ _ (by kernel_rfl)] at h
  obtain ⟨ps, ⟨g0, t0, cs0, f0, p0, q0, hg0, ht0, hv0, hd0, _, _⟩, _, _⟩ := h
  obtain rfl := Option.some.inj (gLast.symm.trans hg0)
  obtain rfl := Option.some.inj (tLast.symm.trans ht0)
  have e0 := Lib.cells_of_tab (zs := lastP) Tryd.underlying73 Tryd.underlying2 cellsL cells4L hd0
  have c0 : cs0 = (lastP.map (Value.int .i64)).toArray := by rw [← e0]
  subst c0
  exact of_varL gLast hv0
theorem door_metL (os : Os) (args : Array Value) : laidMetH Tryd.prog laidLast ((World.doorLaid Tryd.prog 400 os).forCall (fun _ _ => 0) ⟨#[], args, []⟩).memory :=
  laidMetH_of_parts3 (fuel := 8) (laidMet_of_run' 8 (by kernel_rfl) (by kernel_rfl)) (by kernel_rfl) (by kernel_rfl)
theorem rowedL : varsRowed Tryd.prog ["loop.example/g00792/impl.lastPlaces"] = true := by kernel_rfl
end Go.Proofs.YtknkadmngdaakaaDoor
