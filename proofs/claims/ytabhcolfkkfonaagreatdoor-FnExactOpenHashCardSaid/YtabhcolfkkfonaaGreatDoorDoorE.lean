/- What the listed variables of OpenBox and of the law of boxes give: the table's cells and the sentinel; a world in which they lie so. -/
import Derived.Test.YtabhcolfkkfonaaGreatDoorDoorC
import Derived.Test.YtabhcolfkkfonaaGreatDoorOpxP
import Derived.Stop.LaidErr
namespace Go.Proofs.YtabhcolfkkfonaaGreatDoor
open Go.RowKit Go.ChangeShapes Go.WideShapes Go.ChangeAt

theorem gErr : Tryz.prog.globalNamed "loop.example/g00792/impl.errTurned" = some 1 := by kernel_rfl
theorem tErr : (Tryz.prog.globals[1]?).map (·.type) = some 162 := by kernel_rfl
theorem cellsE : Tryz.prog.cellsOf 280 = 1 := by kernel_rfl
theorem cellsS : Tryz.prog.cellsOf 9 = 1 := by kernel_rfl
theorem starE : "*" ++ "errors.errorString" = "*errors.errorString" := by decide
theorem rowE (u : TypeId) (h : Tryz.prog.typeName? 3 u = some "*errors.errorString") : u = 255 :=
  typeName_ptr_named (nm := "errors.errorString") (by rw [starE]; kernel_rfl) (by kernel_rfl) (by decide) u (by rw [starE]; exact h)

/-- the sentinel and the table as the rows list them -/
def laidBoth {H : Type} : List (String × DataW H) := [("loop.example/g00792/impl.errTurned", Rows.laid_loop_example_g00792_impl_errTurned), ("loop.example/g00792/impl.quarterPlaces", Rows.laid_loop_example_g00792_impl_quarterPlaces)]

def Both (w : World) : Prop := Quar w ∧ Sent w
theorem Both.keep {w w' : World} (h : Both w) (hb : Below w.heap.size w w') : Both w' := ⟨h.1.keep hb, h.2.keep hb⟩

theorem both_of_laid {W : World} (h : laidMetH Tryz.prog laidBoth W) : Both W := by
  rw [MakeChecks.laidMetH_plain _ _ _ (by kernel_rfl)] at h
  obtain ⟨a, s, hv, _, _, _⟩ := laid_sentinel h gErr tErr Tryz.underlying162 rowE Tryz.underlying255 Tryz.underlying280 rfl rfl Tryz.underlying9 cellsE cellsS
  have h2 := laidMet.tail h
  obtain ⟨t, f, hh⟩ := of_var gErr hv
  refine ⟨?_, ⟨a, cell_of_row W _ 0 _ t f hh⟩⟩
  obtain ⟨ps, ⟨g0, t0, cs0, f0, p0, q0, hg0, ht0, hv0, hd0, _, _⟩, _, _⟩ := h2
  obtain rfl := Option.some.inj (gQuar.symm.trans hg0)
  obtain rfl := Option.some.inj (tQuar.symm.trans ht0)
  have e0 := quar_of_cells hd0
  obtain ⟨t, f, hh⟩ := of_var gQuar hv0
  exact ⟨t, f, by rw [hh]; simpa using e0⟩

theorem door_met2 (os : Os) (args : Array Value) : laidMetH Tryz.prog laidBoth ((World.doorLaid Tryz.prog 400 os).forCall (fun _ _ => 0) ⟨#[], args, []⟩).memory :=
  laidMetH_of_parts3 (fuel := 8) (laidMet_of_run' 8 (by kernel_rfl) (by kernel_rfl)) (by kernel_rfl) (by kernel_rfl)

theorem rowed2 : varsRowed Tryz.prog ["loop.example/g00792/impl.errTurned", "loop.example/g00792/impl.quarterPlaces"] = true := by kernel_rfl
theorem rowed3 : varsRowed Tryz.prog ["loop.example/g00792/impl.quarterPlaces", "loop.example/g00792/impl.errTurned"] = true := by kernel_rfl
end Go.Proofs.YtabhcolfkkfonaaGreatDoor
