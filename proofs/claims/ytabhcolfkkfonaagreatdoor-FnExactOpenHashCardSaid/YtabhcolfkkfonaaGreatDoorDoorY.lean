/- What the three listed tables and the sentinel give; a world in which they lie so. -/
import Derived.Test.YtabhcolfkkfonaaGreatDoorDoorX
import Derived.Test.YtabhcolfkkfonaaGreatDoorDoorE
namespace Go.Proofs.YtabhcolfkkfonaaGreatDoor
open Go.RowKit Go.ChangeShapes Go.WideShapes Go.ChangeAt

/-- the tables and the sentinel as the rows list them -/
def laidFour {H : Type} : List (String × DataW H) := [("loop.example/g00792/impl.firstWords", Rows.laid_loop_example_g00792_impl_firstWords), ("loop.example/g00792/impl.roundWords", Rows.laid_loop_example_g00792_impl_roundWords), ("loop.example/g00792/impl.errTurned", Rows.laid_loop_example_g00792_impl_errTurned), ("loop.example/g00792/impl.quarterPlaces", Rows.laid_loop_example_g00792_impl_quarterPlaces)]

def Four (w : World) : Prop := Tabs w ∧ Quar w ∧ Sent w
theorem Four.keep {w w' : World} (h : Four w) (hb : Below w.heap.size w w') : Four w' := ⟨h.1.keep hb, h.2.1.keep hb, h.2.2.keep hb⟩

theorem four_of_laid {W : World} (h : laidMetH Tryz.prog laidFour W) : Four W := by
  rw [MakeChecks.laidMetH_plain _ _ _ (by kernel_rfl)] at h
  have h2 := laidMet.tail (laidMet.tail h)
  obtain ⟨a, s, hv, _, _, _⟩ := laid_sentinel h2 gErr tErr Tryz.underlying162 rowE Tryz.underlying255 Tryz.underlying280 rfl rfl Tryz.underlying9 cellsE cellsS
  have h3 := laidMet.tail h2
  obtain ⟨te, fe, he⟩ := of_var gErr hv
  obtain ⟨ps3, ⟨g2, t2, cs2, f2, p2, q2, hg2, ht2, hv2, hd2, _, _⟩, _, _⟩ := h3
  obtain ⟨ps, ⟨g0, t0, cs0, f0, p0, q0, hg0, ht0, hv0, hd0, ⟨g1, t1, cs1, f1, p1, q1, hg1, ht1, hv1, hd1, _, _⟩, _⟩, _, _⟩ := h
  obtain rfl := Option.some.inj (gFirst.symm.trans hg0)
  obtain rfl := Option.some.inj (gRound.symm.trans hg1)
  obtain rfl := Option.some.inj (gQuar.symm.trans hg2)
  obtain rfl := Option.some.inj (tFirst.symm.trans ht0)
  obtain rfl := Option.some.inj (tRound.symm.trans ht1)
  obtain rfl := Option.some.inj (tQuar.symm.trans ht2)
  have e0 := Lib.cells_of_tab (zs := firstWords) Tryz.underlying174 Tryz.underlying158 cellsW1 cellsW8 hd0
  have e1 := Lib.cells_of_tab (zs := roundWords) Tryz.underlying197 Tryz.underlying158 cellsW1 cellsW64 hd1
  have e2 := quar_of_cells hd2
  have c0 : cs0 = (firstWords.map (Value.int .u32)).toArray := by rw [← e0]
  have c1 : cs1 = (roundWords.map (Value.int .u32)).toArray := by rw [← e1]
  subst c0 c1
  obtain ⟨t, f, hh⟩ := of_var gQuar hv2
  exact ⟨⟨of_var gFirst hv0, of_var gRound hv1⟩, ⟨t, f, by rw [hh]; simpa using e2⟩, ⟨a, cell_of_row W _ 0 _ te fe he⟩⟩

theorem door_met4 (os : Os) (args : Array Value) : laidMetH Tryz.prog laidFour ((World.doorLaid Tryz.prog 400 os).forCall (fun _ _ => 0) ⟨#[], args, []⟩).memory :=
  laidMetH_of_parts3 (fuel := 8) (laidMet_of_run' 8 (by kernel_rfl) (by kernel_rfl)) (by kernel_rfl) (by kernel_rfl)

theorem rowedFour : varsRowed Tryz.prog ["loop.example/g00792/impl.errTurned", "loop.example/g00792/impl.quarterPlaces", "loop.example/g00792/impl.firstWords", "loop.example/g00792/impl.roundWords"] = true := by kernel_rfl
end Go.Proofs.YtabhcolfkkfonaaGreatDoor
