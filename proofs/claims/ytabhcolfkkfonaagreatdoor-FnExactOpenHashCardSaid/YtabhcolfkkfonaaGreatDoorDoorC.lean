/- What the listed table of chapter 3 gives: its cells; a world in which it lies so (gen_door.py). -/
import Derived.Test.YtabhcolfkkfonaaGreatDoorBlkP
import Derived.Test.YtabhcolfkkfonaaGreatDoorTie
import Derived.Test.YtabhcolfkkfonaaGreatDoorCards
import Derived.LaidMore
import Derived.Lib.LaidTab
import Derived.OpenVars
import Derived.SevenTiedAt
import Derived.Stop.Joined
import Derived.ChangeSame
import Derived.ChangeVars
namespace Go.Proofs.YtabhcolfkkfonaaGreatDoor
open Go.RowKit Go.ChangeShapes Go.WideShapes Go.ChangeAt

theorem own : ownKnob Tryz.prog.godebug = none := by kernel_rfl
theorem laidOut : laidOutB Tryz.prog = true := by kernel_rfl
theorem gQuar : Tryz.prog.globalNamed "loop.example/g00792/impl.quarterPlaces" = some 4 := by kernel_rfl
theorem tQuar : (Tryz.prog.globals[4]?).map (·.type) = some 209 := by kernel_rfl
theorem cellsI : Tryz.prog.cellsOf 3 = 1 := by kernel_rfl
theorem cells4 : Tryz.prog.cellsOf 208 = 4 := by kernel_rfl
theorem cells32 : Tryz.prog.cellsOf 209 = 32 := by kernel_rfl

theorem of_var {W : World} {n : String} {g : Nat} {cs : Array Value} (hg : Tryz.prog.globalNamed n = some g) (h : W.var? Tryz.prog n = some cs) : ∃ t f, W.heap[g]? = some (.cells cs t f) := by
  simp only [World.var?, hg, Option.bind_some] at h
  split at h
  · rename_i cs' t f e
    injection h with h
    subst h
    exact ⟨t, f, e⟩
  · cases h

/-- an array of arrays of integers that reads as a table of tables holds its numbers, piece for piece -/
theorem cells_of_tab2 {H : Type} {enc : TypeId × Value → H} {P : Program} {w : World} {base : Nat} {sp : Nat → Bool} {held : Bool} {fuel : Nat} {t e k : TypeId} {n m : Nat} {kd : IntKind} {cs : List Value} {rows : List (List Int)} {p : List MemPlace}
    (ht : P.underlying t = some (.array n e)) (he : P.underlying e = some (.array m k)) (hk : P.underlying k = some (.int kd)) (hck : P.cellsOf k = 1) (hce : P.cellsOf e = m) (hct : P.cellsOf t = n * m)
    (h : DataW.trod enc P w base sp held fuel t cs = some (.agg (rows.map (Lib.tabData kd)), p)) : cs.length = n * m ∧ ∀ i row, rows[i]? = some row → (cs.drop (i * m)).take m = row.map fun z => Value.int kd z := by
  cases fuel with
  | zero => simp [DataW.trod] at h
  | succ fuel =>
    simp only [DataW.trod, ht, hce, hct] at h
    split at h
    · rename_i hl
      refine ⟨hl, fun i row hrow => ?_⟩
      obtain ⟨xs, hm, hx⟩ := Option.map_eq_some_iff.1 h
      have hxs : xs.map (·.1) = rows.map (Lib.tabData kd) := by
        have := congrArg Prod.fst hx
        simpa using this
      have hxl : xs.length = n := by simpa using Lib.mapM_length hm
      have hrl : rows.length = n := by
        have := congrArg List.length hxs
        simp at this
        omega
      have hi : i < n := by
        rcases Nat.lt_or_ge i rows.length with h1 | h1
        · omega
        · rw [List.getElem?_eq_none h1] at hrow; cases hrow
      obtain ⟨b, hb, hf⟩ := Lib.mapM_at hm i i (by simp [hi])
      have h2 : (xs.map (·.1))[i]? = some b.1 := by simp [hb]
      rw [hxs, List.getElem?_map, hrow] at h2
      simp only [Option.map_some, Option.some.injEq] at h2
      obtain ⟨b1, b2⟩ := b
      simp only at h2
      subst h2
      exact Lib.cells_of_tab he hk hck hce hf
    · cases h

theorem parts8 (cs : List Value) (h : cs.length = 32) : cs = (cs.drop 0).take 4 ++ (cs.drop 4).take 4 ++ (cs.drop 8).take 4 ++ (cs.drop 12).take 4 ++ (cs.drop 16).take 4 ++ (cs.drop 20).take 4 ++ (cs.drop 24).take 4 ++ (cs.drop 28).take 4 := by
  match cs, h with
  | [a0, a1, a2, a3, a4, a5, a6, a7, a8, a9, a10, a11, a12, a13, a14, a15, a16, a17, a18, a19, a20, a21, a22, a23, a24, a25, a26, a27, a28, a29, a30, a31], _ => rfl

def quarRows : List (List Int) := [[0, 4, 8, 12], [1, 5, 9, 13], [2, 6, 10, 14], [3, 7, 11, 15], [0, 5, 10, 15], [1, 6, 11, 12], [2, 7, 8, 13], [3, 4, 9, 14]]
theorem quar_of_cells {H : Type} {enc : TypeId × Value → H} {w : World} {base : Nat} {sp : Nat → Bool} {held : Bool} {fuel : Nat} {cs : List Value} {p : List MemPlace}
    (h : DataW.trod enc Tryz.prog w base sp held fuel 209 cs = some (Rows.laid_loop_example_g00792_impl_quarterPlaces, p)) : cs.toArray = quarterCells := by
  obtain ⟨hl, hp⟩ := cells_of_tab2 (rows := quarRows) Tryz.underlying209 Tryz.underlying208 Tryz.underlying3 cellsI cells4 cells32 h
  have e := parts8 cs hl
  rw [hp 0 _ rfl, hp 1 _ rfl, hp 2 _ rfl, hp 3 _ rfl, hp 4 _ rfl, hp 5 _ rfl, hp 6 _ rfl, hp 7 _ rfl] at e
  rw [e]
  rfl

/-- the table as the rows list it -/
def laidOne {H : Type} : List (String × DataW H) := [("loop.example/g00792/impl.quarterPlaces", Rows.laid_loop_example_g00792_impl_quarterPlaces)]

theorem quar_of_laid {W : World} (h : laidMetH Tryz.prog laidOne W) : Quar W := by
  rw [MakeChecks.laidMetH_plain _ _ _ (by kernel_rfl)] at h
  obtain ⟨ps, ⟨g0, t0, cs0, f0, p0, q0, hg0, ht0, hv0, hd0, _, _⟩, _, _⟩ := h
  obtain rfl := Option.some.inj (gQuar.symm.trans hg0)
  obtain rfl := Option.some.inj (tQuar.symm.trans ht0)
  have e0 := quar_of_cells hd0
  obtain ⟨t, f, hh⟩ := of_var gQuar hv0
  exact ⟨t, f, by rw [hh]; simpa using e0⟩

theorem door_met (os : Os) (args : Array Value) : laidMetH Tryz.prog laidOne ((World.doorLaid Tryz.prog 400 os).forCall (fun _ _ => 0) ⟨#[], args, []⟩).memory :=
  laidMetH_of_parts3 (fuel := 8) (laidMet_of_run' 8 (by kernel_rfl) (by kernel_rfl)) (by kernel_rfl) (by kernel_rfl)

theorem rowed : varsRowed Tryz.prog ["loop.example/g00792/impl.quarterPlaces"] = true := by kernel_rfl
theorem byte_stands : Tryz.prog.wantsStandIn 22 = false := by kernel_rfl
theorem int_stands : Tryz.prog.wantsStandIn 2 = false := by kernel_rfl
end Go.Proofs.YtabhcolfkkfonaaGreatDoor
