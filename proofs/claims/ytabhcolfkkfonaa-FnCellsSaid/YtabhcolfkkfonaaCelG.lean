/- What chapter 6's laws draw of a code. -/
import Derived.Test.YtabhcolfkkfonaaCelE
namespace Go.Proofs.Ytabhcolfkkfonaa
open Go.RowKit

set_option maxHeartbeats 1000000 in
theorem drawEncodeCell_any (A : Option Addr) (n c : Nat) (l : List Int) (w : World) (h : Bs w A n l) (hn : n ≤ 1048576) :
    Calls Try.prog 6 #[.slice A n c] w fun e w' => (∃ a b cc d v A' c' m r, e = .returned (.agg #[.int .i64 a, .int .i64 b, .int .i64 cc, .int .i64 d, .bool v, .slice A' m c']) ∧ Row w' w.heap.size (.slice A' m c') r ∧ r.length = m ∧ m ≤ 33) ∧ Below w.heap.size w w' := by
  go_enter Try.func6, Try.ntmps6
  go_wp2_with fail
  obtain ⟨W0, hW0⟩ : ∃ W0, W0 = w.alloc (.cells #[.int .i64 0, .int .i64 0, .int .i64 0, .int .i64 0, .bool false, .slice none 0 0] 25) := ⟨_, rfl⟩
  have D0 : Stc W0 w.heap.size [.int .i64 0, .int .i64 0, .int .i64 0, .int .i64 0, .bool false, .slice none 0 0] 25 := by rw [hW0]; exact Stc.new w _ _ _ rfl
  have z0 : W0.heap.size = w.heap.size + 1 := by rw [hW0]; simp
  have B0 : Below w.heap.size w W0 := by rw [hW0]; exact ab (Below.refl _ _) _
  rw [← hW0]
  clear hW0
  refine (source_any A n c l _ (h.below B0)).mono ?_
  rintro e w1 ⟨rfl, s1, b1, z1⟩
  have D1 := D0.below b1 (by omega)
  have B1 := ac B0 b1
  clear D0 b1 B0
  go_wp2_with fail
  rw [z0] at s1
  refine (l6Bent_any (w.heap.size + 1) n c A 0 _ (by omega) l hn s1).mono ?_
  rintro e w2 ⟨⟨a, b, cc, d, v, A2, c2, m, r, rfl, row, hr, hm⟩, _, b2⟩
  have Hr := Lib.hid hr
  have D2 : Stc w2 w.heap.size [.int .i64 0, .int .i64 0, .int .i64 0, .int .i64 0, .bool false, .slice none 0 0] 25 := (b2.block _ (by omega) (by omega)).trans D1
  have B2 := B1.trans (b2.below (show w.heap.size ≤ w1.heap.size by omega) (show w.heap.size ≤ w.heap.size + 1 by omega))
  have z1' : w.heap.size < w1.heap.size := by omega
  have t0 := D2.cell (i := 0) rfl
  have t1 := D2.cell (i := 1) rfl
  have t2 := D2.cell (i := 2) rfl
  have t3 := D2.cell (i := 3) rfl
  have t4 := D2.cell (i := 4) rfl
  have t5 := D2.cell (i := 5) rfl
  have tf := D2.frozen
  clear hr b2 s1 z1 D1 B1
  go_wp2_with fail
  refine bodyPost_ret (v := .agg #[.int .i64 a, .int .i64 b, .int .i64 cc, .int .i64 d, .bool v, .slice A2 m c2]) (by simp [results, Try.results6, go_sem, t0, t1, t2, t3, t4, t5]) rfl ?_
  have Hb : ∀ (i : Nat) (v : Value) (W : World), Below w.heap.size w W → Below w.heap.size w (W.setCell ⟨w.heap.size, i, none⟩ v) := fun i v W hW => hW.setCell (p := ⟨w.heap.size, i, none⟩) (Nat.le_refl _) v
  have HB := Hb 5 (.slice A2 m c2) _ (Hb 4 (.bool v) _ (Hb 3 (.int .i64 d) _ (Hb 2 (.int .i64 cc) _ (Hb 1 (.int .i64 b) _ (Hb 0 (.int .i64 a) _ B2)))))
  have Hr2 : ∀ (i : Nat) (v : Value) (W : World), Row W w1.heap.size (.slice A2 m c2) r → Row (W.setCell ⟨w.heap.size, i, none⟩ v) w1.heap.size (.slice A2 m c2) r := fun i v W hW => hW.farX (p := ⟨w.heap.size, i, none⟩) z1' v
  have HR := Hr2 5 (.slice A2 m c2) _ (Hr2 4 (.bool v) _ (Hr2 3 (.int .i64 d) _ (Hr2 2 (.int .i64 cc) _ (Hr2 1 (.int .i64 b) _ (Hr2 0 (.int .i64 a) _ row)))))
  exact ⟨⟨a, b, cc, d, v, A2, c2, m, r, rfl, HR.mono (by omega), Hr.out, hm⟩, HB⟩
end Go.Proofs.Ytabhcolfkkfonaa
