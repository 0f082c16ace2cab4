/- A bent cell drawn. -/
import Derived.Test.YtabhcolfkkfonaaGreatDoorCelD
namespace Go.Proofs.YtabhcolfkkfonaaGreatDoor
open Go.RowKit

def kindBent : List Int := [0, 2, -1]
def seqBent : List Int := [-1, 10000, 3]
def ackBent : List Int := [-1, 10001]
def maskBent : List Int := [-1, 256]
def bodyBent : List Int := [33, 1]
theorem bodyBent_bd : ∀ x ∈ bodyBent, 0 ≤ x ∧ x ≤ 33 := by decide

set_option maxHeartbeats 1000000 in
theorem l6Bent_any (p k c : Nat) (A : Option Addr) (at_ : Nat) (w : World) (hat : at_ ≤ 98000) (l : List Int) (hkm : k ≤ 1048576) (h : Src w p A k c l at_) :
    Calls Tryz.prog 107 #[.pointer (some ⟨p, 0, none⟩)] w fun e w' => (∃ a b cc d v A' c' n r, e = .returned (.agg #[.int .i64 a, .int .i64 b, .int .i64 cc, .int .i64 d, .bool v, .slice A' n c']) ∧ Row w' w.heap.size (.slice A' n c') r ∧ r.length = n ∧ n ≤ 33) ∧ (∃ q, Src w' p A k c l q ∧ q ≤ at_ + 100) ∧ But p w.heap.size w w' := by
  have hp := h.lt
  go_enter Tryz.func107, Tryz.ntmps107
  go_wp2_with fail
  obtain ⟨W0, hW0⟩ : ∃ W0, W0 = w.alloc (.cells #[.int .i64 0, .int .i64 0, .int .i64 0, .int .i64 0, .bool false, .slice none 0 0] 52) := ⟨_, rfl⟩
  have D0 : Stc W0 w.heap.size [.int .i64 0, .int .i64 0, .int .i64 0, .int .i64 0, .bool false, .slice none 0 0] 52 := by rw [hW0]; exact Stc.new w _ _ _ rfl
  have z0 : W0.heap.size = w.heap.size + 1 := by rw [hW0]; simp
  have B0 : Below w.heap.size w W0 := by rw [hW0]; exact ab (Below.refl _ _) _
  have s0 : Src W0 p A k c l at_ := h.but B0 (Nat.le_refl _)
  rw [← hW0]
  clear hW0
  refine (l6Draw_any p k c A at_ _ (by omega) l hkm s0).mono ?_
  rintro e w1 ⟨⟨a, b, cc, d, v, A1, c1, n1, r1, rfl, row1, hr1, hn1, hC1⟩, ⟨q1, s1, hq1⟩, b1⟩
  have B1 : But p w.heap.size w w1 := (But.of_below B0).trans (b1.mono (by omega))
  have T1 : Stc w1 w.heap.size [.int .i64 0, .int .i64 0, .int .i64 0, .int .i64 0, .bool false, .slice none 0 0] 52 := (b1.block _ (by omega) (by omega)).trans D0
  have Hr1 := Lib.hid hr1
  have z1 : w.heap.size < w1.heap.size := T1.lt
  clear b1 s0 D0 B0 hr1 hC1
  go_wp2_with fail
  obtain ⟨P, hP⟩ : ∃ P, P = w1.heap.size := ⟨_, rfl⟩
  have hPw : w.heap.size < P := by omega
  have hPp : P ≠ p := by omega
  have hwp : w.heap.size ≠ p := by omega
  have hne : ¬ P = w.heap.size := by omega
  have hne2 : ¬ w.heap.size = P := by omega
  obtain ⟨W3, hW3⟩ : ∃ W3, W3 = w1.alloc (.cells #[.int .i64 a, .int .i64 b, .int .i64 cc, .int .i64 d, .bool v, .slice A1 n1 c1] 52) := ⟨_, rfl⟩
  have D3 : Stc W3 P [.int .i64 a, .int .i64 b, .int .i64 cc, .int .i64 d, .bool v, .slice A1 n1 c1] 52 := by rw [hW3, hP]; exact Stc.new w1 _ _ _ rfl
  have T3 : Stc W3 w.heap.size [.int .i64 0, .int .i64 0, .int .i64 0, .int .i64 0, .bool false, .slice none 0 0] 52 := by rw [hW3]; exact T1.alloc _
  have b3 : Below w1.heap.size w1 W3 := by rw [hW3]; exact ab (Below.refl _ w1) _
  have zW : W3.heap.size = P + 1 := by rw [hW3, hP]; simp
  have s3 := s1.but b3 (Nat.le_refl _)
  have B3 : But p w.heap.size w W3 := B1.trans (But.of_below (b3.mono (by omega)))
  have M3 : But p P w1 W3 := But.of_below (b3.mono (by omega))
  rw [← hW3]
  try rw [← hP]
  refine (next_any p k c A q1 14 _ (by omega) (by omega) (by omega) l hkm s3).mono ?_
  rintro e w4 ⟨⟨u, hu0, hu1, rfl⟩, s4, b4, z4⟩
  have B4 : But p w.heap.size w w4 := B3.trans (b4 w.heap.size)
  have M4 := M3.trans (b4 P)
  have D4 : Stc w4 P [.int .i64 a, .int .i64 b, .int .i64 cc, .int .i64 d, .bool v, .slice A1 n1 c1] 52 := ((b4 (P + 1)).block _ (by omega) hPp).trans D3
  have T4 : Stc w4 w.heap.size [.int .i64 0, .int .i64 0, .int .i64 0, .int .i64 0, .bool false, .slice none 0 0] 52 := ((b4 (P + 1)).block _ (by omega) hwp).trans T3
  have z4' : P < w4.heap.size := D4.lt
  have hrp : w1.heap.size ≤ P := by omega
  clear z4 b4 D3 s3 B3 T3 hW3 b3 s1 B1 T1 M3 zW hP
  by_cases u0 : u = 0
  · subst u0
    go_wp2_with fail
    refine (pick_any p k c A (q1 + 1) w4.heap.size 3 3 kindBent _ (by omega) (by omega) (by omega) l hkm (s4.but (ab (Below.refl _ _) _) (Nat.le_refl _)) rfl (by omega) (ints_cells w4 kindBent _ _ rfl)).mono ?_
    rintro e w5 ⟨⟨y, hy, rfl⟩, s5, b5, z5⟩
    have C5 : But p w4.heap.size w4 w5 := (But.of_below (ab (Below.refl _ w4) _)).trans (b5 w4.heap.size)
    have B5 : But p w.heap.size w w5 := B4.trans (C5.mono (by omega))
    have M5 : But p P w1 w5 := M4.trans (C5.mono (by omega))
    have D5 : Stc w5 P [.int .i64 a, .int .i64 b, .int .i64 cc, .int .i64 d, .bool v, .slice A1 n1 c1] 52 := (C5.block _ (by omega) hPp).trans D4
    have T5 : Stc w5 w.heap.size [.int .i64 0, .int .i64 0, .int .i64 0, .int .i64 0, .bool false, .slice none 0 0] 52 := (C5.block _ (by omega) hwp).trans T4
    clear z5 hy b5 C5 D4 T4 s4 B4 M4
    have x0 := D5.cell (i := 0) rfl
    have x1 := D5.cell (i := 1) rfl
    have x2 := D5.cell (i := 2) rfl
    have x3 := D5.cell (i := 3) rfl
    have x4 := D5.cell (i := 4) rfl
    have x5 := D5.cell (i := 5) rfl
    have xf := D5.frozen
    have t0 := T5.cell (i := 0) rfl
    have t1 := T5.cell (i := 1) rfl
    have t2 := T5.cell (i := 2) rfl
    have t3 := T5.cell (i := 3) rfl
    have t4 := T5.cell (i := 4) rfl
    have t5 := T5.cell (i := 5) rfl
    have tf := T5.frozen
    go_wp2_with fail
    refine bodyPost_ret (v := .agg #[.int .i64 y, .int .i64 b, .int .i64 cc, .int .i64 d, .bool v, .slice A1 n1 c1]) (by simp [results, Tryz.results107, go_sem, t0, t1, t2, t3, t4, t5]) rfl ?_
    have bc : Below w.heap.size w5 (w5.setCell ⟨P, 0, none⟩ (.int .i64 y)) := (Below.refl _ w5).setCell (p := ⟨P, 0, none⟩) (by show w.heap.size ≤ P; omega) _
    have Mc : Below P w5 (w5.setCell ⟨P, 0, none⟩ (.int .i64 y)) := (Below.refl _ w5).setCell (p := ⟨P, 0, none⟩) (Nat.le_refl _) _
    have Hb : ∀ (i : Nat) (v : Value) (W : World), Below w.heap.size w5 W → Below w.heap.size w5 (W.setCell ⟨w.heap.size, i, none⟩ v) := fun i v W hW => hW.setCell (p := ⟨w.heap.size, i, none⟩) (Nat.le_refl _) v
    have HB := (Hb 5 (.slice A1 n1 c1) _ (Hb 4 (.bool v) _ (Hb 3 (.int .i64 d) _ (Hb 2 (.int .i64 cc) _ (Hb 1 (.int .i64 b) _ (Hb 0 (.int .i64 y) _ bc))))))
    have rc := row1.keep (fun g h1 h2 => (M5.trans (But.of_below Mc)).block g (by omega) (by omega))
    have Hr : ∀ (i : Nat) (v : Value) (W : World), Row W W0.heap.size (.slice A1 n1 c1) r1 → Row (W.setCell ⟨w.heap.size, i, none⟩ v) W0.heap.size (.slice A1 n1 c1) r1 := fun i v W hW => hW.farX (p := ⟨w.heap.size, i, none⟩) (by show w.heap.size < W0.heap.size; omega) v
    have HR := (Hr 5 (.slice A1 n1 c1) _ (Hr 4 (.bool v) _ (Hr 3 (.int .i64 d) _ (Hr 2 (.int .i64 cc) _ (Hr 1 (.int .i64 b) _ (Hr 0 (.int .i64 y) _ rc))))))
    exact ⟨⟨y, b, cc, d, v, A1, c1, n1, r1, rfl, HR.mono (by omega), Hr1.out, by omega⟩, ⟨_, s5.under HB hp, by omega⟩, B5.trans (But.of_below HB)⟩
  · skip
    by_cases u1 : u = 1
    · subst u1
      go_wp2_with fail
      refine (pick_any p k c A (q1 + 1) w4.heap.size 3 3 seqBent _ (by omega) (by omega) (by omega) l hkm (s4.but (ab (Below.refl _ _) _) (Nat.le_refl _)) rfl (by omega) (ints_cells w4 seqBent _ _ rfl)).mono ?_
      rintro e w5 ⟨⟨y, hy, rfl⟩, s5, b5, z5⟩
      have C5 : But p w4.heap.size w4 w5 := (But.of_below (ab (Below.refl _ w4) _)).trans (b5 w4.heap.size)
      have B5 : But p w.heap.size w w5 := B4.trans (C5.mono (by omega))
      have M5 : But p P w1 w5 := M4.trans (C5.mono (by omega))
      have D5 : Stc w5 P [.int .i64 a, .int .i64 b, .int .i64 cc, .int .i64 d, .bool v, .slice A1 n1 c1] 52 := (C5.block _ (by omega) hPp).trans D4
      have T5 : Stc w5 w.heap.size [.int .i64 0, .int .i64 0, .int .i64 0, .int .i64 0, .bool false, .slice none 0 0] 52 := (C5.block _ (by omega) hwp).trans T4
      clear z5 hy b5 C5 D4 T4 s4 B4 M4
      have x0 := D5.cell (i := 0) rfl
      have x1 := D5.cell (i := 1) rfl
      have x2 := D5.cell (i := 2) rfl
      have x3 := D5.cell (i := 3) rfl
      have x4 := D5.cell (i := 4) rfl
      have x5 := D5.cell (i := 5) rfl
      have xf := D5.frozen
      have t0 := T5.cell (i := 0) rfl
      have t1 := T5.cell (i := 1) rfl
      have t2 := T5.cell (i := 2) rfl
      have t3 := T5.cell (i := 3) rfl
      have t4 := T5.cell (i := 4) rfl
      have t5 := T5.cell (i := 5) rfl
      have tf := T5.frozen
      go_wp2_with fail
      refine bodyPost_ret (v := .agg #[.int .i64 a, .int .i64 y, .int .i64 cc, .int .i64 d, .bool v, .slice A1 n1 c1]) (by simp [results, Tryz.results107, go_sem, t0, t1, t2, t3, t4, t5]) rfl ?_
      have bc : Below w.heap.size w5 (w5.setCell ⟨P, 1, none⟩ (.int .i64 y)) := (Below.refl _ w5).setCell (p := ⟨P, 1, none⟩) (by show w.heap.size ≤ P; omega) _
      have Mc : Below P w5 (w5.setCell ⟨P, 1, none⟩ (.int .i64 y)) := (Below.refl _ w5).setCell (p := ⟨P, 1, none⟩) (Nat.le_refl _) _
      have Hb : ∀ (i : Nat) (v : Value) (W : World), Below w.heap.size w5 W → Below w.heap.size w5 (W.setCell ⟨w.heap.size, i, none⟩ v) := fun i v W hW => hW.setCell (p := ⟨w.heap.size, i, none⟩) (Nat.le_refl _) v
      have HB := (Hb 5 (.slice A1 n1 c1) _ (Hb 4 (.bool v) _ (Hb 3 (.int .i64 d) _ (Hb 2 (.int .i64 cc) _ (Hb 1 (.int .i64 y) _ (Hb 0 (.int .i64 a) _ bc))))))
      have rc := row1.keep (fun g h1 h2 => (M5.trans (But.of_below Mc)).block g (by omega) (by omega))
      have Hr : ∀ (i : Nat) (v : Value) (W : World), Row W W0.heap.size (.slice A1 n1 c1) r1 → Row (W.setCell ⟨w.heap.size, i, none⟩ v) W0.heap.size (.slice A1 n1 c1) r1 := fun i v W hW => hW.farX (p := ⟨w.heap.size, i, none⟩) (by show w.heap.size < W0.heap.size; omega) v
      have HR := (Hr 5 (.slice A1 n1 c1) _ (Hr 4 (.bool v) _ (Hr 3 (.int .i64 d) _ (Hr 2 (.int .i64 cc) _ (Hr 1 (.int .i64 y) _ (Hr 0 (.int .i64 a) _ rc))))))
      exact ⟨⟨a, y, cc, d, v, A1, c1, n1, r1, rfl, HR.mono (by omega), Hr1.out, by omega⟩, ⟨_, s5.under HB hp, by omega⟩, B5.trans (But.of_below HB)⟩
    · skip
      by_cases u2 : u = 2
      · subst u2
        go_wp2_with fail
        refine (pick_any p k c A (q1 + 1) w4.heap.size 2 2 ackBent _ (by omega) (by omega) (by omega) l hkm (s4.but (ab (Below.refl _ _) _) (Nat.le_refl _)) rfl (by omega) (ints_cells w4 ackBent _ _ rfl)).mono ?_
        rintro e w5 ⟨⟨y, hy, rfl⟩, s5, b5, z5⟩
        have C5 : But p w4.heap.size w4 w5 := (But.of_below (ab (Below.refl _ w4) _)).trans (b5 w4.heap.size)
        have B5 : But p w.heap.size w w5 := B4.trans (C5.mono (by omega))
        have M5 : But p P w1 w5 := M4.trans (C5.mono (by omega))
        have D5 : Stc w5 P [.int .i64 a, .int .i64 b, .int .i64 cc, .int .i64 d, .bool v, .slice A1 n1 c1] 52 := (C5.block _ (by omega) hPp).trans D4
        have T5 : Stc w5 w.heap.size [.int .i64 0, .int .i64 0, .int .i64 0, .int .i64 0, .bool false, .slice none 0 0] 52 := (C5.block _ (by omega) hwp).trans T4
        clear z5 hy b5 C5 D4 T4 s4 B4 M4
        have x0 := D5.cell (i := 0) rfl
        have x1 := D5.cell (i := 1) rfl
        have x2 := D5.cell (i := 2) rfl
        have x3 := D5.cell (i := 3) rfl
        have x4 := D5.cell (i := 4) rfl
        have x5 := D5.cell (i := 5) rfl
        have xf := D5.frozen
        have t0 := T5.cell (i := 0) rfl
        have t1 := T5.cell (i := 1) rfl
        have t2 := T5.cell (i := 2) rfl
        have t3 := T5.cell (i := 3) rfl
        have t4 := T5.cell (i := 4) rfl
        have t5 := T5.cell (i := 5) rfl
        have tf := T5.frozen
        go_wp2_with fail
        refine bodyPost_ret (v := .agg #[.int .i64 a, .int .i64 b, .int .i64 y, .int .i64 d, .bool v, .slice A1 n1 c1]) (by simp [results, Tryz.results107, go_sem, t0, t1, t2, t3, t4, t5]) rfl ?_
        have bc : Below w.heap.size w5 (w5.setCell ⟨P, 2, none⟩ (.int .i64 y)) := (Below.refl _ w5).setCell (p := ⟨P, 2, none⟩) (by show w.heap.size ≤ P; omega) _
        have Mc : Below P w5 (w5.setCell ⟨P, 2, none⟩ (.int .i64 y)) := (Below.refl _ w5).setCell (p := ⟨P, 2, none⟩) (Nat.le_refl _) _
        have Hb : ∀ (i : Nat) (v : Value) (W : World), Below w.heap.size w5 W → Below w.heap.size w5 (W.setCell ⟨w.heap.size, i, none⟩ v) := fun i v W hW => hW.setCell (p := ⟨w.heap.size, i, none⟩) (Nat.le_refl _) v
        have HB := (Hb 5 (.slice A1 n1 c1) _ (Hb 4 (.bool v) _ (Hb 3 (.int .i64 d) _ (Hb 2 (.int .i64 y) _ (Hb 1 (.int .i64 b) _ (Hb 0 (.int .i64 a) _ bc))))))
        have rc := row1.keep (fun g h1 h2 => (M5.trans (But.of_below Mc)).block g (by omega) (by omega))
        have Hr : ∀ (i : Nat) (v : Value) (W : World), Row W W0.heap.size (.slice A1 n1 c1) r1 → Row (W.setCell ⟨w.heap.size, i, none⟩ v) W0.heap.size (.slice A1 n1 c1) r1 := fun i v W hW => hW.farX (p := ⟨w.heap.size, i, none⟩) (by show w.heap.size < W0.heap.size; omega) v
        have HR := (Hr 5 (.slice A1 n1 c1) _ (Hr 4 (.bool v) _ (Hr 3 (.int .i64 d) _ (Hr 2 (.int .i64 y) _ (Hr 1 (.int .i64 b) _ (Hr 0 (.int .i64 a) _ rc))))))
        exact ⟨⟨a, b, y, d, v, A1, c1, n1, r1, rfl, HR.mono (by omega), Hr1.out, by omega⟩, ⟨_, s5.under HB hp, by omega⟩, B5.trans (But.of_below HB)⟩
      · skip
        by_cases u3 : u = 3
        · subst u3
          go_wp2_with fail
          refine (pick_any p k c A (q1 + 1) w4.heap.size 2 2 maskBent _ (by omega) (by omega) (by omega) l hkm (s4.but (ab (Below.refl _ _) _) (Nat.le_refl _)) rfl (by omega) (ints_cells w4 maskBent _ _ rfl)).mono ?_
          rintro e w5 ⟨⟨y, hy, rfl⟩, s5, b5, z5⟩
          have C5 : But p w4.heap.size w4 w5 := (But.of_below (ab (Below.refl _ w4) _)).trans (b5 w4.heap.size)
          have B5 : But p w.heap.size w w5 := B4.trans (C5.mono (by omega))
          have M5 : But p P w1 w5 := M4.trans (C5.mono (by omega))
          have D5 : Stc w5 P [.int .i64 a, .int .i64 b, .int .i64 cc, .int .i64 d, .bool v, .slice A1 n1 c1] 52 := (C5.block _ (by omega) hPp).trans D4
          have T5 : Stc w5 w.heap.size [.int .i64 0, .int .i64 0, .int .i64 0, .int .i64 0, .bool false, .slice none 0 0] 52 := (C5.block _ (by omega) hwp).trans T4
          clear z5 hy b5 C5 D4 T4 s4 B4 M4
          have x0 := D5.cell (i := 0) rfl
          have x1 := D5.cell (i := 1) rfl
          have x2 := D5.cell (i := 2) rfl
          have x3 := D5.cell (i := 3) rfl
          have x4 := D5.cell (i := 4) rfl
          have x5 := D5.cell (i := 5) rfl
          have xf := D5.frozen
          have t0 := T5.cell (i := 0) rfl
          have t1 := T5.cell (i := 1) rfl
          have t2 := T5.cell (i := 2) rfl
          have t3 := T5.cell (i := 3) rfl
          have t4 := T5.cell (i := 4) rfl
          have t5 := T5.cell (i := 5) rfl
          have tf := T5.frozen
          go_wp2_with fail
          refine bodyPost_ret (v := .agg #[.int .i64 a, .int .i64 b, .int .i64 cc, .int .i64 y, .bool v, .slice A1 n1 c1]) (by simp [results, Tryz.results107, go_sem, t0, t1, t2, t3, t4, t5]) rfl ?_
          have bc : Below w.heap.size w5 (w5.setCell ⟨P, 3, none⟩ (.int .i64 y)) := (Below.refl _ w5).setCell (p := ⟨P, 3, none⟩) (by show w.heap.size ≤ P; omega) _
          have Mc : Below P w5 (w5.setCell ⟨P, 3, none⟩ (.int .i64 y)) := (Below.refl _ w5).setCell (p := ⟨P, 3, none⟩) (Nat.le_refl _) _
          have Hb : ∀ (i : Nat) (v : Value) (W : World), Below w.heap.size w5 W → Below w.heap.size w5 (W.setCell ⟨w.heap.size, i, none⟩ v) := fun i v W hW => hW.setCell (p := ⟨w.heap.size, i, none⟩) (Nat.le_refl _) v
          have HB := (Hb 5 (.slice A1 n1 c1) _ (Hb 4 (.bool v) _ (Hb 3 (.int .i64 y) _ (Hb 2 (.int .i64 cc) _ (Hb 1 (.int .i64 b) _ (Hb 0 (.int .i64 a) _ bc))))))
          have rc := row1.keep (fun g h1 h2 => (M5.trans (But.of_below Mc)).block g (by omega) (by omega))
          have Hr : ∀ (i : Nat) (v : Value) (W : World), Row W W0.heap.size (.slice A1 n1 c1) r1 → Row (W.setCell ⟨w.heap.size, i, none⟩ v) W0.heap.size (.slice A1 n1 c1) r1 := fun i v W hW => hW.farX (p := ⟨w.heap.size, i, none⟩) (by show w.heap.size < W0.heap.size; omega) v
          have HR := (Hr 5 (.slice A1 n1 c1) _ (Hr 4 (.bool v) _ (Hr 3 (.int .i64 y) _ (Hr 2 (.int .i64 cc) _ (Hr 1 (.int .i64 b) _ (Hr 0 (.int .i64 a) _ rc))))))
          exact ⟨⟨a, b, cc, y, v, A1, c1, n1, r1, rfl, HR.mono (by omega), Hr1.out, by omega⟩, ⟨_, s5.under HB hp, by omega⟩, B5.trans (But.of_below HB)⟩
        · skip
          by_cases u4 : u = 4
          · subst u4
            go_wp2_with fail
            refine (pick_any p k c A (q1 + 1) w4.heap.size 2 2 bodyBent _ (by omega) (by omega) (by omega) l hkm (s4.but (ab (Below.refl _ _) _) (Nat.le_refl _)) rfl (by omega) (ints_cells w4 bodyBent _ _ rfl)).mono ?_
            rintro e w5 ⟨⟨y, hy, rfl⟩, s5, b5, z5⟩
            have C5 : But p w4.heap.size w4 w5 := (But.of_below (ab (Below.refl _ w4) _)).trans (b5 w4.heap.size)
            have B5 : But p w.heap.size w w5 := B4.trans (C5.mono (by omega))
            have M5 : But p P w1 w5 := M4.trans (C5.mono (by omega))
            have D5 : Stc w5 P [.int .i64 a, .int .i64 b, .int .i64 cc, .int .i64 d, .bool v, .slice A1 n1 c1] 52 := (C5.block _ (by omega) hPp).trans D4
            have T5 : Stc w5 w.heap.size [.int .i64 0, .int .i64 0, .int .i64 0, .int .i64 0, .bool false, .slice none 0 0] 52 := (C5.block _ (by omega) hwp).trans T4
            obtain ⟨hy0, hy1⟩ := bodyBent_bd y hy
            obtain ⟨m2, rfl⟩ := Int.eq_ofNat_of_zero_le hy0
            have z5q : P < w5.heap.size := D5.lt
            clear z5 hy b5 C5 D4 T4 s4 B4 M4 M5
            go_wp2_with fail
            refine (some_any p k c A (q1 + 1 + 1) m2 _ (by omega) l hkm s5).mono ?_
            rintro e w6 ⟨⟨A6, c6, r6, rfl, row6, hr6⟩, s6, b6⟩
            have B6 := B5.trans (b6.mono (by omega))
            have D6 : Stc w6 P [.int .i64 a, .int .i64 b, .int .i64 cc, .int .i64 d, .bool v, .slice A1 n1 c1] 52 := (b6.block _ (by omega) hPp).trans D5
            have T6 : Stc w6 w.heap.size [.int .i64 0, .int .i64 0, .int .i64 0, .int .i64 0, .bool false, .slice none 0 0] 52 := (b6.block _ (by omega) hwp).trans T5
            have Hr6 := Lib.hid hr6
            clear b6 hr6 D5 T5 s5 B5 row1 Hr1
            have x0 := D6.cell (i := 0) rfl
            have x1 := D6.cell (i := 1) rfl
            have x2 := D6.cell (i := 2) rfl
            have x3 := D6.cell (i := 3) rfl
            have x4 := D6.cell (i := 4) rfl
            have x5 := D6.cell (i := 5) rfl
            have xf := D6.frozen
            have t0 := T6.cell (i := 0) rfl
            have t1 := T6.cell (i := 1) rfl
            have t2 := T6.cell (i := 2) rfl
            have t3 := T6.cell (i := 3) rfl
            have t4 := T6.cell (i := 4) rfl
            have t5 := T6.cell (i := 5) rfl
            have tf := T6.frozen
            go_wp2_with fail
            refine bodyPost_ret (v := .agg #[.int .i64 a, .int .i64 b, .int .i64 cc, .int .i64 d, .bool v, .slice A6 m2 c6]) (by simp [results, Tryz.results107, go_sem, t0, t1, t2, t3, t4, t5]) rfl ?_
            have bc : Below w.heap.size w6 (w6.setCell ⟨P, 5, none⟩ (.slice A6 m2 c6)) := (Below.refl _ w6).setCell (p := ⟨P, 5, none⟩) (by show w.heap.size ≤ P; omega) _
            have Mc : Below P w6 (w6.setCell ⟨P, 5, none⟩ (.slice A6 m2 c6)) := (Below.refl _ w6).setCell (p := ⟨P, 5, none⟩) (Nat.le_refl _) _
            have Hb : ∀ (i : Nat) (v : Value) (W : World), Below w.heap.size w6 W → Below w.heap.size w6 (W.setCell ⟨w.heap.size, i, none⟩ v) := fun i v W hW => hW.setCell (p := ⟨w.heap.size, i, none⟩) (Nat.le_refl _) v
            have HB := (Hb 5 (.slice A6 m2 c6) _ (Hb 4 (.bool v) _ (Hb 3 (.int .i64 d) _ (Hb 2 (.int .i64 cc) _ (Hb 1 (.int .i64 b) _ (Hb 0 (.int .i64 a) _ bc))))))
            have rc := row6.farX (p := ⟨P, 5, none⟩) (by show P < w5.heap.size; omega) (.slice A6 m2 c6)
            have Hr : ∀ (i : Nat) (v : Value) (W : World), Row W w5.heap.size (.slice A6 m2 c6) r6 → Row (W.setCell ⟨w.heap.size, i, none⟩ v) w5.heap.size (.slice A6 m2 c6) r6 := fun i v W hW => hW.farX (p := ⟨w.heap.size, i, none⟩) (by show w.heap.size < w5.heap.size; omega) v
            have HR := (Hr 5 (.slice A6 m2 c6) _ (Hr 4 (.bool v) _ (Hr 3 (.int .i64 d) _ (Hr 2 (.int .i64 cc) _ (Hr 1 (.int .i64 b) _ (Hr 0 (.int .i64 a) _ rc))))))
            exact ⟨⟨a, b, cc, d, v, A6, c6, m2, r6, rfl, HR.mono (by omega), Hr6.out, by omega⟩, ⟨_, s6.under HB hp, by omega⟩, B6.trans (But.of_below HB)⟩
          · skip
            have x0 := D4.cell (i := 0) rfl
            have x1 := D4.cell (i := 1) rfl
            have x2 := D4.cell (i := 2) rfl
            have x3 := D4.cell (i := 3) rfl
            have x4 := D4.cell (i := 4) rfl
            have x5 := D4.cell (i := 5) rfl
            have xf := D4.frozen
            have t0 := T4.cell (i := 0) rfl
            have t1 := T4.cell (i := 1) rfl
            have t2 := T4.cell (i := 2) rfl
            have t3 := T4.cell (i := 3) rfl
            have t4 := T4.cell (i := 4) rfl
            have t5 := T4.cell (i := 5) rfl
            have tf := T4.frozen
            go_wp2_with fail
            refine bodyPost_ret (v := .agg #[.int .i64 a, .int .i64 b, .int .i64 cc, .int .i64 d, .bool v, .slice A1 n1 c1]) (by simp [results, Tryz.results107, go_sem, t0, t1, t2, t3, t4, t5]) rfl ?_
            have bc := Below.refl w.heap.size w4
            have Mc := Below.refl P w4
            have Hb : ∀ (i : Nat) (v : Value) (W : World), Below w.heap.size w4 W → Below w.heap.size w4 (W.setCell ⟨w.heap.size, i, none⟩ v) := fun i v W hW => hW.setCell (p := ⟨w.heap.size, i, none⟩) (Nat.le_refl _) v
            have HB := (Hb 5 (.slice A1 n1 c1) _ (Hb 4 (.bool v) _ (Hb 3 (.int .i64 d) _ (Hb 2 (.int .i64 cc) _ (Hb 1 (.int .i64 b) _ (Hb 0 (.int .i64 a) _ bc))))))
            have rc := row1.keep (fun g h1 h2 => (M4.trans (But.of_below Mc)).block g (by omega) (by omega))
            have Hr : ∀ (i : Nat) (v : Value) (W : World), Row W W0.heap.size (.slice A1 n1 c1) r1 → Row (W.setCell ⟨w.heap.size, i, none⟩ v) W0.heap.size (.slice A1 n1 c1) r1 := fun i v W hW => hW.farX (p := ⟨w.heap.size, i, none⟩) (by show w.heap.size < W0.heap.size; omega) v
            have HR := (Hr 5 (.slice A1 n1 c1) _ (Hr 4 (.bool v) _ (Hr 3 (.int .i64 d) _ (Hr 2 (.int .i64 cc) _ (Hr 1 (.int .i64 b) _ (Hr 0 (.int .i64 a) _ rc))))))
            exact ⟨⟨a, b, cc, d, v, A1, c1, n1, r1, rfl, HR.mono (by omega), Hr1.out, by omega⟩, ⟨_, s4.under HB hp, by omega⟩, B4.trans (But.of_below HB)⟩
end Go.Proofs.YtabhcolfkkfonaaGreatDoor
