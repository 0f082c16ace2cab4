/- The draws of chapter 6. -/
import Derived.Test.YtabhcolfkkfonaaGreatDoorDecL
import Derived.Test.YtabhcolfkkfonaaGreatDoorDecX
namespace Go.Proofs.YtabhcolfkkfonaaGreatDoor
open Go.RowKit

def ackPick : List Int := [0, 1, 9999, 10000, 5]
def maskPick : List Int := [0, 1, 255, 6]
def seqPick : List Int := [0, 1, 9999, 7]
def bodyPick : List Int := [0, 1, 9, 32]
theorem ackPick_bd : ∀ x ∈ ackPick, 0 ≤ x ∧ x ≤ 10000 := by decide
theorem maskPick_bd : ∀ x ∈ maskPick, 0 ≤ x ∧ x ≤ 255 := by decide
theorem seqPick_bd : ∀ x ∈ seqPick, 0 ≤ x ∧ x ≤ 9999 := by decide
theorem bodyPick_bd : ∀ x ∈ bodyPick, 0 ≤ x ∧ x ≤ 32 := by decide

theorem cellC_dummy {x y : Int} (X0 : 0 ≤ x) (X1 : x ≤ 10000) (Y0 : 0 ≤ y) (Y1 : y ≤ 255) : cellC 0 0 x y false 0 = 0 := by
  simp [cellC, inB, X0, X1, Y0, Y1]
theorem cellC_data {b x y : Int} {v : Bool} {n : Nat} (B0 : 0 ≤ b) (B1 : b ≤ 9999) (X0 : 0 ≤ x) (X1 : x ≤ 10000) (Y0 : 0 ≤ y) (Y1 : y ≤ 255) (hn : n ≤ 32) : cellC 1 b x y v n = 0 := by
  simp [cellC, inB, B0, B1, X0, X1, Y0, Y1, hn]

set_option maxHeartbeats 1000000 in
theorem l6Draw_any (p k c : Nat) (A : Option Addr) (at_ : Nat) (w : World) (hat : at_ ≤ 99000) (l : List Int) (hkm : k ≤ 1048576) (h : Src w p A k c l at_) :
    Calls Tryz.prog 157 #[.pointer (some ⟨p, 0, none⟩)] w fun e w' => (∃ a b cc d v A' c' n r, e = .returned (.agg #[.int .i64 a, .int .i64 b, .int .i64 cc, .int .i64 d, .bool v, .slice A' n c']) ∧ Row w' w.heap.size (.slice A' n c') r ∧ r.length = n ∧ n ≤ 32 ∧ cellC a b cc d v n = 0) ∧ (∃ q, Src w' p A k c l q ∧ q ≤ at_ + 40) ∧ But p w.heap.size w w' := by
  have hp := h.lt
  go_enter Tryz.func157, Tryz.ntmps157
  go_wp2_with fail
  obtain ⟨W0, hW0⟩ : ∃ W0, W0 = w.alloc (.cells #[.int .i64 0, .int .i64 0, .int .i64 0, .int .i64 0, .bool false, .slice none 0 0] 52) := ⟨_, rfl⟩
  have D0 : Stc W0 w.heap.size [.int .i64 0, .int .i64 0, .int .i64 0, .int .i64 0, .bool false, .slice none 0 0] 52 := by rw [hW0]; exact Stc.new w _ _ _ rfl
  have z0 : W0.heap.size = w.heap.size + 1 := by rw [hW0]; simp
  have B0 : Below w.heap.size w W0 := by rw [hW0]; exact ab (Below.refl _ _) _
  have s0 : Src W0 p A k c l at_ := h.but B0 (Nat.le_refl _)
  rw [← hW0, ← z0]
  clear hW0
  refine (pick_any p k c A at_ W0.heap.size 5 5 ackPick _ (by omega) (by omega) (by omega) l hkm (s0.but (ab (Below.refl _ _) _) (Nat.le_refl _)) rfl (by omega) (ints_cells W0 ackPick _ _ rfl)).mono ?_
  rintro e w1 ⟨⟨x, hx, rfl⟩, s1, b1, z1⟩
  have C1 : But p W0.heap.size W0 w1 := (But.of_below (ab (Below.refl _ W0) _)).trans (b1 W0.heap.size)
  have B1 : But p w.heap.size w w1 := (But.of_below B0).trans (C1.mono (by omega))
  have D1 : Stc w1 w.heap.size [.int .i64 0, .int .i64 0, .int .i64 0, .int .i64 0, .bool false, .slice none 0 0] 52 := (C1.block _ (by omega) (by omega)).trans D0
  have z1' : W0.heap.size < w1.heap.size := by rw [z1]; simp
  have hX := Lib.hid (ackPick_bd x hx)
  clear z1 hx b1 C1 D0
  go_wp2_with fail
  refine (pick_any p k c A (at_ + 1) w1.heap.size 4 4 maskPick _ (by omega) (by omega) (by omega) l hkm (s1.but (ab (Below.refl _ _) _) (Nat.le_refl _)) rfl (by omega) (ints_cells w1 maskPick _ _ rfl)).mono ?_
  rintro e w2 ⟨⟨y, hy, rfl⟩, s2, b2, z2⟩
  have C2 : But p w1.heap.size w1 w2 := (But.of_below (ab (Below.refl _ w1) _)).trans (b2 w1.heap.size)
  have B2 : But p w.heap.size w w2 := B1.trans (C2.mono (by omega))
  have D2 : Stc w2 w.heap.size [.int .i64 0, .int .i64 0, .int .i64 0, .int .i64 0, .bool false, .slice none 0 0] 52 := (C2.block _ (by omega) (by omega)).trans D1
  have z2' : w1.heap.size < w2.heap.size := by rw [z2]; simp
  have hY := Lib.hid (maskPick_bd y hy)
  clear z2 hy b2 C2 D1
  go_wp2_with fail
  have D3 := Stc.new w2 52 [.int .i64 0, .int .i64 0, .int .i64 x, .int .i64 y, .bool false, .slice none 0 0] _ rfl
  have T3 := D2.alloc (.cells #[.int .i64 0, .int .i64 0, .int .i64 x, .int .i64 y, .bool false, .slice none 0 0] 52)
  have B3 : But p w.heap.size w (w2.alloc (.cells #[.int .i64 0, .int .i64 0, .int .i64 x, .int .i64 y, .bool false, .slice none 0 0] 52)) := B2.trans ((But.of_below (ab (Below.refl _ w2) _)).mono (by omega))
  have s3 := s2.but (ab (Below.refl _ w2) (.cells #[.int .i64 0, .int .i64 0, .int .i64 x, .int .i64 y, .bool false, .slice none 0 0] 52)) (Nat.le_refl _)
  obtain ⟨P, hP⟩ : ∃ P, P = w2.heap.size := ⟨_, rfl⟩
  have hPw : w.heap.size < P := by omega
  have hPp : P ≠ p := by omega
  have hwp : w.heap.size ≠ p := by omega
  obtain ⟨W3, hW3⟩ : ∃ W3, W3 = w2.alloc (.cells #[.int .i64 0, .int .i64 0, .int .i64 x, .int .i64 y, .bool false, .slice none 0 0] 52) := ⟨_, rfl⟩
  rw [← hP, ← hW3] at D3
  rw [← hW3] at B3 s3 T3
  rw [← hP, ← hW3]
  have zW : W3.heap.size = P + 1 := by rw [hW3, hP]; simp
  clear hW3 hP B2 s2 D2 z2' s1 z1' B1 B0 s0
  refine (chance_any p k c A (at_ + 1 + 1) 3 _ (by omega) (by omega) (by omega) l hkm s3).mono ?_
  rintro e w4 ⟨⟨v, rfl⟩, s4, b4, z4⟩
  have B4 : But p w.heap.size w w4 := B3.trans (b4 w.heap.size)
  have D4 : Stc w4 P [.int .i64 0, .int .i64 0, .int .i64 x, .int .i64 y, .bool false, .slice none 0 0] 52 := ((b4 (P + 1)).block _ (by omega) hPp).trans D3
  have T4 : Stc w4 w.heap.size [.int .i64 0, .int .i64 0, .int .i64 0, .int .i64 0, .bool false, .slice none 0 0] 52 := ((b4 (P + 1)).block _ (by omega) hwp).trans T3
  have z4' : P < w4.heap.size := by omega
  clear z4 b4 D3 s3 B3 T3
  cases v
  · have x0 := D4.cell (i := 0) rfl
    have f0 := D4.frozen 0
    go_wp2_with fail
    obtain ⟨W5, hW5⟩ : ∃ W5, W5 = w4.setCell ⟨P, 0, none⟩ (.int .i64 1) := ⟨_, rfl⟩
    have D5 : Stc W5 P [.int .i64 1, .int .i64 0, .int .i64 x, .int .i64 y, .bool false, .slice none 0 0] 52 := by rw [hW5]; exact D4.set_ (i := 0) (.int .i64 1)
    have T5 : Stc W5 w.heap.size [.int .i64 0, .int .i64 0, .int .i64 0, .int .i64 0, .bool false, .slice none 0 0] 52 := by rw [hW5]; exact T4.far (p := ⟨P, 0, none⟩) (by show w.heap.size ≠ P; omega) _
    have b5 : Below P w4 W5 := by rw [hW5]; exact (Below.refl _ w4).setCell (p := ⟨P, 0, none⟩) (Nat.le_refl _) _
    have z5 : W5.heap.size = w4.heap.size := by rw [hW5]; simp
    have s5 := s4.under b5 (by omega)
    have B5 := B4.trans (But.of_below (b5.mono (show w.heap.size ≤ P by omega)))
    rw [← hW5, ← z5]
    clear hW5 b5 s4 B4 D4 T4 x0 f0
    refine (pick_any p k c A (at_ + 1 + 1 + 1) W5.heap.size 4 4 seqPick _ (by omega) (by omega) (by omega) l hkm (s5.but (ab (Below.refl _ _) _) (Nat.le_refl _)) rfl (by omega) (ints_cells W5 seqPick _ _ rfl)).mono ?_
    rintro e w6 ⟨⟨q, hq, rfl⟩, s6, b6, z6⟩
    have C6 : But p W5.heap.size W5 w6 := (But.of_below (ab (Below.refl _ W5) _)).trans (b6 W5.heap.size)
    have B6 : But p w.heap.size w w6 := B5.trans (C6.mono (by omega))
    have D6 : Stc w6 P [.int .i64 1, .int .i64 0, .int .i64 x, .int .i64 y, .bool false, .slice none 0 0] 52 := (C6.block _ (by omega) hPp).trans D5
    have T6 : Stc w6 w.heap.size [.int .i64 0, .int .i64 0, .int .i64 0, .int .i64 0, .bool false, .slice none 0 0] 52 := (C6.block _ (by omega) hwp).trans T5
    have z6' : P < w6.heap.size := by rw [z6]; simp; omega
    have hQ := Lib.hid (seqPick_bd q hq)
    have x1 := D6.cell (i := 1) rfl
    have f1 := D6.frozen 1
    clear z6 hq b6 C6 D5 T5 s5 B5 z5 z4'
    go_wp2_with fail
    obtain ⟨W7, hW7⟩ : ∃ W7, W7 = w6.setCell ⟨P, 1, none⟩ (.int .i64 q) := ⟨_, rfl⟩
    have D7 : Stc W7 P [.int .i64 1, .int .i64 q, .int .i64 x, .int .i64 y, .bool false, .slice none 0 0] 52 := by rw [hW7]; exact D6.set_ (i := 1) (.int .i64 q)
    have T7 : Stc W7 w.heap.size [.int .i64 0, .int .i64 0, .int .i64 0, .int .i64 0, .bool false, .slice none 0 0] 52 := by rw [hW7]; exact T6.far (p := ⟨P, 1, none⟩) (by show w.heap.size ≠ P; omega) _
    have b7 : Below P w6 W7 := by rw [hW7]; exact (Below.refl _ w6).setCell (p := ⟨P, 1, none⟩) (Nat.le_refl _) _
    have z7 : W7.heap.size = w6.heap.size := by rw [hW7]; simp
    have s7 := s6.under b7 (by omega)
    have B7 := B6.trans (But.of_below (b7.mono (show w.heap.size ≤ P by omega)))
    rw [← hW7]
    clear hW7 b7 s6 B6 D6 T6 x1 f1
    refine (chance_any p k c A (at_ + 1 + 1 + 1 + 1) 2 _ (by omega) (by omega) (by omega) l hkm s7).mono ?_
    rintro e w8 ⟨⟨v, rfl⟩, s8, b8, z8⟩
    have B8 : But p w.heap.size w w8 := B7.trans (b8 w.heap.size)
    have D8 : Stc w8 P [.int .i64 1, .int .i64 q, .int .i64 x, .int .i64 y, .bool false, .slice none 0 0] 52 := ((b8 (P + 1)).block _ (by omega) hPp).trans D7
    have T8 : Stc w8 w.heap.size [.int .i64 0, .int .i64 0, .int .i64 0, .int .i64 0, .bool false, .slice none 0 0] 52 := ((b8 (P + 1)).block _ (by omega) hwp).trans T7
    have z8' : P < w8.heap.size := by omega
    have x4 := D8.cell (i := 4) rfl
    have f4 := D8.frozen 4
    clear z8 b8 D7 T7 s7 B7 z7 z6'
    go_wp2_with fail
    obtain ⟨W9, hW9⟩ : ∃ W9, W9 = w8.setCell ⟨P, 4, none⟩ (.bool v) := ⟨_, rfl⟩
    have D9 : Stc W9 P [.int .i64 1, .int .i64 q, .int .i64 x, .int .i64 y, .bool v, .slice none 0 0] 52 := by rw [hW9]; exact D8.set_ (i := 4) (.bool v)
    have T9 : Stc W9 w.heap.size [.int .i64 0, .int .i64 0, .int .i64 0, .int .i64 0, .bool false, .slice none 0 0] 52 := by rw [hW9]; exact T8.far (p := ⟨P, 4, none⟩) (by show w.heap.size ≠ P; omega) _
    have b9 : Below P w8 W9 := by rw [hW9]; exact (Below.refl _ w8).setCell (p := ⟨P, 4, none⟩) (Nat.le_refl _) _
    have z9 : W9.heap.size = w8.heap.size := by rw [hW9]; simp
    have s9 := s8.under b9 (by omega)
    have B9 := B8.trans (But.of_below (b9.mono (show w.heap.size ≤ P by omega)))
    rw [← hW9, ← z9]
    clear hW9 b9 s8 B8 D8 T8 x4 f4
    refine (pick_any p k c A (at_ + 1 + 1 + 1 + 1 + 1) W9.heap.size 4 4 bodyPick _ (by omega) (by omega) (by omega) l hkm (s9.but (ab (Below.refl _ _) _) (Nat.le_refl _)) rfl (by omega) (ints_cells W9 bodyPick _ _ rfl)).mono ?_
    rintro e wa ⟨⟨m, hm, rfl⟩, sa, ba, za⟩
    have Ca : But p W9.heap.size W9 wa := (But.of_below (ab (Below.refl _ W9) _)).trans (ba W9.heap.size)
    have Ba : But p w.heap.size w wa := B9.trans (Ca.mono (by omega))
    have Da : Stc wa P [.int .i64 1, .int .i64 q, .int .i64 x, .int .i64 y, .bool v, .slice none 0 0] 52 := (Ca.block _ (by omega) hPp).trans D9
    have Ta : Stc wa w.heap.size [.int .i64 0, .int .i64 0, .int .i64 0, .int .i64 0, .bool false, .slice none 0 0] 52 := (Ca.block _ (by omega) hwp).trans T9
    have za' : P < wa.heap.size := by rw [za]; simp; omega
    obtain ⟨hm0, hm1⟩ := bodyPick_bd m hm
    obtain ⟨m', rfl⟩ := Int.eq_ofNat_of_zero_le hm0
    clear za hm ba Ca D9 T9 s9 B9 z9 z8'
    go_wp2_with fail
    refine (some_any p k c A (at_ + 1 + 1 + 1 + 1 + 1 + 1) m' _ (by omega) l hkm sa).mono ?_
    rintro e wb ⟨⟨A5, c5, r5, rfl, row5, hr5⟩, sb, bb⟩
    have Bb := Ba.trans (bb.mono (by omega))
    have Db : Stc wb P [.int .i64 1, .int .i64 q, .int .i64 x, .int .i64 y, .bool v, .slice none 0 0] 52 := (bb.block _ (by omega) hPp).trans Da
    have Tb : Stc wb w.heap.size [.int .i64 0, .int .i64 0, .int .i64 0, .int .i64 0, .bool false, .slice none 0 0] 52 := (bb.block _ (by omega) hwp).trans Ta
    have zb' : P < wb.heap.size := Db.lt
    have Hr5 := Lib.hid hr5
    have x0 := Db.cell (i := 0) rfl
    have x1 := Db.cell (i := 1) rfl
    have x2 := Db.cell (i := 2) rfl
    have x3 := Db.cell (i := 3) rfl
    have x4 := Db.cell (i := 4) rfl
    have x5 := Db.cell (i := 5) rfl
    have xf := Db.frozen
    have t0 := Tb.cell (i := 0) rfl
    have t1 := Tb.cell (i := 1) rfl
    have t2 := Tb.cell (i := 2) rfl
    have t3 := Tb.cell (i := 3) rfl
    have t4 := Tb.cell (i := 4) rfl
    have t5 := Tb.cell (i := 5) rfl
    have tf := Tb.frozen
    have hne : ¬ P = w.heap.size := by omega
    have hne2 : ¬ w.heap.size = P := by omega
    clear bb sa Ba Da Ta hr5
    go_wp2_with fail
    refine bodyPost_ret (v := .agg #[.int .i64 1, .int .i64 q, .int .i64 x, .int .i64 y, .bool v, .slice A5 m' c5]) (by simp [results, Tryz.results157, go_sem, t0, t1, t2, t3, t4, t5]) rfl ?_
    obtain ⟨X0, X1⟩ := hX.out
    obtain ⟨Y0, Y1⟩ := hY.out
    obtain ⟨Q0, Q1⟩ := hQ.out
    have bc : Below w.heap.size wb (wb.setCell ⟨P, 5, none⟩ (.slice A5 m' c5)) := (Below.refl _ wb).setCell (p := ⟨P, 5, none⟩) (by show w.heap.size ≤ P; omega) _
    have Hb : ∀ (i : Nat) (v : Value) (W : World), Below w.heap.size wb W → Below w.heap.size wb (W.setCell ⟨w.heap.size, i, none⟩ v) := fun i v W hW => hW.setCell (p := ⟨w.heap.size, i, none⟩) (Nat.le_refl _) v
    have HB := Hb 5 (.slice A5 m' c5) _ (Hb 4 (.bool v) _ (Hb 3 (.int .i64 y) _ (Hb 2 (.int .i64 x) _ (Hb 1 (.int .i64 q) _ (Hb 0 (.int .i64 1) _ bc)))))
    have rc := row5.farX (p := ⟨P, 5, none⟩) za' (.slice A5 m' c5)
    have Hr : ∀ (i : Nat) (v : Value) (W : World), Row W wa.heap.size (.slice A5 m' c5) r5 → Row (W.setCell ⟨w.heap.size, i, none⟩ v) wa.heap.size (.slice A5 m' c5) r5 := fun i v W hW => hW.farX (p := ⟨w.heap.size, i, none⟩) (Nat.lt_trans hPw za') v
    have HR := Hr 5 (.slice A5 m' c5) _ (Hr 4 (.bool v) _ (Hr 3 (.int .i64 y) _ (Hr 2 (.int .i64 x) _ (Hr 1 (.int .i64 q) _ (Hr 0 (.int .i64 1) _ rc)))))
    exact ⟨⟨1, q, x, y, v, A5, c5, m', r5, rfl, HR.mono (by omega), Hr5.out, by omega, cellC_data Q0 Q1 X0 X1 Y0 Y1 (by omega)⟩, ⟨_, sb.under HB hp, by omega⟩, Bb.trans (But.of_below HB)⟩
  · skip
    have t0 := T4.cell (i := 0) rfl
    have t1 := T4.cell (i := 1) rfl
    have t2 := T4.cell (i := 2) rfl
    have t3 := T4.cell (i := 3) rfl
    have t4 := T4.cell (i := 4) rfl
    have t5 := T4.cell (i := 5) rfl
    have tf := T4.frozen
    have x0 := D4.cell (i := 0) rfl
    have x1 := D4.cell (i := 1) rfl
    have x2 := D4.cell (i := 2) rfl
    have x3 := D4.cell (i := 3) rfl
    have x4 := D4.cell (i := 4) rfl
    have x5 := D4.cell (i := 5) rfl
    go_wp2_with fail
    refine bodyPost_ret (v := .agg #[.int .i64 0, .int .i64 0, .int .i64 x, .int .i64 y, .bool false, .slice none 0 0]) (by simp [results, Tryz.results157, go_sem, t0, t1, t2, t3, t4, t5]) rfl ?_
    obtain ⟨X0, X1⟩ := hX.out
    obtain ⟨Y0, Y1⟩ := hY.out
    have Hb : ∀ (i : Nat) (v : Value) (W : World), Below w.heap.size w4 W → Below w.heap.size w4 (W.setCell ⟨w.heap.size, i, none⟩ v) := fun i v W hW => hW.setCell (p := ⟨w.heap.size, i, none⟩) (Nat.le_refl _) v
    have HB := Hb 5 (.slice none 0 0) _ (Hb 4 (.bool false) _ (Hb 3 (.int .i64 y) _ (Hb 2 (.int .i64 x) _ (Hb 1 (.int .i64 0) _ (Hb 0 (.int .i64 0) _ (Below.refl _ w4))))))
    exact ⟨⟨0, 0, x, y, false, none, 0, 0, [], rfl, ⟨By.nil, ⟨rfl, .inl ⟨rfl, rfl⟩⟩⟩, rfl, by omega, cellC_dummy X0 X1 Y0 Y1⟩, ⟨_, s4.under HB hp, by omega⟩, B4.trans (But.of_below HB)⟩
end Go.Proofs.YtabhcolfkkfonaaGreatDoor
