/- Two cells drawn. -/
import Derived.Test.YtabhcolfkkfonaaCelE
namespace Go.Proofs.Ytabhcolfkkfonaa
open Go.RowKit

set_option maxHeartbeats 1000000 in
theorem drawSameCells_any (A : Option Addr) (n c : Nat) (l : List Int) (w : World) (h : Bs w A n l) (hn : n ≤ 1048576) :
    Calls Try.prog 10 #[.slice A n c] w fun e w' => (∃ a b cc d v A' c' m r, ∃ a2 b2 cc2 d2 v2 A2' c2' m2 r2, e = .returned (.tuple #[.agg #[.int .i64 a, .int .i64 b, .int .i64 cc, .int .i64 d, .bool v, .slice A' m c'], .agg #[.int .i64 a2, .int .i64 b2, .int .i64 cc2, .int .i64 d2, .bool v2, .slice A2' m2 c2']]) ∧ Bs w' A' m r ∧ Bs w' A2' m2 r2 ∧ m ≤ 32 ∧ m2 ≤ 32) ∧ Below w.heap.size w w' := by
  go_enter Try.func10, Try.ntmps10
  go_wp2_with fail
  obtain ⟨W0, hW0⟩ : ∃ W0, W0 = (w.alloc (.cells #[.int .i64 0, .int .i64 0, .int .i64 0, .int .i64 0, .bool false, .slice none 0 0] 25)).alloc (.cells #[.int .i64 0, .int .i64 0, .int .i64 0, .int .i64 0, .bool false, .slice none 0 0] 25) := ⟨_, rfl⟩
  have D0 : Stc W0 w.heap.size [.int .i64 0, .int .i64 0, .int .i64 0, .int .i64 0, .bool false, .slice none 0 0] 25 := by rw [hW0]; exact (Stc.new w _ _ _ rfl).alloc _
  have E0 : Stc W0 (w.heap.size + 1) [.int .i64 0, .int .i64 0, .int .i64 0, .int .i64 0, .bool false, .slice none 0 0] 25 := by
    have h := Stc.new (w.alloc (.cells #[.int .i64 0, .int .i64 0, .int .i64 0, .int .i64 0, .bool false, .slice none 0 0] 25)) 25 [.int .i64 0, .int .i64 0, .int .i64 0, .int .i64 0, .bool false, .slice none 0 0] _ rfl
    rw [World.size_alloc] at h
    rw [hW0]
    exact h
  have z0 : W0.heap.size = w.heap.size + 2 := by rw [hW0]; simp
  have B0 : Below w.heap.size w W0 := by rw [hW0]; exact ab (ab (Below.refl _ _) _) _
  rw [← hW0]
  clear hW0
  refine (source_any A n c l _ (h.below B0)).mono ?_
  rintro e w1 ⟨rfl, s1, b1, z1⟩
  have D1 := D0.below b1 (by omega)
  have E1 := E0.below b1 (by omega)
  have B1 := ac B0 b1
  rw [z0] at s1
  have z1' : w1.heap.size = w.heap.size + 3 := by omega
  clear D0 E0 b1 B0 z1
  go_wp2_with fail
  refine (l6Draw_any (w.heap.size + 2) n c A 0 _ (by omega) l hn s1).mono ?_
  rintro e w2 ⟨⟨a, b, cc, d, v, A2, c2, m, r, rfl, row, hr, hm, _⟩, ⟨q, s2, hq⟩, b2⟩
  have D2 : Stc w2 w.heap.size [.int .i64 0, .int .i64 0, .int .i64 0, .int .i64 0, .bool false, .slice none 0 0] 25 := (b2.block _ (by omega) (by omega)).trans D1
  have E2 : Stc w2 (w.heap.size + 1) [.int .i64 0, .int .i64 0, .int .i64 0, .int .i64 0, .bool false, .slice none 0 0] 25 := (b2.block _ (by omega) (by omega)).trans E1
  have B2 := B1.trans (b2.below (show w.heap.size ≤ w1.heap.size by omega) (show w.heap.size ≤ w.heap.size + 2 by omega))
  have z2 := b2.size
  have Hr := Lib.hid hr
  clear D1 E1 b2 B1 s1 hr
  go_wp2_with fail
  obtain ⟨P, hP⟩ : ∃ P, P = w2.heap.size := ⟨_, rfl⟩
  have hPw : w.heap.size + 2 < P := by omega
  obtain ⟨W3, hW3⟩ : ∃ W3, W3 = (w2.alloc (.cells #[.int .i64 a, .int .i64 b, .int .i64 cc, .int .i64 d, .bool v, .slice A2 m c2] 25)).alloc (.cells #[.int .i64 a, .int .i64 b, .int .i64 cc, .int .i64 d, .bool v, .slice A2 m c2] 25) := ⟨_, rfl⟩
  have F3 : Stc W3 P [.int .i64 a, .int .i64 b, .int .i64 cc, .int .i64 d, .bool v, .slice A2 m c2] 25 := by rw [hW3, hP]; exact (Stc.new w2 _ _ _ rfl).alloc _
  have G3 : Stc W3 (P + 1) [.int .i64 a, .int .i64 b, .int .i64 cc, .int .i64 d, .bool v, .slice A2 m c2] 25 := by
    have h := Stc.new (w2.alloc (.cells #[.int .i64 a, .int .i64 b, .int .i64 cc, .int .i64 d, .bool v, .slice A2 m c2] 25)) 25 [.int .i64 a, .int .i64 b, .int .i64 cc, .int .i64 d, .bool v, .slice A2 m c2] _ rfl
    rw [World.size_alloc, ← hP] at h
    rw [hW3]
    exact h
  have b3 : Below w2.heap.size w2 W3 := by rw [hW3]; exact ab (ab (Below.refl _ _) _) _
  have D3 := D2.below b3 D2.lt
  have E3 := E2.below b3 E2.lt
  have zW : W3.heap.size = P + 2 := by rw [hW3, hP]; simp
  have s3 := s2.but b3 (Nat.le_refl _)
  have B3 := ac B2 b3
  have M3 : But (w.heap.size + 2) P w2 W3 := But.of_below (b3.mono (by omega))
  have row3 := row.belowR b3 (Nat.le_refl _)
  have hc3 := row3.capX.2
  have Bs3 := (row3.ow' Hr.out).bs
  rw [← hW3]
  try rw [← hP]
  have hPq : w2.heap.size ≤ P := by omega
  clear hW3 b3 D2 E2 s2 B2 row3 hP
  refine (copyb_any A2 m c2 r W3 Bs3 hc3 (by omega)).mono ?_
  rintro e w4 ⟨⟨A3, c3, rfl, row4⟩, b4⟩
  have F4 := F3.below b4 F3.lt
  have G4 := G3.below b4 G3.lt
  have D4 := D3.below b4 D3.lt
  have E4 := E3.below b4 E3.lt
  have s4 := s3.but b4 (Nat.le_refl _)
  have B4 := ac B3 b4
  have M4 := M3.trans (But.of_below (b4.mono (show P ≤ W3.heap.size by omega)))
  have x5 := G4.cell (i := 5) rfl
  have f5 := G4.frozen 5
  clear F3 G3 D3 E3 s3 B3 M3 Bs3 hc3
  have z4 : P + 1 < w4.heap.size := G4.lt
  clear b4
  go_wp2_with fail
  obtain ⟨W5, hW5⟩ : ∃ W5, W5 = w4.setCell ⟨P + 1, 5, none⟩ (.slice A3 m c3) := ⟨_, rfl⟩
  have b5 : Below (P + 1) w4 W5 := by rw [hW5]; exact (Below.refl _ w4).setCell (p := ⟨P + 1, 5, none⟩) (Nat.le_refl _) _
  have G5 : Stc W5 (P + 1) [.int .i64 a, .int .i64 b, .int .i64 cc, .int .i64 d, .bool v, .slice A3 m c3] 25 := by rw [hW5]; exact G4.set_ (i := 5) (.slice A3 m c3)
  have row5 : Row W5 W3.heap.size (.slice A3 m c3) r := by rw [hW5]; exact row4.farX (p := ⟨P + 1, 5, none⟩) (by show P + 1 < W3.heap.size; omega) _
  have z5 : W5.heap.size = w4.heap.size := by rw [hW5]; simp
  have F5 := F4.below b5 (by omega)
  have D5 := D4.below b5 (by omega)
  have E5 := E4.below b5 (by omega)
  have s5 := s4.under b5 (by omega)
  have B5 := B4.trans (b5.mono (show w.heap.size ≤ P + 1 by omega))
  have M5 := M4.trans (But.of_below (b5.mono (show P ≤ P + 1 by omega)))
  rw [← hW5]
  clear hW5 b5 G4 F4 D4 E4 s4 B4 M4 x5 f5 row4
  refine (chance_any (w.heap.size + 2) n c A q 2 _ (by omega) (by omega) (by omega) l hn s5).mono ?_
  rintro e w6 ⟨⟨vv, rfl⟩, s6, b6, z6⟩
  have G6 : Stc w6 (P + 1) [.int .i64 a, .int .i64 b, .int .i64 cc, .int .i64 d, .bool v, .slice A3 m c3] 25 := ((b6 (P + 2)).block _ (by omega) (by omega)).trans G5
  have F6 : Stc w6 P [.int .i64 a, .int .i64 b, .int .i64 cc, .int .i64 d, .bool v, .slice A2 m c2] 25 := ((b6 (P + 2)).block _ (by omega) (by omega)).trans F5
  have D6 : Stc w6 w.heap.size [.int .i64 0, .int .i64 0, .int .i64 0, .int .i64 0, .bool false, .slice none 0 0] 25 := ((b6 (P + 2)).block _ (by omega) (by omega)).trans D5
  have E6 : Stc w6 (w.heap.size + 1) [.int .i64 0, .int .i64 0, .int .i64 0, .int .i64 0, .bool false, .slice none 0 0] 25 := ((b6 (P + 2)).block _ (by omega) (by omega)).trans E5
  have row6 : Row w6 W3.heap.size (.slice A3 m c3) r := row5.keep (fun g h1 h2 => (b6 (g + 1)).block g (by omega) (by omega))
  have B6 := B5.trans ((b6 w.heap.size).below (Nat.le_refl _) (by omega))
  have M6 := M5.trans (b6 P)
  have z6' : P + 1 < w6.heap.size := G6.lt
  have ne1 : ¬ P = w.heap.size := by omega
  have ne2 : ¬ w.heap.size = P := by omega
  have ne3 : ¬ P = w.heap.size + 1 := by omega
  have ne4 : ¬ w.heap.size + 1 = P := by omega
  have ne5 : ¬ w.heap.size = P + 1 := by omega
  clear b6 z6 G5 F5 D5 E5 s5 B5 M5 row5 z5 z4
  cases vv
  · skip
    have x0 := F6.cell (i := 0) rfl
    have x1 := F6.cell (i := 1) rfl
    have x2 := F6.cell (i := 2) rfl
    have x3 := F6.cell (i := 3) rfl
    have x4 := F6.cell (i := 4) rfl
    have x5 := F6.cell (i := 5) rfl
    have y0 := G6.cell (i := 0) rfl
    have y1 := G6.cell (i := 1) rfl
    have y2 := G6.cell (i := 2) rfl
    have y3 := G6.cell (i := 3) rfl
    have y4 := G6.cell (i := 4) rfl
    have y5 := G6.cell (i := 5) rfl
    have t0 := D6.cell (i := 0) rfl
    have t1 := D6.cell (i := 1) rfl
    have t2 := D6.cell (i := 2) rfl
    have t3 := D6.cell (i := 3) rfl
    have t4 := D6.cell (i := 4) rfl
    have t5 := D6.cell (i := 5) rfl
    have tf := D6.frozen
    have e0 := E6.cell (i := 0) rfl
    have e1 := E6.cell (i := 1) rfl
    have e2 := E6.cell (i := 2) rfl
    have e3 := E6.cell (i := 3) rfl
    have e4 := E6.cell (i := 4) rfl
    have e5 := E6.cell (i := 5) rfl
    have ef := E6.frozen
    go_wp2_with fail
    go_region
    go_wp2_with fail
    refine bodyPost_ret (v := .tuple #[.agg #[.int .i64 a, .int .i64 b, .int .i64 cc, .int .i64 d, .bool v, .slice A2 m c2], .agg #[.int .i64 a, .int .i64 b, .int .i64 cc, .int .i64 d, .bool v, .slice A3 m c3]]) (by simp [results, Try.results10, go_sem, t0, t1, t2, t3, t4, t5, e0, e1, e2, e3, e4, e5]) rfl ?_
    have Mc := (Below.refl P w6)
    have Ra := row.keep (fun g h1 h2 => (M6.trans (But.of_below Mc)).block g (by omega) (by omega))
    have Rb := row6
    have Bc := B6.trans (Mc.mono (show w.heap.size ≤ P by omega))
    have RA := ((((((((((((Ra.farX (p := ⟨w.heap.size, 0, none⟩) (by show w.heap.size < w1.heap.size; omega) (.int .i64 a)).farX (p := ⟨w.heap.size, 1, none⟩) (by show w.heap.size < w1.heap.size; omega) (.int .i64 b)).farX (p := ⟨w.heap.size, 2, none⟩) (by show w.heap.size < w1.heap.size; omega) (.int .i64 cc)).farX (p := ⟨w.heap.size, 3, none⟩) (by show w.heap.size < w1.heap.size; omega) (.int .i64 d)).farX (p := ⟨w.heap.size, 4, none⟩) (by show w.heap.size < w1.heap.size; omega) (.bool v)).farX (p := ⟨w.heap.size, 5, none⟩) (by show w.heap.size < w1.heap.size; omega) (.slice A2 m c2)).farX (p := ⟨w.heap.size + 1, 0, none⟩) (by show w.heap.size + 1 < w1.heap.size; omega) (.int .i64 a)).farX (p := ⟨w.heap.size + 1, 1, none⟩) (by show w.heap.size + 1 < w1.heap.size; omega) (.int .i64 b)).farX (p := ⟨w.heap.size + 1, 2, none⟩) (by show w.heap.size + 1 < w1.heap.size; omega) (.int .i64 cc)).farX (p := ⟨w.heap.size + 1, 3, none⟩) (by show w.heap.size + 1 < w1.heap.size; omega) (.int .i64 d)).farX (p := ⟨w.heap.size + 1, 4, none⟩) (by show w.heap.size + 1 < w1.heap.size; omega) (.bool v)).farX (p := ⟨w.heap.size + 1, 5, none⟩) (by show w.heap.size + 1 < w1.heap.size; omega) (.slice A3 m c3))
    have RB := ((((((((((((Rb.farX (p := ⟨w.heap.size, 0, none⟩) (by show w.heap.size < W3.heap.size; omega) (.int .i64 a)).farX (p := ⟨w.heap.size, 1, none⟩) (by show w.heap.size < W3.heap.size; omega) (.int .i64 b)).farX (p := ⟨w.heap.size, 2, none⟩) (by show w.heap.size < W3.heap.size; omega) (.int .i64 cc)).farX (p := ⟨w.heap.size, 3, none⟩) (by show w.heap.size < W3.heap.size; omega) (.int .i64 d)).farX (p := ⟨w.heap.size, 4, none⟩) (by show w.heap.size < W3.heap.size; omega) (.bool v)).farX (p := ⟨w.heap.size, 5, none⟩) (by show w.heap.size < W3.heap.size; omega) (.slice A2 m c2)).farX (p := ⟨w.heap.size + 1, 0, none⟩) (by show w.heap.size + 1 < W3.heap.size; omega) (.int .i64 a)).farX (p := ⟨w.heap.size + 1, 1, none⟩) (by show w.heap.size + 1 < W3.heap.size; omega) (.int .i64 b)).farX (p := ⟨w.heap.size + 1, 2, none⟩) (by show w.heap.size + 1 < W3.heap.size; omega) (.int .i64 cc)).farX (p := ⟨w.heap.size + 1, 3, none⟩) (by show w.heap.size + 1 < W3.heap.size; omega) (.int .i64 d)).farX (p := ⟨w.heap.size + 1, 4, none⟩) (by show w.heap.size + 1 < W3.heap.size; omega) (.bool v)).farX (p := ⟨w.heap.size + 1, 5, none⟩) (by show w.heap.size + 1 < W3.heap.size; omega) (.slice A3 m c3))
    have HB := ((((((((((((Bc.setCell (p := ⟨w.heap.size, 0, none⟩) (by show w.heap.size ≤ w.heap.size; omega) (.int .i64 a)).setCell (p := ⟨w.heap.size, 1, none⟩) (by show w.heap.size ≤ w.heap.size; omega) (.int .i64 b)).setCell (p := ⟨w.heap.size, 2, none⟩) (by show w.heap.size ≤ w.heap.size; omega) (.int .i64 cc)).setCell (p := ⟨w.heap.size, 3, none⟩) (by show w.heap.size ≤ w.heap.size; omega) (.int .i64 d)).setCell (p := ⟨w.heap.size, 4, none⟩) (by show w.heap.size ≤ w.heap.size; omega) (.bool v)).setCell (p := ⟨w.heap.size, 5, none⟩) (by show w.heap.size ≤ w.heap.size; omega) (.slice A2 m c2)).setCell (p := ⟨w.heap.size + 1, 0, none⟩) (by show w.heap.size ≤ w.heap.size + 1; omega) (.int .i64 a)).setCell (p := ⟨w.heap.size + 1, 1, none⟩) (by show w.heap.size ≤ w.heap.size + 1; omega) (.int .i64 b)).setCell (p := ⟨w.heap.size + 1, 2, none⟩) (by show w.heap.size ≤ w.heap.size + 1; omega) (.int .i64 cc)).setCell (p := ⟨w.heap.size + 1, 3, none⟩) (by show w.heap.size ≤ w.heap.size + 1; omega) (.int .i64 d)).setCell (p := ⟨w.heap.size + 1, 4, none⟩) (by show w.heap.size ≤ w.heap.size + 1; omega) (.bool v)).setCell (p := ⟨w.heap.size + 1, 5, none⟩) (by show w.heap.size ≤ w.heap.size + 1; omega) (.slice A3 m c3))
    exact ⟨⟨a, b, cc, d, v, A2, c2, m, r, a, b, cc, d, v, A3, c3, m, r, rfl, (RA.drewR.ow' Hr.out).bs, (RB.drewR.ow' Hr.out).bs, hm, by omega⟩, HB.drew⟩
  · go_wp2_with fail
    refine (l6Draw_any (w.heap.size + 2) n c A (q + 1) _ (by omega) l hn s6).mono ?_
    rintro e w7 ⟨⟨a7, b7, cc7, d7, v7, A7, c7, m7, r7, rfl, row7, hr7, hm7, _⟩, _, k7⟩
    have G7 : Stc w7 (P + 1) [.int .i64 a, .int .i64 b, .int .i64 cc, .int .i64 d, .bool v, .slice A3 m c3] 25 := (k7.block _ (by omega) (by omega)).trans G6
    have F7 : Stc w7 P [.int .i64 a, .int .i64 b, .int .i64 cc, .int .i64 d, .bool v, .slice A2 m c2] 25 := (k7.block _ (by omega) (by omega)).trans F6
    have D7 : Stc w7 w.heap.size [.int .i64 0, .int .i64 0, .int .i64 0, .int .i64 0, .bool false, .slice none 0 0] 25 := (k7.block _ (by omega) (by omega)).trans D6
    have E7 : Stc w7 (w.heap.size + 1) [.int .i64 0, .int .i64 0, .int .i64 0, .int .i64 0, .bool false, .slice none 0 0] 25 := (k7.block _ (by omega) (by omega)).trans E6
    have B7 := B6.trans (k7.below (show w.heap.size ≤ w6.heap.size by omega) (by omega))
    have M7 := M6.trans (k7.mono (show P ≤ w6.heap.size by omega))
    have Hr7 := Lib.hid hr7
    clear k7 hr7 G6 F6 D6 E6 B6 M6 row6 s6
    have y0 := G7.cell (i := 0) rfl
    have y1 := G7.cell (i := 1) rfl
    have y2 := G7.cell (i := 2) rfl
    have y3 := G7.cell (i := 3) rfl
    have y4 := G7.cell (i := 4) rfl
    have y5 := G7.cell (i := 5) rfl
    have yf := G7.frozen
    go_wp2_with fail
    have z6p : P + 1 < w6.heap.size := z6'
    obtain ⟨W8, hW8⟩ : ∃ W8, W8 = ((((((w7.setCell ⟨P + 1, 0, none⟩ (.int .i64 a7)).setCell ⟨P + 1, 1, none⟩ (.int .i64 b7)).setCell ⟨P + 1, 2, none⟩ (.int .i64 cc7)).setCell ⟨P + 1, 3, none⟩ (.int .i64 d7)).setCell ⟨P + 1, 4, none⟩ (.bool v7)).setCell ⟨P + 1, 5, none⟩ (.slice A7 m7 c7)) := ⟨_, rfl⟩
    have k8 : Below (P + 1) w7 W8 := by rw [hW8]; exact (((((((Below.refl (P + 1) w7).setCell (p := ⟨P + 1, 0, none⟩) (Nat.le_refl _) (.int .i64 a7)).setCell (p := ⟨P + 1, 1, none⟩) (Nat.le_refl _) (.int .i64 b7)).setCell (p := ⟨P + 1, 2, none⟩) (Nat.le_refl _) (.int .i64 cc7)).setCell (p := ⟨P + 1, 3, none⟩) (Nat.le_refl _) (.int .i64 d7)).setCell (p := ⟨P + 1, 4, none⟩) (Nat.le_refl _) (.bool v7)).setCell (p := ⟨P + 1, 5, none⟩) (Nat.le_refl _) (.slice A7 m7 c7))
    have G8 : Stc W8 (P + 1) [.int .i64 a7, .int .i64 b7, .int .i64 cc7, .int .i64 d7, .bool v7, .slice A7 m7 c7] 25 := by rw [hW8]; exact ((((((G7.set_ (i := 0) (.int .i64 a7)).set_ (i := 1) (.int .i64 b7)).set_ (i := 2) (.int .i64 cc7)).set_ (i := 3) (.int .i64 d7)).set_ (i := 4) (.bool v7)).set_ (i := 5) (.slice A7 m7 c7))
    have row8 : Row W8 w6.heap.size (.slice A7 m7 c7) r7 := by rw [hW8]; exact ((((((row7.farX (p := ⟨P + 1, 0, none⟩) z6p (.int .i64 a7)).farX (p := ⟨P + 1, 1, none⟩) z6p (.int .i64 b7)).farX (p := ⟨P + 1, 2, none⟩) z6p (.int .i64 cc7)).farX (p := ⟨P + 1, 3, none⟩) z6p (.int .i64 d7)).farX (p := ⟨P + 1, 4, none⟩) z6p (.bool v7)).farX (p := ⟨P + 1, 5, none⟩) z6p (.slice A7 m7 c7))
    rw [← hW8]
    have F8 := F7.below k8 (by omega)
    have D8 := D7.below k8 (by omega)
    have E8 := E7.below k8 (by omega)
    have B8 := B7.trans (k8.mono (show w.heap.size ≤ P + 1 by omega))
    have M8 := M7.trans (But.of_below (k8.mono (show P ≤ P + 1 by omega)))
    clear hW8 k8 G7 F7 D7 E7 B7 M7 row7 y0 y1 y2 y3 y4 y5 yf
    have x0 := F8.cell (i := 0) rfl
    have x1 := F8.cell (i := 1) rfl
    have x2 := F8.cell (i := 2) rfl
    have x3 := F8.cell (i := 3) rfl
    have x4 := F8.cell (i := 4) rfl
    have x5 := F8.cell (i := 5) rfl
    have y0 := G8.cell (i := 0) rfl
    have y1 := G8.cell (i := 1) rfl
    have y2 := G8.cell (i := 2) rfl
    have y3 := G8.cell (i := 3) rfl
    have y4 := G8.cell (i := 4) rfl
    have y5 := G8.cell (i := 5) rfl
    have t0 := D8.cell (i := 0) rfl
    have t1 := D8.cell (i := 1) rfl
    have t2 := D8.cell (i := 2) rfl
    have t3 := D8.cell (i := 3) rfl
    have t4 := D8.cell (i := 4) rfl
    have t5 := D8.cell (i := 5) rfl
    have tf := D8.frozen
    have e0 := E8.cell (i := 0) rfl
    have e1 := E8.cell (i := 1) rfl
    have e2 := E8.cell (i := 2) rfl
    have e3 := E8.cell (i := 3) rfl
    have e4 := E8.cell (i := 4) rfl
    have e5 := E8.cell (i := 5) rfl
    have ef := E8.frozen
    go_region
    go_wp2_with fail
    refine bodyPost_ret (v := .tuple #[.agg #[.int .i64 a, .int .i64 b, .int .i64 cc, .int .i64 d, .bool v, .slice A2 m c2], .agg #[.int .i64 a7, .int .i64 b7, .int .i64 cc7, .int .i64 d7, .bool v7, .slice A7 m7 c7]]) (by simp [results, Try.results10, go_sem, t0, t1, t2, t3, t4, t5, e0, e1, e2, e3, e4, e5]) rfl ?_
    have Mc := (Below.refl P W8)
    have Ra := row.keep (fun g h1 h2 => (M8.trans (But.of_below Mc)).block g (by omega) (by omega))
    have Rb := row8
    have Bc := B8.trans (Mc.mono (show w.heap.size ≤ P by omega))
    have RA := ((((((((((((Ra.farX (p := ⟨w.heap.size, 0, none⟩) (by show w.heap.size < w1.heap.size; omega) (.int .i64 a)).farX (p := ⟨w.heap.size, 1, none⟩) (by show w.heap.size < w1.heap.size; omega) (.int .i64 b)).farX (p := ⟨w.heap.size, 2, none⟩) (by show w.heap.size < w1.heap.size; omega) (.int .i64 cc)).farX (p := ⟨w.heap.size, 3, none⟩) (by show w.heap.size < w1.heap.size; omega) (.int .i64 d)).farX (p := ⟨w.heap.size, 4, none⟩) (by show w.heap.size < w1.heap.size; omega) (.bool v)).farX (p := ⟨w.heap.size, 5, none⟩) (by show w.heap.size < w1.heap.size; omega) (.slice A2 m c2)).farX (p := ⟨w.heap.size + 1, 0, none⟩) (by show w.heap.size + 1 < w1.heap.size; omega) (.int .i64 a7)).farX (p := ⟨w.heap.size + 1, 1, none⟩) (by show w.heap.size + 1 < w1.heap.size; omega) (.int .i64 b7)).farX (p := ⟨w.heap.size + 1, 2, none⟩) (by show w.heap.size + 1 < w1.heap.size; omega) (.int .i64 cc7)).farX (p := ⟨w.heap.size + 1, 3, none⟩) (by show w.heap.size + 1 < w1.heap.size; omega) (.int .i64 d7)).farX (p := ⟨w.heap.size + 1, 4, none⟩) (by show w.heap.size + 1 < w1.heap.size; omega) (.bool v7)).farX (p := ⟨w.heap.size + 1, 5, none⟩) (by show w.heap.size + 1 < w1.heap.size; omega) (.slice A7 m7 c7))
    have RB := ((((((((((((Rb.farX (p := ⟨w.heap.size, 0, none⟩) (by show w.heap.size < w6.heap.size; omega) (.int .i64 a)).farX (p := ⟨w.heap.size, 1, none⟩) (by show w.heap.size < w6.heap.size; omega) (.int .i64 b)).farX (p := ⟨w.heap.size, 2, none⟩) (by show w.heap.size < w6.heap.size; omega) (.int .i64 cc)).farX (p := ⟨w.heap.size, 3, none⟩) (by show w.heap.size < w6.heap.size; omega) (.int .i64 d)).farX (p := ⟨w.heap.size, 4, none⟩) (by show w.heap.size < w6.heap.size; omega) (.bool v)).farX (p := ⟨w.heap.size, 5, none⟩) (by show w.heap.size < w6.heap.size; omega) (.slice A2 m c2)).farX (p := ⟨w.heap.size + 1, 0, none⟩) (by show w.heap.size + 1 < w6.heap.size; omega) (.int .i64 a7)).farX (p := ⟨w.heap.size + 1, 1, none⟩) (by show w.heap.size + 1 < w6.heap.size; omega) (.int .i64 b7)).farX (p := ⟨w.heap.size + 1, 2, none⟩) (by show w.heap.size + 1 < w6.heap.size; omega) (.int .i64 cc7)).farX (p := ⟨w.heap.size + 1, 3, none⟩) (by show w.heap.size + 1 < w6.heap.size; omega) (.int .i64 d7)).farX (p := ⟨w.heap.size + 1, 4, none⟩) (by show w.heap.size + 1 < w6.heap.size; omega) (.bool v7)).farX (p := ⟨w.heap.size + 1, 5, none⟩) (by show w.heap.size + 1 < w6.heap.size; omega) (.slice A7 m7 c7))
    have HB := ((((((((((((Bc.setCell (p := ⟨w.heap.size, 0, none⟩) (by show w.heap.size ≤ w.heap.size; omega) (.int .i64 a)).setCell (p := ⟨w.heap.size, 1, none⟩) (by show w.heap.size ≤ w.heap.size; omega) (.int .i64 b)).setCell (p := ⟨w.heap.size, 2, none⟩) (by show w.heap.size ≤ w.heap.size; omega) (.int .i64 cc)).setCell (p := ⟨w.heap.size, 3, none⟩) (by show w.heap.size ≤ w.heap.size; omega) (.int .i64 d)).setCell (p := ⟨w.heap.size, 4, none⟩) (by show w.heap.size ≤ w.heap.size; omega) (.bool v)).setCell (p := ⟨w.heap.size, 5, none⟩) (by show w.heap.size ≤ w.heap.size; omega) (.slice A2 m c2)).setCell (p := ⟨w.heap.size + 1, 0, none⟩) (by show w.heap.size ≤ w.heap.size + 1; omega) (.int .i64 a7)).setCell (p := ⟨w.heap.size + 1, 1, none⟩) (by show w.heap.size ≤ w.heap.size + 1; omega) (.int .i64 b7)).setCell (p := ⟨w.heap.size + 1, 2, none⟩) (by show w.heap.size ≤ w.heap.size + 1; omega) (.int .i64 cc7)).setCell (p := ⟨w.heap.size + 1, 3, none⟩) (by show w.heap.size ≤ w.heap.size + 1; omega) (.int .i64 d7)).setCell (p := ⟨w.heap.size + 1, 4, none⟩) (by show w.heap.size ≤ w.heap.size + 1; omega) (.bool v7)).setCell (p := ⟨w.heap.size + 1, 5, none⟩) (by show w.heap.size ≤ w.heap.size + 1; omega) (.slice A7 m7 c7))
    exact ⟨⟨a, b, cc, d, v, A2, c2, m, r, a7, b7, cc7, d7, v7, A7, c7, m7, r7, rfl, (RA.drewR.ow' Hr.out).bs, (RB.drewR.ow' Hr7.out).bs, hm, by omega⟩, HB.drew⟩
end Go.Proofs.Ytabhcolfkkfonaa
