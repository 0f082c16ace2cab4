/- What 2 to the power of 130, less 5, leaves of five limbs, of the program. -/
import Derived.Test.YtpoiecdifhkegaaDoorLimbP
import Derived.Deep.Cut
namespace Go.Proofs.YtpoiecdifhkegaaDoor
open Go.RowKit

/-- the digits of five limbs, and what is above them -/
def Cut5 (V D0 D1 D2 D3 D4 O : Int) : Prop :=
  (0 ≤ D0 ∧ D0 < 67108864) ∧ (0 ≤ D1 ∧ D1 < 67108864) ∧ (0 ≤ D2 ∧ D2 < 67108864) ∧ (0 ≤ D3 ∧ D3 < 67108864) ∧ (0 ≤ D4 ∧ D4 < 67108864) ∧ 0 ≤ O ∧
  V = D0 + D1 * 67108864 + D2 * 4503599627370496 + D3 * 302231454903657293676544 + D4 * 20282409603651670423947251286016 + O * 1361129467683753853853498429727072845824

theorem carried_ex (a b c d e : Int) (w : World) (h0 : 0 ≤ a ∧ a < 9223372036854775808) (h1 : 0 ≤ b ∧ b < 9223372036854775808) (h2 : 0 ≤ c ∧ c < 9223372036854775808) (h3 : 0 ≤ d ∧ d < 9223372036854775808) (h4 : 0 ≤ e ∧ e < 9223372036854775808) :
    Calls Tryd.prog 63 #[.agg #[.int .u64 a, .int .u64 b, .int .u64 c, .int .u64 d, .int .u64 e]] w fun r w' =>
      (∃ D0 D1 D2 D3 D4 O, r = .returned (.tuple #[.agg #[.int .u64 D0, .int .u64 D1, .int .u64 D2, .int .u64 D3, .int .u64 D4], .int .u64 O]) ∧ Cut5 (val5 [a, b, c, d, e]) D0 D1 D2 D3 D4 O) ∧ Below w.heap.size w w' := by
  refine (carried_any a b c d e w h0 h1 h2 h3 h4).mono ?_
  rintro r w' ⟨rfl, hb⟩
  refine ⟨⟨_, _, _, _, _, _, rfl, ?_⟩, hb⟩
  simp only [Cut5, val5, List.getD_cons_zero, List.getD_cons_succ]
  omega

theorem cut_limbs (V D0 D1 D2 D3 D4 O : Int) (h : Cut5 V D0 D1 D2 D3 D4 O) (hV : V < 1361129467683753853853498429727072845824) : [D0, D1, D2, D3, D4] = limbs V := by
  obtain ⟨h0, h1, h2, h3, h4, h5, h6⟩ := h
  simp only [limbs, List.cons.injEq, and_true]
  omega

theorem cut_val (V D0 D1 D2 D3 D4 O : Int) (h : Cut5 V D0 D1 D2 D3 D4 O) : V = val5 [D0, D1, D2, D3, D4] + O * 1361129467683753853853498429727072845824 ∧ 0 ≤ val5 [D0, D1, D2, D3, D4] ∧ val5 [D0, D1, D2, D3, D4] < 1361129467683753853853498429727072845824 := by
  obtain ⟨h0, h1, h2, h3, h4, h5, h6⟩ := h
  simp only [val5, List.getD_cons_zero, List.getD_cons_succ]
  omega

theorem val5_put (a b c d e x : Int) : val5 [a + x, b, c, d, e] = val5 [a, b, c, d, e] + x := by
  simp only [val5, List.getD_cons_zero, List.getD_cons_succ]
  omega

theorem rest_yes (V W Y O O2 E0 E1 E2 E3 E4 : Int) (hV : V = W + O * 1361129467683753853853498429727072845824) (hO : 0 ≤ O ∧ O < 68719476736) (hW : 0 ≤ W ∧ W < 1361129467683753853853498429727072845824) (hY : Y = W + 5 * O) (hE : Cut5 (Y + 5) E0 E1 E2 E3 E4 O2) (h2 : ¬ O2 = 0) : [E0, E1, E2, E3, E4] = limbs (V % pp) := by
  obtain ⟨e1, e2, e3⟩ := cut_val _ _ _ _ _ _ _ hE
  have hv : V % pp = val5 [E0, E1, E2, E3, E4] := by
    have ho := hE.2.2.2.2.2.1
    generalize val5 [E0, E1, E2, E3, E4] = X at *
    have h1 : O2 = 1 := by omega
    subst h1
    have hx : V = X + pp * (O + 1) := by unfold pp; omega
    rw [hx, Int.add_mul_emod_self_left, Int.emod_eq_of_lt e2 (by unfold pp; omega)]
  rw [hv]
  refine cut_limbs _ _ _ _ _ _ 0 ?_ e3
  obtain ⟨h0, h1, h2, h3, h4, h5, h6⟩ := hE
  refine ⟨h0, h1, h2, h3, h4, by omega, ?_⟩
  simp only [val5, List.getD_cons_zero, List.getD_cons_succ]
  omega
theorem rest_no (V W Y O O2 E0 E1 E2 E3 E4 O3 F0 F1 F2 F3 F4 : Int) (hV : V = W + O * 1361129467683753853853498429727072845824) (hO : 0 ≤ O ∧ O < 68719476736) (hW : 0 ≤ W ∧ W < 1361129467683753853853498429727072845824) (hY : Y = W + 5 * O) (hE : Cut5 (Y + 5) E0 E1 E2 E3 E4 O2) (h2 : O2 = 0) (hF : Cut5 Y F0 F1 F2 F3 F4 O3) : [F0, F1, F2, F3, F4] = limbs (V % pp) := by
  obtain ⟨e1, e2, e3⟩ := cut_val _ _ _ _ _ _ _ hE
  have hv : V % pp = Y := by
    generalize val5 [E0, E1, E2, E3, E4] = X at *
    have hx : V = Y + pp * O := by unfold pp; omega
    rw [hx, Int.add_mul_emod_self_left, Int.emod_eq_of_lt (by omega) (by unfold pp; omega)]
  rw [hv]
  exact cut_limbs _ _ _ _ _ _ _ hF (by omega)

set_option maxRecDepth 100000 in
set_option maxHeartbeats 4000000 in
theorem least_any (a b c d e : Int) (w : World) (h0 : 0 ≤ a ∧ a < 1152921504606846976) (h1 : 0 ≤ b ∧ b < 1152921504606846976) (h2 : 0 ≤ c ∧ c < 1152921504606846976) (h3 : 0 ≤ d ∧ d < 1152921504606846976) (h4 : 0 ≤ e ∧ e < 1152921504606846976) :
    Calls Tryd.prog 78 #[.agg #[.int .u64 a, .int .u64 b, .int .u64 c, .int .u64 d, .int .u64 e]] w fun r w' =>
      (∃ D0 D1 D2 D3 D4, r = .returned (.agg #[.int .u64 D0, .int .u64 D1, .int .u64 D2, .int .u64 D3, .int .u64 D4]) ∧ [D0, D1, D2, D3, D4] = limbs (val5 [a, b, c, d, e] % pp)) ∧ Below w.heap.size w w' := by
  have hVb : 0 ≤ val5 [a, b, c, d, e] ∧ val5 [a, b, c, d, e] < 68719476736 * 1361129467683753853853498429727072845824 := by
    simp only [val5, List.getD_cons_zero, List.getD_cons_succ]
    omega
  have G1 := Shut.mk (fun W => carried_ex a b c d e W (by omega) (by omega) (by omega) (by omega) (by omega))
  generalize val5 [a, b, c, d, e] = V at *
  have k0 := kow5 w a b c d e 83
  have k1 := k0.below (ab (Below.refl _ _) (.cells #[.int .u64 0, .int .u64 0, .int .u64 0, .int .u64 0, .int .u64 0] 83)) (by simp)
  have r1 := kow5 (w.alloc (.cells #[.int .u64 a, .int .u64 b, .int .u64 c, .int .u64 d, .int .u64 e] 83)) 0 0 0 0 0 83
  simp only [World.size_alloc] at r1
  have B1 := ab (ab (Below.refl _ w) (.cells #[.int .u64 a, .int .u64 b, .int .u64 c, .int .u64 d, .int .u64 e] 83)) (.cells #[.int .u64 0, .int .u64 0, .int .u64 0, .int .u64 0, .int .u64 0] 83)
  go_enter Tryd.func78, Tryd.ntmps78
  go_wp2_with fail
  refine (G1.out _).mono ?_
  rintro r w1 ⟨⟨D0, D1, D2, D3, D4, O, rfl, hD⟩, b1⟩
  have s1 := b1.size
  simp only [World.size_alloc] at s1
  have B2 := ac B1 b1
  have k2 := k1.below b1 (by simp; omega)
  have r2 := r1.below b1 (by simp)
  clear k0 k1 r1 B1 b1
  obtain ⟨hW1, hW2, hW3⟩ := cut_val _ _ _ _ _ _ _ hD
  have hV5 := val5_put D0 D1 D2 D3 D4 (5 * O)
  have hV6 := val5_put (D0 + 5 * O) D1 D2 D3 D4 5
  obtain ⟨d0, d1, d2, d3, d4, d5, _⟩ := hD
  have hO : O < 68719476736 := by omega
  obtain ⟨q0, q1, q2, q3, q4, f0, f1, f2, f3, f4⟩ := k2.full5
  go_wp2_with fail
  have k3 := set5 rfl k2 D0 D1 D2 D3 D4
  have b3 := below5 B2 (Nat.le_refl _) (.int .u64 D0) (.int .u64 D1) (.int .u64 D2) (.int .u64 D3) (.int .u64 D4)
  have z3 : w.heap.size + 1 + 1 ≤ (((((w1.setCell ⟨w.heap.size, 0, none⟩ (.int .u64 D0)).setCell ⟨w.heap.size, 1, none⟩ (.int .u64 D1)).setCell ⟨w.heap.size, 2, none⟩ (.int .u64 D2)).setCell ⟨w.heap.size, 3, none⟩ (.int .u64 D3)).setCell ⟨w.heap.size, 4, none⟩ (.int .u64 D4)).heap.size := by simpa using s1
  have r3 : KOw .u64 (((((w1.setCell ⟨w.heap.size, 0, none⟩ (.int .u64 D0)).setCell ⟨w.heap.size, 1, none⟩ (.int .u64 D1)).setCell ⟨w.heap.size, 2, none⟩ (.int .u64 D2)).setCell ⟨w.heap.size, 3, none⟩ (.int .u64 D3)).setCell ⟨w.heap.size, 4, none⟩ (.int .u64 D4)) (w.heap.size + 1) [0, 0, 0, 0, 0] :=
    ((((r2.far (p := ⟨w.heap.size, 0, none⟩) (by simp) _).far (p := ⟨w.heap.size, 1, none⟩) (by simp) _).far (p := ⟨w.heap.size, 2, none⟩) (by simp) _).far (p := ⟨w.heap.size, 3, none⟩) (by simp) _).far (p := ⟨w.heap.size, 4, none⟩) (by simp) _
  have k4 := k3.set_ 0 (by simp) (D0 + 5 * O)
  have b4 := b3.setCell (p := ⟨w.heap.size, 0, none⟩) (Nat.le_refl _) (.int .u64 (D0 + 5 * O))
  have r4 := r3.far (p := ⟨w.heap.size, 0, none⟩) (by simp) (.int .u64 (D0 + 5 * O))
  have z4 : w.heap.size + 1 + 1 ≤ ((((((w1.setCell ⟨w.heap.size, 0, none⟩ (.int .u64 D0)).setCell ⟨w.heap.size, 1, none⟩ (.int .u64 D1)).setCell ⟨w.heap.size, 2, none⟩ (.int .u64 D2)).setCell ⟨w.heap.size, 3, none⟩ (.int .u64 D3)).setCell ⟨w.heap.size, 4, none⟩ (.int .u64 D4)).setCell ⟨w.heap.size, 0, none⟩ (.int .u64 (D0 + 5 * O))).heap.size := by simpa using s1
  simp only [List.set_cons_zero] at k4
  clear k3 b3 z3 r3 k2 r2 q0 q1 q2 q3 q4 f0 f1 f2 f3 f4
  generalize World.setCell _ ⟨w.heap.size, 0, none⟩ (.int .u64 (D0 + 5 * O)) = w4 at *
  refine (plus_any (D0 + 5 * O) D1 D2 D3 D4 5 0 0 0 0 w4 (by omega) (by omega) (by omega) (by omega) (by omega)).mono ?_
  rintro r w5 ⟨rfl, b5⟩
  simp only [Int.add_zero]
  have k5 := k4.below b5 k4.lt
  have r5 := r4.below b5 r4.lt
  have s5 := b5.size
  have B5 := ac b4 b5
  go_wp2_with fail
  refine (carried_ex (D0 + 5 * O + 5) D1 D2 D3 D4 _ (by omega) (by omega) (by omega) (by omega) (by omega)).mono ?_
  rintro r w6 ⟨⟨E0, E1, E2, E3, E4, O2, rfl, hE⟩, b6⟩
  rw [hV6, hV5] at hE
  have k6 := k5.below b6 k5.lt
  have r6 := r5.below b6 r5.lt
  have s6 := b6.size
  have B6 := ac B5 b6
  clear k4 k5 r4 r5 b4 b5 b6 B5
  have l7 := kow5 w6 E0 E1 E2 E3 E4 83
  have k7 := k6.below (ab (Below.refl _ w6) (.cells #[.int .u64 E0, .int .u64 E1, .int .u64 E2, .int .u64 E3, .int .u64 E4] 83)) k6.lt
  have r7 := r6.below (ab (Below.refl _ w6) (.cells #[.int .u64 E0, .int .u64 E1, .int .u64 E2, .int .u64 E3, .int .u64 E4] 83)) r6.lt
  have B7 := ab B6 (.cells #[.int .u64 E0, .int .u64 E1, .int .u64 E2, .int .u64 E3, .int .u64 E4] 83)
  have z6 : w.heap.size + 1 < w6.heap.size := by omega
  obtain ⟨m6, hm6⟩ : ∃ m, w6.heap.size = m := ⟨_, rfl⟩
  go_upto_if 24 with fail
  clear k6 r6 B6 s6 s5 s1 z4
  rw [hm6] at l7 z6
  generalize w6.alloc (.cells #[.int .u64 E0, .int .u64 E1, .int .u64 E2, .int .u64 E3, .int .u64 E4] 83) = w7 at *
  clear hm6
  have hne : ¬ m6 = w.heap.size + 1 := by omega
  have hne2 : ¬ w.heap.size + 1 = m6 := by omega
  obtain ⟨q0, q1, q2, q3, q4, f0, f1, f2, f3, f4⟩ := k7.full5
  obtain ⟨p0, p1, p2, p3, p4, g0, g1, g2, g3, g4⟩ := r7.full5
  by_cases hz : O2 = 0
  · have hb2 : (O2 == 0) = true := by simp [hz]
    go_wp2_with fail
    refine (carried_ex (D0 + 5 * O) D1 D2 D3 D4 _ (by omega) (by omega) (by omega) (by omega) (by omega)).mono ?_
    rintro r w8 ⟨⟨F0, F1, F2, F3, F4, O3, rfl, hF⟩, b8⟩
    rw [hV5] at hF
    have r8 := r7.below b8 r7.lt
    have l8 := l7.below b8 l7.lt
    have B8 := ac B7 b8
    have Hfin := Shut.mk (rest_no V _ _ O O2 E0 E1 E2 E3 E4 O3 F0 F1 F2 F3 F4 hW1 ⟨d5, hO⟩ ⟨hW2, hW3⟩ rfl hE hz hF)
    clear q0 q1 q2 q3 q4 f0 f1 f2 f3 f4 p0 p1 p2 p3 p4 g0 g1 g2 g3 g4 k7 r7 hE hF l7 hW1 hW2 hW3 hV5 hV6
    obtain ⟨q0, q1, q2, q3, q4, f0, f1, f2, f3, f4⟩ := l8.full5
    obtain ⟨p0, p1, p2, p3, p4, g0, g1, g2, g3, g4⟩ := r8.full5
    go_upto_region 6 with fail
    have l9 := set5 rfl l8 F0 F1 F2 F3 F4
    have r9 := ((((r8.far (p := ⟨m6, 0, none⟩) (by simpa using hne2) (.int .u64 F0)).far (p := ⟨m6, 1, none⟩) (by simpa using hne2) (.int .u64 F1)).far (p := ⟨m6, 2, none⟩) (by simpa using hne2) (.int .u64 F2)).far (p := ⟨m6, 3, none⟩) (by simpa using hne2) (.int .u64 F3)).far (p := ⟨m6, 4, none⟩) (by simpa using hne2) (.int .u64 F4)
    have b9 := below5 B8 (show w.heap.size ≤ m6 by omega) (.int .u64 F0) (.int .u64 F1) (.int .u64 F2) (.int .u64 F3) (.int .u64 F4)
    clear r8 l8 q0 q1 q2 q3 q4 f0 f1 f2 f3 f4 p0 p1 p2 p3 p4 g0 g1 g2 g3 g4
    generalize World.setCell _ ⟨m6, 4, none⟩ _ = W8 at *
    obtain ⟨q0, q1, q2, q3, q4, f0, f1, f2, f3, f4⟩ := l9.full5
    obtain ⟨p0, p1, p2, p3, p4, g0, g1, g2, g3, g4⟩ := r9.full5
    go_wp2
    have r10 := set5 rfl r9 F0 F1 F2 F3 F4
    have b10 := below5 b9 (show w.heap.size ≤ w.heap.size + 1 by omega) (.int .u64 F0) (.int .u64 F1) (.int .u64 F2) (.int .u64 F3) (.int .u64 F4)
    clear q0 q1 q2 q3 q4 f0 f1 f2 f3 f4 p0 p1 p2 p3 p4 g0 g1 g2 g3 g4
    generalize World.setCell _ ⟨w.heap.size + 1, 4, none⟩ _ = W9 at *
    obtain ⟨c0, c1, c2, c3, c4, _⟩ := r10.full5
    exact bodyPost_ret (v := .agg #[.int .u64 F0, .int .u64 F1, .int .u64 F2, .int .u64 F3, .int .u64 F4]) (by simp [results, Tryd.results78, go_sem, c0, c1, c2, c3, c4]) rfl ⟨⟨_, _, _, _, _, rfl, Hfin.out⟩, b10⟩
  · have hb2 : (O2 == 0) = false := by simp [hz]
    have Hfin := Shut.mk (rest_yes V _ _ O O2 E0 E1 E2 E3 E4 hW1 ⟨d5, hO⟩ ⟨hW2, hW3⟩ rfl hE hz)
    clear hE hW1 hW2 hW3 hV5 hV6 q0 q1 q2 q3 q4 f0 f1 f2 f3 f4
    obtain ⟨l0, l1, l2, l3, l4, _⟩ := l7.full5
    go_wp2
    have r10 := set5 rfl r7 E0 E1 E2 E3 E4
    have b9 := below5 B7 (show w.heap.size ≤ w.heap.size + 1 by omega) (.int .u64 E0) (.int .u64 E1) (.int .u64 E2) (.int .u64 E3) (.int .u64 E4)
    clear p0 p1 p2 p3 p4 g0 g1 g2 g3 g4
    generalize World.setCell _ ⟨w.heap.size + 1, 4, none⟩ _ = W9 at *
    obtain ⟨c0, c1, c2, c3, c4, _⟩ := r10.full5
    exact bodyPost_ret (v := .agg #[.int .u64 E0, .int .u64 E1, .int .u64 E2, .int .u64 E3, .int .u64 E4]) (by simp [results, Tryd.results78, go_sem, c0, c1, c2, c3, c4]) rfl ⟨⟨_, _, _, _, _, rfl, Hfin.out⟩, b9⟩
end Go.Proofs.YtpoiecdifhkegaaDoor
