/- Products of five limbs, of the program. -/
import Derived.Test.YtpoiecdifhkegaaDoorLessP
namespace Go.Proofs.YtpoiecdifhkegaaDoor
open Go.RowKit

theorem mulTo_five (H R : List Int) : ∀ k, (mulTo H R k).length = 5 := fun k => by
  have row : ∀ (L : List Int) (i n : Nat), (mulRow H R L i n).length = L.length := fun L i n => by
    induction n with
    | zero => rfl
    | succ n ih => simp [mulRow, mulStep, ih]
  induction k with
  | zero => rfl
  | succ k ih => rw [mulTo, row, ih]

set_option maxRecDepth 100000 in
set_option maxHeartbeats 4000000 in
theorem times_any (a b c d e r s t u v : Int) (w : World) (h0 : 0 ≤ a ∧ a ≤ 268435456) (h1 : 0 ≤ b ∧ b ≤ 268435456) (h2 : 0 ≤ c ∧ c ≤ 268435456) (h3 : 0 ≤ d ∧ d ≤ 268435456) (h4 : 0 ≤ e ∧ e ≤ 268435456)
    (g0 : 0 ≤ r ∧ r ≤ 67108864) (g1 : 0 ≤ s ∧ s ≤ 67108864) (g2 : 0 ≤ t ∧ t ≤ 67108864) (g3 : 0 ≤ u ∧ u ≤ 67108864) (g4 : 0 ≤ v ∧ v ≤ 67108864) :
    Calls Tryd.prog 62 #[.agg #[.int .u64 a, .int .u64 b, .int .u64 c, .int .u64 d, .int .u64 e], .agg #[.int .u64 r, .int .u64 s, .int .u64 t, .int .u64 u, .int .u64 v]] w fun x w' =>
      (∃ D0 D1 D2 D3 D4, x = .returned (.agg #[.int .u64 D0, .int .u64 D1, .int .u64 D2, .int .u64 D3, .int .u64 D4]) ∧ [D0, D1, D2, D3, D4] = limbs (val5 [a, b, c, d, e] * val5 [r, s, t, u, v] % pp)) ∧ Below w.heap.size w w' := by
  have hH : Upto [a, b, c, d, e] 268435456 := ⟨rfl, fun i => by rcases i with _ | _ | _ | _ | _ | i <;> simp <;> omega⟩
  have hR : Upto [r, s, t, u, v] 67108864 := ⟨rfl, fun i => by rcases i with _ | _ | _ | _ | _ | i <;> simp <;> omega⟩
  have hp : ∀ i k, 0 ≤ [a, b, c, d, e].getD i 0 * [r, s, t, u, v].getD k 0 ∧ [a, b, c, d, e].getD i 0 * [r, s, t, u, v].getD k 0 ≤ 18014398509481984 := fun i k => mul_pos (hH.bd i) (hR.bd k)
  have Hp := Shut.mk hp
  have Hu := Shut.mk (fun i => upto_to hp i)
  have HHb := Shut.mk hH.bd
  have Hall : Shut (∃ P0 P1 P2 P3 P4 : Int, mulTo [a, b, c, d, e] [r, s, t, u, v] 5 = [P0, P1, P2, P3, P4] ∧ (0 ≤ P0 ∧ P0 < 1152921504606846976) ∧ (0 ≤ P1 ∧ P1 < 1152921504606846976) ∧ (0 ≤ P2 ∧ P2 < 1152921504606846976) ∧ (0 ≤ P3 ∧ P3 < 1152921504606846976) ∧ (0 ≤ P4 ∧ P4 < 1152921504606846976) ∧ val5 [P0, P1, P2, P3, P4] % pp = val5 [a, b, c, d, e] * val5 [r, s, t, u, v] % pp) := by
    refine ⟨_, _, _, _, _, mulTo_eq a b c d e r s t u v, ?_⟩
    obtain ⟨q, hq⟩ := mul_val a b c d e r s t u v
    have m0 := fun k => hp 0 k
    have m1 := fun k => hp 1 k
    have m2 := fun k => hp 2 k
    have m3 := fun k => hp 3 k
    have m4 := fun k => hp 4 k
    have b0 := m0 0; have b1 := m0 1; have b2 := m0 2; have b3 := m0 3; have b4 := m0 4
    have c0 := m1 0; have c1 := m1 1; have c2 := m1 2; have c3 := m1 3; have c4 := m1 4
    have d0 := m2 0; have d1 := m2 1; have d2 := m2 2; have d3 := m2 3; have d4 := m2 4
    have e0 := m3 0; have e1 := m3 1; have e2 := m3 2; have e3 := m3 3; have e4 := m3 4
    have f0 := m4 0; have f1 := m4 1; have f2 := m4 2; have f3 := m4 3; have f4 := m4 4
    simp only [List.getD_cons_zero, List.getD_cons_succ] at b0 b1 b2 b3 b4 c0 c1 c2 c3 c4 d0 d1 d2 d3 d4 e0 e1 e2 e3 e4 f0 f1 f2 f3 f4
    refine ⟨by omega, by omega, by omega, by omega, by omega, ?_⟩
    rw [hq, Int.add_mul_emod_self_left]
  have hin : ∀ i : Nat, i < 5 → ∀ W : World, (Instr.index 83 (.agg #[.int .u64 a, .int .u64 b, .int .u64 c, .int .u64 d, .int .u64 e]) (.int .i64 (i : Int))).run Tryd.prog W = .ok (.int .u64 ([a, b, c, d, e].getD i 0)) W := fun i hi W => idx5 _ i _ (by
    have e5 : i = 0 ∨ i = 1 ∨ i = 2 ∨ i = 3 ∨ i = 4 := by omega
    rcases e5 with rfl | rfl | rfl | rfl | rfl <;> rfl) hi W
  have hio : ∀ i : Nat, i < 5 → ∀ W : World, (Instr.index 83 (.agg #[.int .u64 r, .int .u64 s, .int .u64 t, .int .u64 u, .int .u64 v]) (.int .i64 (i : Int))).run Tryd.prog W = .ok (.int .u64 ([r, s, t, u, v].getD i 0)) W := fun i hi W => idx5 _ i _ (by
    have e5 : i = 0 ∨ i = 1 ∨ i = 2 ∨ i = 3 ∨ i = 4 := by omega
    rcases e5 with rfl | rfl | rfl | rfl | rfl <;> rfl) hi W
  have HIN := Shut.mk hin
  have HIO := Shut.mk hio
  have o1 := kow5 (w.alloc (.cells #[.int .u64 a, .int .u64 b, .int .u64 c, .int .u64 d, .int .u64 e] 83)) r s t u v 83
  have p2 := kow5 ((w.alloc (.cells #[.int .u64 a, .int .u64 b, .int .u64 c, .int .u64 d, .int .u64 e] 83)).alloc (.cells #[.int .u64 r, .int .u64 s, .int .u64 t, .int .u64 u, .int .u64 v] 83)) 0 0 0 0 0 83
  have p3 := kow5 (((w.alloc (.cells #[.int .u64 a, .int .u64 b, .int .u64 c, .int .u64 d, .int .u64 e] 83)).alloc (.cells #[.int .u64 r, .int .u64 s, .int .u64 t, .int .u64 u, .int .u64 v] 83)).alloc (.cells #[.int .u64 0, .int .u64 0, .int .u64 0, .int .u64 0, .int .u64 0] 83)) 0 0 0 0 0 83
  have B3 := ab (ab (ab (ab (Below.refl _ w) (.cells #[.int .u64 a, .int .u64 b, .int .u64 c, .int .u64 d, .int .u64 e] 83)) (.cells #[.int .u64 r, .int .u64 s, .int .u64 t, .int .u64 u, .int .u64 v] 83)) (.cells #[.int .u64 0, .int .u64 0, .int .u64 0, .int .u64 0, .int .u64 0] 83)) (.cells #[.int .u64 0, .int .u64 0, .int .u64 0, .int .u64 0, .int .u64 0] 83)
  have o3 := (o1.below (ab (Below.refl _ _) (.cells #[.int .u64 0, .int .u64 0, .int .u64 0, .int .u64 0, .int .u64 0] 83)) (by simp)).below (ab (Below.refl _ _) (.cells #[.int .u64 0, .int .u64 0, .int .u64 0, .int .u64 0, .int .u64 0] 83)) (by simp)
  have r3 := p2.below (ab (Below.refl _ _) (.cells #[.int .u64 0, .int .u64 0, .int .u64 0, .int .u64 0, .int .u64 0] 83)) (by simp)
  simp only [World.size_alloc] at o3 r3 p3
  clear hin hio hp hH hR o1 p2
  go_enter Tryd.func62, Tryd.ntmps62
  go_wp2
  generalize hW1 : (((w.alloc (.cells #[.int .u64 a, .int .u64 b, .int .u64 c, .int .u64 d, .int .u64 e] 83)).alloc (.cells #[.int .u64 r, .int .u64 s, .int .u64 t, .int .u64 u, .int .u64 v] 83)).alloc (.cells #[.int .u64 0, .int .u64 0, .int .u64 0, .int .u64 0, .int .u64 0] 83)).alloc (.cells #[.int .u64 0, .int .u64 0, .int .u64 0, .int .u64 0, .int .u64 0] 83) = W1 at *
  have z1 : w.heap.size + 4 ≤ W1.heap.size := by rw [← hW1]; simp
  clear hW1
  have p4 : KOw .u64 W1 (w.heap.size + 1 + 1 + 1) (mulTo [a, b, c, d, e] [r, s, t, u, v] 0) := p3
  go_loopw [11] (fun i wr => ∃ k : Nat, k ≤ 5 ∧ i = .int .i64 (k : Int) ∧ KOw .u64 wr (w.heap.size + 1 + 1 + 1) (mulTo [a, b, c, d, e] [r, s, t, u, v] k) ∧ But (w.heap.size + 1 + 1 + 1) W1.heap.size W1 wr) (fun i _ => 5 - (intOf i).toNat)
  case atStart => exact ⟨0, by omega, rfl, p4, But.refl _ _ _⟩
  case round =>
    clear p3 p4
    obtain ⟨i, hi, rfl, hv, hbut⟩ := hrel
    have o4 := o3.keep (hbut.block _ (by omega) (by omega)) hbut.size
    by_cases hlt : i < 5
    · obtain ⟨wh, rfl⟩ : ∃ x, x = wr := ⟨_, rfl⟩
      have Hn : Shut (mulTo [a, b, c, d, e] [r, s, t, u, v] (i + 1) = mulRow [a, b, c, d, e] [r, s, t, u, v] (mulTo [a, b, c, d, e] [r, s, t, u, v] i) i 5) := ⟨rfl⟩
      have hu := Hu.out i
      have hni := HIN.out i hlt
      generalize mulTo [a, b, c, d, e] [r, s, t, u, v] i = L at *
      have Hr : Shut (∀ k, Upto (mulRow [a, b, c, d, e] [r, s, t, u, v] L i k) (450359962737049600 * (i : Int) + 90071992547409920 * (k : Int))) := ⟨fun k => upto_row hu Hp.out i k⟩
      have Hst : Shut (∀ k, mulRow [a, b, c, d, e] [r, s, t, u, v] L i (k + 1) = mulStep [a, b, c, d, e] [r, s, t, u, v] (mulRow [a, b, c, d, e] [r, s, t, u, v] L i k) i k) := ⟨fun _ => rfl⟩
      have hv0 : KOw .u64 wh (w.heap.size + 1 + 1 + 1) (mulRow [a, b, c, d, e] [r, s, t, u, v] L i 0) := hv
      have Hx := Shut.mk (fun k => Hp.out i k)
      have hX0 := HHb.out i
      obtain ⟨X, hX⟩ : ∃ X, X = [a, b, c, d, e].getD i 0 := ⟨_, rfl⟩
      rw [← hX] at hni hX0
      have HX := Shut.mk hX
      clear hu hv hX
      obtain ⟨q0, q1, q2, q3, q4, _⟩ := o4.full5
      have hi6 : (i : Int) < 5 := by omega
      have hd : decide ((i : Int) < 5) = true := by simp; omega
      go_wp2
      clear q0 q1 q2 q3 q4
      go_loopw [16] (fun j wq => ∃ k : Nat, k ≤ 5 ∧ j = .int .i64 (k : Int) ∧ KOw .u64 wq (w.heap.size + 1 + 1 + 1) (mulRow [a, b, c, d, e] [r, s, t, u, v] L i k) ∧ But (w.heap.size + 1 + 1 + 1) W1.heap.size W1 wq) (fun i _ => 5 - (intOf i).toNat)
      case atStart => exact ⟨0, by omega, rfl, hv0, hbut⟩
      case round =>
        clear hv0 hbut
        obtain ⟨k, hk5, rfl, hv, hbut⟩ := hrel
        by_cases hlk : k < 5
        · have hs := Hst.out k
          have hu := Hr.out k
          have hnk := HIO.out k hlk
          generalize mulRow [a, b, c, d, e] [r, s, t, u, v] L i k = L2 at *
          have hx := Hx.out k
          have hb := hu.bd ((i + k) % 5)
          have q0 := hv.cell ((i + k) % 5) (by rw [hu.len]; omega)
          have f0 := hv.frozen ((i + k) % 5)
          unfold mulStep mulTerm at hs
          rw [← HX.out] at hs hx
          have hset := fun x => hv.set_ ((i + k) % 5) (by rw [hu.len]; omega) x
          clear hu
          generalize [r, s, t, u, v].getD k 0 = Y at *
          generalize L2.getD ((i + k) % 5) 0 = Zc at *
          obtain ⟨P, hP⟩ : ∃ P, X * Y = P := ⟨_, rfl⟩
          rw [hP] at hx hs
          have hxy : IntKind.u64.wrap (X * Y) = P := by rw [hP]; exact IntWalk.u64_in _ (by omega)
          have h5y : IntKind.u64.wrap (5 * X * Y) = 5 * P := by rw [Int.mul_assoc, hP]; exact IntWalk.u64_in _ (by omega)
          have h5x : IntKind.u64.wrap (5 * X) = 5 * X := IntWalk.u64_in _ (by omega)
          clear hP
          have Hs := Shut.mk hs
          clear hs Hr Hst Hp Hu Hn
          have hk6 : (k : Int) < 5 := by omega
          by_cases h5 : 5 ≤ i + k
          · have hm : (i + k) % 5 = i + k - 5 := by omega
            rw [if_pos h5, hm] at Hs
            rw [hm] at q0 f0
            rw [show (i + k) % 5 = i + k - 5 from hm] at hset
            obtain ⟨m, hm2⟩ : ∃ m, i + k = m + 5 := ⟨i + k - 5, by omega⟩
            have hm3 : i + k - 5 = m := by omega
            rw [hm3] at q0 f0 hset Hs
            have hm4 : (i : Int) + (k : Int) = (m : Int) + 5 := by omega
            have hik : ¬ (i : Int) + (k : Int) < 5 := by omega
            have hm5 : (m : Int) < 5 := by omega
            clear hm hm2 hm3
            go_wp2
            exact ⟨⟨k + 1, by omega, by go_num, KOw.of_eq Hs.out (hset _), hbut.setCell _ _⟩, by simp [intOf]; omega⟩
          · have hm : (i + k) % 5 = i + k := by omega
            rw [if_neg h5, hm] at Hs
            rw [hm] at q0 f0 hset
            obtain ⟨m, hm2⟩ : ∃ m, i + k = m := ⟨i + k, rfl⟩
            rw [hm2] at q0 f0 hset Hs
            have hm4 : (i : Int) + (k : Int) = (m : Int) := by omega
            have hik : (m : Int) < 5 := by omega
            clear hm
            go_wp2
            exact ⟨⟨k + 1, by omega, by go_num, KOw.of_eq Hs.out (hset _), hbut.setCell _ _⟩, by simp [intOf]; omega⟩
        · obtain rfl : k = 5 := by omega
          rw [← Hn.out] at hv
          go_wp2
          exact ⟨⟨i + 1, by omega, by go_num, hv, hbut⟩, by simp [intOf]; omega⟩
    · obtain rfl : i = 5 := by omega
      obtain ⟨P0, P1, P2, P3, P4, hP, b0, b1, b2, b3, b4, hval⟩ := Hall.out
      rw [hP] at hv
      have Bw : Below w.heap.size w wr := B3.trans (hbut.below (by omega) (by omega))
      have r4 := r3.keep (hbut.block _ (by omega) (by omega)) hbut.size
      have G := Shut.mk (fun W => least_any P0 P1 P2 P3 P4 W b0 b1 b2 b3 b4)
      rw [hval] at G
      obtain ⟨q0, q1, q2, q3, q4, f0, f1, f2, f3, f4⟩ := hv.full5
      clear hP hval Hall Hu Hp hv hbut o3 o4 HIN HIO HHb r3 B3
      go_wp2_with fail
      refine (G.out _).mono ?_
      rintro x w2 ⟨⟨D0, D1, D2, D3, D4, rfl, hD⟩, bb⟩
      have r5 := r4.below bb r4.lt
      have B5 := ac Bw bb
      have HD := Shut.mk hD
      clear hD G q0 q1 q2 q3 q4 f0 f1 f2 f3 f4
      obtain ⟨p0, p1, p2, p3, p4, g0, g1, g2, g3, g4⟩ := r5.full5
      go_wp2
      have r10 := set5 rfl r5 D0 D1 D2 D3 D4
      have b9 := below5 B5 (show w.heap.size ≤ w.heap.size + 1 + 1 by omega) (.int .u64 D0) (.int .u64 D1) (.int .u64 D2) (.int .u64 D3) (.int .u64 D4)
      clear p0 p1 p2 p3 p4 g0 g1 g2 g3 g4
      generalize World.setCell _ ⟨w.heap.size + 1 + 1, 4, none⟩ _ = W9 at *
      obtain ⟨c0, c1, c2, c3, c4, _⟩ := r10.full5
      exact bodyPost_ret (v := .agg #[.int .u64 D0, .int .u64 D1, .int .u64 D2, .int .u64 D3, .int .u64 D4]) (by simp [results, Tryd.results62, go_sem, c0, c1, c2, c3, c4]) rfl ⟨⟨_, _, _, _, _, rfl, HD.out⟩, b9⟩
end Go.Proofs.YtpoiecdifhkegaaDoor
