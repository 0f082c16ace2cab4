/- The sixteen lowest bytes of limbs and of sixteen bytes together, of the model. -/
import Derived.Test.YtpoiecdifhkegaaDoorLimbsC
import Derived.Test.YtpoiecdifhkegaaDoorBase
namespace Go.Proofs.YtpoiecdifhkegaaDoor
open Go.RowKit

theorem and255 (x : Int) (h0 : 0 ≤ x) (h1 : x < 18446744073709551616) : bits .and .u64 x 255 = x % 256 := by
  rw [u64_and x 255 h0 h1 (by omega) (by omega)]
  rw [show (255 : Int).toNat = 2 ^ 8 - 1 from rfl, Nat.and_two_pow_sub_one_eq_mod]
  omega
theorem or64 (k : Nat) (x y : Int) (hx0 : 0 ≤ x) (hx1 : x < 2 ^ k) (hk : k ≤ 26) (hy0 : 0 ≤ y) (hy1 : y < 67108864) : bits .or .u64 x (y * 2 ^ k) = x + y * 2 ^ k := by
  have hp : (2 : Int) ^ k ≤ 67108864 := (show ∀ k : Nat, k ≤ 26 → (2 : Int) ^ k ≤ 67108864 by decide) k hk
  have hp0 : (0 : Int) < 2 ^ k := Int.pow_pos (by omega)
  have hm : 0 ≤ y * 2 ^ k := Int.mul_nonneg hy0 (by omega)
  have hm2 : y * 2 ^ k ≤ 67108864 * 67108864 := Int.mul_le_mul (by omega) hp (by omega) (by omega)
  rw [u64_or x (y * 2 ^ k) hx0 (by omega) hm (by omega)]
  obtain ⟨a, rfl⟩ := Int.eq_ofNat_of_zero_le hx0
  obtain ⟨b, rfl⟩ := Int.eq_ofNat_of_zero_le hy0
  have e : ((b : Int) * 2 ^ k).toNat = b * 2 ^ k := by
    have : ((b * 2 ^ k : Nat) : Int) = (b : Int) * 2 ^ k := by push_cast; rfl
    omega
  have ha : a < 2 ^ k := by
    have : ((2 ^ k : Nat) : Int) = (2 : Int) ^ k := by push_cast; rfl
    omega
  rw [e, show ((a : Int)).toNat = a from rfl, Nat.or_comm, nat_join k (b * 2 ^ k) a (Nat.mul_mod_left _ _) ha]
  push_cast
  omega
theorem lo_cons (a : Int) (l : List Int) : lo (a :: l) = lo l * 256 + a := by unfold lo; rw [List.reverse_cons, hi_snoc]
theorem lo_digit (l : List Int) (h : By l) (i : Nat) (hi : i < l.length) : lo l / 256 ^ i % 256 = l.getD i 0 := by
  induction l generalizing i with
  | nil => cases hi
  | cons a l ih =>
    have ha := h a (List.mem_cons_self)
    rcases i with _ | i
    · rw [lo_cons]; simp; omega
    · rw [lo_cons, Int.pow_succ', ← Int.ediv_ediv_of_nonneg (by omega : (0 : Int) ≤ 256), show (lo l * 256 + a) / 256 = lo l by omega]
      have := ih (fun x hx => h x (List.mem_cons_of_mem _ hx)) i (by simpa using hi)
      simpa using this
/-- what is carried into place i when N and S are put together -/
def carryAt (N S : Int) (i : Nat) : Int := (N + S) / 256 ^ i - N / 256 ^ i - S / 256 ^ i
theorem carry_step (N S : Int) (i : Nat) : (N / 256 ^ i % 256 + S / 256 ^ i % 256 + carryAt N S i) % 256 = (N + S) / 256 ^ i % 256 ∧ (N / 256 ^ i % 256 + S / 256 ^ i % 256 + carryAt N S i) / 256 = carryAt N S (i + 1) := by
  have hd : ∀ x : Int, x / 256 ^ (i + 1) = x / 256 ^ i / 256 := fun x => by
    rw [Int.pow_succ, ← Int.ediv_ediv_of_nonneg (Int.pow_nonneg (by omega))]
  unfold carryAt
  rw [hd, hd, hd]
  generalize (N + S) / 256 ^ i = m
  generalize N / 256 ^ i = a
  generalize S / 256 ^ i = b
  omega
theorem carry_bd (N S : Int) (i : Nat) (hi : i ≤ 16) : 0 ≤ carryAt N S i ∧ carryAt N S i ≤ 1 := by
  have e : i = 0 ∨ i = 1 ∨ i = 2 ∨ i = 3 ∨ i = 4 ∨ i = 5 ∨ i = 6 ∨ i = 7 ∨ i = 8 ∨ i = 9 ∨ i = 10 ∨ i = 11 ∨ i = 12 ∨ i = 13 ∨ i = 14 ∨ i = 15 ∨ i = 16 := by omega
  unfold carryAt
  rcases e with rfl | rfl | rfl | rfl | rfl | rfl | rfl | rfl | rfl | rfl | rfl | rfl | rfl | rfl | rfl | rfl | rfl
  all_goals
    simp
    omega
theorem lowOf_succ' (n : Int) (k : Nat) : lowOf n (k + 1) = lowOf n k ++ [n / 256 ^ k % 256] := by simp [lowOf, List.range_succ]

set_option maxRecDepth 100000 in
set_option maxHeartbeats 8000000 in
theorem l3Out_any (g c : Nat) (N : Int) (A : Option Addr) (c2 : Nat) (s : List Int) (w : World) (h : KOw .u64 w g (limbs N)) (hN0 : 0 ≤ N) (hN1 : N < 1361129467683753853853498429727072845824) (hs : Bs w A 16 s) :
    Calls Tryd.prog 71 #[.slice (some ⟨g, 0, none⟩) 5 c, .slice A 16 c2] w fun e w' => (∃ A' c', e = .returned (.slice A' 16 c') ∧ Row w' w.heap.size (.slice A' 16 c') (lowOf (N + lo s) 16)) ∧ Below w.heap.size w w' := by
  have Hc : Shut (∀ i, i < 16 → (N / 256 ^ i % 256 + s.getD i 0 + carryAt N (lo s) i) % 256 = (N + lo s) / 256 ^ i % 256 ∧ (N / 256 ^ i % 256 + s.getD i 0 + carryAt N (lo s) i) / 256 = carryAt N (lo s) (i + 1)) := ⟨fun i hi => by
    have := carry_step N (lo s) i
    rwa [lo_digit s hs.byte i (by rw [hs.len]; exact hi)] at this⟩
  have Hb : Shut (∀ i, i ≤ 16 → 0 ≤ carryAt N (lo s) i ∧ carryAt N (lo s) i ≤ 1) := ⟨fun i hi => carry_bd N (lo s) i hi⟩
  have H0 : Shut (carryAt N (lo s) 0 = 0) := ⟨by simp [carryAt]; omega⟩
  obtain ⟨p0, p1, p2, p3, p4, hp, b0, b1, b2, b3, b4, hNp⟩ : ∃ p0 p1 p2 p3 p4, limbs N = [p0, p1, p2, p3, p4] ∧ (0 ≤ p0 ∧ p0 < 67108864) ∧ (0 ≤ p1 ∧ p1 < 67108864) ∧ (0 ≤ p2 ∧ p2 < 67108864) ∧ (0 ≤ p3 ∧ p3 < 67108864) ∧ (0 ≤ p4 ∧ p4 < 67108864) ∧ N = p0 + p1 * 67108864 + p2 * 4503599627370496 + p3 * 302231454903657293676544 + p4 * 20282409603651670423947251286016 := by
    refine ⟨_, _, _, _, _, rfl, ?_⟩
    omega
  rw [hp] at h
  have HN := Shut.mk hNp
  clear hp hNp
  obtain ⟨b, off, rfl, hbs, _⟩ := hs.at_ (by omega)
  go_enter Tryd.func71, Tryd.ntmps71
  go_wp2
  go_loopw [5, 6, 7] (fun v q i wr => ∃ k : Nat, k ≤ 16 ∧ i = .int .i64 (k : Int) ∧ q = .int .u64 (carryAt N (lo s) k) ∧ Row wr w.heap.size v (lowOf (N + lo s) k) ∧ Below w.heap.size w wr) (fun _ _ i _ => 16 - (intOf i).toNat)
  case atStart => exact ⟨0, by omega, rfl, by rw [H0.out], Row.empty w _ (Nat.le_refl _) rfl, ab (Below.refl _ _) _⟩
  case round =>
    obtain ⟨k, hk, rfl, rfl, hrow, hbel⟩ := hrel
    have hlen := Shut.mk (lowOf_len (N + lo s) k)
    obtain ⟨A3, cq, rfl, _⟩ := hrow.ow hlen.out
    by_cases hlt : k < 16
    · obtain ⟨b', off', X, e, hbs', hX0, hX1, HX, hx⟩ := hs.get hlt
      injection e with e
      injection e with e1 e2
      subst e1 e2
      have hx' := (hbel.cell (p := ⟨b, off + k, none⟩) hbs).trans hx
      have hv := h.below hbel h.lt
      have hc := Hc.out k hlt
      rw [HX.out] at hc
      have hb := Hb.out k hk
      have Hs := Shut.mk (lowOf_succ' (N + lo s) k)
      rw [← hc.1] at Hs
      have hc2 := hc.2
      have hsz := hbel.size
      clear hx Hc Hb H0 hc
      have c0 := hv.cell 0 (by simp)
      have c1 := hv.cell 1 (by simp)
      have c2 := hv.cell 2 (by simp)
      have c3 := hv.cell 3 (by simp)
      have c4 := hv.cell 4 (by simp)
      simp only [List.getD_cons_zero, List.getD_cons_succ] at c0 c1 c2 c3 c4
      generalize carryAt N (lo s) k = C at *
      have hD : ∃ D, N / 256 ^ k % 256 = D := ⟨_, rfl⟩
      obtain ⟨D, hD⟩ := hD
      rw [hD] at hc2 Hs
      have hD0 : 0 ≤ D ∧ D < 256 := by omega
      have Hc2 := Shut.mk hc2
      clear hc2
      have e : k = 0 ∨ k = 1 ∨ k = 2 ∨ k = 3 ∨ k = 4 ∨ k = 5 ∨ k = 6 ∨ k = 7 ∨ k = 8 ∨ k = 9 ∨ k = 10 ∨ k = 11 ∨ k = 12 ∨ k = 13 ∨ k = 14 ∨ k = 15 := by omega
      rcases e with rfl | rfl | rfl | rfl | rfl | rfl | rfl | rfl | rfl | rfl | rfl | rfl | rfl | rfl | rfl | rfl
      · have hd : bits .and .u64 (p0) 255 = D := by
          rw [and255 _ (by omega) (by omega), ← hD, HN.out]
          omega
        simp only [Nat.add_zero] at hx'
        clear HN
        go_wp2_with (at_builtin; refine wpList_row_append rfl _ _ rfl _ w.heap.size (.slice A3 0 cq) _ rfl (hrow.alloc _) (by simp; omega) ⟨wr.heap.size, 0, none⟩ 1 ((D + X + C) % 256) rfl (cell_one _ _ _) (by omega) (by omega) (by rw [hlen.out]; omega) ?_; intro v2 w2 hr2 hb2 hs2)
        rw [← Hs.out] at hr2
        exact ⟨⟨0 + 1, by omega, rfl, congrArg (Value.int .u64) Hc2.out, hr2, (ab hbel _).trans hb2⟩, by simp [intOf]⟩
      · have hd : bits .and .u64 (p0 / 256) 255 = D := by
          rw [and255 _ (by omega) (by omega), ← hD, HN.out]
          omega
        clear HN
        go_wp2_with (at_builtin; refine wpList_row_append rfl _ _ rfl _ w.heap.size (.slice A3 1 cq) _ rfl (hrow.alloc _) (by simp; omega) ⟨wr.heap.size, 0, none⟩ 1 ((D + X + C) % 256) rfl (cell_one _ _ _) (by omega) (by omega) (by rw [hlen.out]; omega) ?_; intro v2 w2 hr2 hb2 hs2)
        rw [← Hs.out] at hr2
        exact ⟨⟨1 + 1, by omega, rfl, congrArg (Value.int .u64) Hc2.out, hr2, (ab hbel _).trans hb2⟩, by simp [intOf]⟩
      · have hd : bits .and .u64 (p0 / 65536) 255 = D := by
          rw [and255 _ (by omega) (by omega), ← hD, HN.out]
          omega
        clear HN
        go_wp2_with (at_builtin; refine wpList_row_append rfl _ _ rfl _ w.heap.size (.slice A3 2 cq) _ rfl (hrow.alloc _) (by simp; omega) ⟨wr.heap.size, 0, none⟩ 1 ((D + X + C) % 256) rfl (cell_one _ _ _) (by omega) (by omega) (by rw [hlen.out]; omega) ?_; intro v2 w2 hr2 hb2 hs2)
        rw [← Hs.out] at hr2
        exact ⟨⟨2 + 1, by omega, rfl, congrArg (Value.int .u64) Hc2.out, hr2, (ab hbel _).trans hb2⟩, by simp [intOf]⟩
      · have ho : bits .or .u64 (p0 / 16777216) (p1 * 4) = p0 / 16777216 + p1 * 4 := or64 2 _ _ (by omega) (by omega) (by omega) (by omega) (by omega)
        have hd : bits .and .u64 (p0 / 16777216 + p1 * 4) 255 = D := by
          rw [and255 _ (by omega) (by omega), ← hD, HN.out]
          omega
        clear HN
        go_wp2_with (at_builtin; refine wpList_row_append rfl _ _ rfl _ w.heap.size (.slice A3 3 cq) _ rfl (hrow.alloc _) (by simp; omega) ⟨wr.heap.size, 0, none⟩ 1 ((D + X + C) % 256) rfl (cell_one _ _ _) (by omega) (by omega) (by rw [hlen.out]; omega) ?_; intro v2 w2 hr2 hb2 hs2)
        rw [← Hs.out] at hr2
        exact ⟨⟨3 + 1, by omega, rfl, congrArg (Value.int .u64) Hc2.out, hr2, (ab hbel _).trans hb2⟩, by simp [intOf]⟩
      · have hd : bits .and .u64 (p1 / 64) 255 = D := by
          rw [and255 _ (by omega) (by omega), ← hD, HN.out]
          omega
        clear HN
        go_wp2_with (at_builtin; refine wpList_row_append rfl _ _ rfl _ w.heap.size (.slice A3 4 cq) _ rfl (hrow.alloc _) (by simp; omega) ⟨wr.heap.size, 0, none⟩ 1 ((D + X + C) % 256) rfl (cell_one _ _ _) (by omega) (by omega) (by rw [hlen.out]; omega) ?_; intro v2 w2 hr2 hb2 hs2)
        rw [← Hs.out] at hr2
        exact ⟨⟨4 + 1, by omega, rfl, congrArg (Value.int .u64) Hc2.out, hr2, (ab hbel _).trans hb2⟩, by simp [intOf]⟩
      · have hd : bits .and .u64 (p1 / 16384) 255 = D := by
          rw [and255 _ (by omega) (by omega), ← hD, HN.out]
          omega
        clear HN
        go_wp2_with (at_builtin; refine wpList_row_append rfl _ _ rfl _ w.heap.size (.slice A3 5 cq) _ rfl (hrow.alloc _) (by simp; omega) ⟨wr.heap.size, 0, none⟩ 1 ((D + X + C) % 256) rfl (cell_one _ _ _) (by omega) (by omega) (by rw [hlen.out]; omega) ?_; intro v2 w2 hr2 hb2 hs2)
        rw [← Hs.out] at hr2
        exact ⟨⟨5 + 1, by omega, rfl, congrArg (Value.int .u64) Hc2.out, hr2, (ab hbel _).trans hb2⟩, by simp [intOf]⟩
      · have ho : bits .or .u64 (p1 / 4194304) (p2 * 16) = p1 / 4194304 + p2 * 16 := or64 4 _ _ (by omega) (by omega) (by omega) (by omega) (by omega)
        have hd : bits .and .u64 (p1 / 4194304 + p2 * 16) 255 = D := by
          rw [and255 _ (by omega) (by omega), ← hD, HN.out]
          omega
        clear HN
        go_wp2_with (at_builtin; refine wpList_row_append rfl _ _ rfl _ w.heap.size (.slice A3 6 cq) _ rfl (hrow.alloc _) (by simp; omega) ⟨wr.heap.size, 0, none⟩ 1 ((D + X + C) % 256) rfl (cell_one _ _ _) (by omega) (by omega) (by rw [hlen.out]; omega) ?_; intro v2 w2 hr2 hb2 hs2)
        rw [← Hs.out] at hr2
        exact ⟨⟨6 + 1, by omega, rfl, congrArg (Value.int .u64) Hc2.out, hr2, (ab hbel _).trans hb2⟩, by simp [intOf]⟩
      · have hd : bits .and .u64 (p2 / 16) 255 = D := by
          rw [and255 _ (by omega) (by omega), ← hD, HN.out]
          omega
        clear HN
        go_wp2_with (at_builtin; refine wpList_row_append rfl _ _ rfl _ w.heap.size (.slice A3 7 cq) _ rfl (hrow.alloc _) (by simp; omega) ⟨wr.heap.size, 0, none⟩ 1 ((D + X + C) % 256) rfl (cell_one _ _ _) (by omega) (by omega) (by rw [hlen.out]; omega) ?_; intro v2 w2 hr2 hb2 hs2)
        rw [← Hs.out] at hr2
        exact ⟨⟨7 + 1, by omega, rfl, congrArg (Value.int .u64) Hc2.out, hr2, (ab hbel _).trans hb2⟩, by simp [intOf]⟩
      · have hd : bits .and .u64 (p2 / 4096) 255 = D := by
          rw [and255 _ (by omega) (by omega), ← hD, HN.out]
          omega
        clear HN
        go_wp2_with (at_builtin; refine wpList_row_append rfl _ _ rfl _ w.heap.size (.slice A3 8 cq) _ rfl (hrow.alloc _) (by simp; omega) ⟨wr.heap.size, 0, none⟩ 1 ((D + X + C) % 256) rfl (cell_one _ _ _) (by omega) (by omega) (by rw [hlen.out]; omega) ?_; intro v2 w2 hr2 hb2 hs2)
        rw [← Hs.out] at hr2
        exact ⟨⟨8 + 1, by omega, rfl, congrArg (Value.int .u64) Hc2.out, hr2, (ab hbel _).trans hb2⟩, by simp [intOf]⟩
      · have ho : bits .or .u64 (p2 / 1048576) (p3 * 64) = p2 / 1048576 + p3 * 64 := or64 6 _ _ (by omega) (by omega) (by omega) (by omega) (by omega)
        have hd : bits .and .u64 (p2 / 1048576 + p3 * 64) 255 = D := by
          rw [and255 _ (by omega) (by omega), ← hD, HN.out]
          omega
        clear HN
        go_wp2_with (at_builtin; refine wpList_row_append rfl _ _ rfl _ w.heap.size (.slice A3 9 cq) _ rfl (hrow.alloc _) (by simp; omega) ⟨wr.heap.size, 0, none⟩ 1 ((D + X + C) % 256) rfl (cell_one _ _ _) (by omega) (by omega) (by rw [hlen.out]; omega) ?_; intro v2 w2 hr2 hb2 hs2)
        rw [← Hs.out] at hr2
        exact ⟨⟨9 + 1, by omega, rfl, congrArg (Value.int .u64) Hc2.out, hr2, (ab hbel _).trans hb2⟩, by simp [intOf]⟩
      · have hd : bits .and .u64 (p3 / 4) 255 = D := by
          rw [and255 _ (by omega) (by omega), ← hD, HN.out]
          omega
        clear HN
        go_wp2_with (at_builtin; refine wpList_row_append rfl _ _ rfl _ w.heap.size (.slice A3 10 cq) _ rfl (hrow.alloc _) (by simp; omega) ⟨wr.heap.size, 0, none⟩ 1 ((D + X + C) % 256) rfl (cell_one _ _ _) (by omega) (by omega) (by rw [hlen.out]; omega) ?_; intro v2 w2 hr2 hb2 hs2)
        rw [← Hs.out] at hr2
        exact ⟨⟨10 + 1, by omega, rfl, congrArg (Value.int .u64) Hc2.out, hr2, (ab hbel _).trans hb2⟩, by simp [intOf]⟩
      · have hd : bits .and .u64 (p3 / 1024) 255 = D := by
          rw [and255 _ (by omega) (by omega), ← hD, HN.out]
          omega
        clear HN
        go_wp2_with (at_builtin; refine wpList_row_append rfl _ _ rfl _ w.heap.size (.slice A3 11 cq) _ rfl (hrow.alloc _) (by simp; omega) ⟨wr.heap.size, 0, none⟩ 1 ((D + X + C) % 256) rfl (cell_one _ _ _) (by omega) (by omega) (by rw [hlen.out]; omega) ?_; intro v2 w2 hr2 hb2 hs2)
        rw [← Hs.out] at hr2
        exact ⟨⟨11 + 1, by omega, rfl, congrArg (Value.int .u64) Hc2.out, hr2, (ab hbel _).trans hb2⟩, by simp [intOf]⟩
      · have hd : bits .and .u64 (p3 / 262144) 255 = D := by
          rw [and255 _ (by omega) (by omega), ← hD, HN.out]
          omega
        clear HN
        go_wp2_with (at_builtin; refine wpList_row_append rfl _ _ rfl _ w.heap.size (.slice A3 12 cq) _ rfl (hrow.alloc _) (by simp; omega) ⟨wr.heap.size, 0, none⟩ 1 ((D + X + C) % 256) rfl (cell_one _ _ _) (by omega) (by omega) (by rw [hlen.out]; omega) ?_; intro v2 w2 hr2 hb2 hs2)
        rw [← Hs.out] at hr2
        exact ⟨⟨12 + 1, by omega, rfl, congrArg (Value.int .u64) Hc2.out, hr2, (ab hbel _).trans hb2⟩, by simp [intOf]⟩
      · have hd : bits .and .u64 (p4) 255 = D := by
          rw [and255 _ (by omega) (by omega), ← hD, HN.out]
          omega
        clear HN
        go_wp2_with (at_builtin; refine wpList_row_append rfl _ _ rfl _ w.heap.size (.slice A3 13 cq) _ rfl (hrow.alloc _) (by simp; omega) ⟨wr.heap.size, 0, none⟩ 1 ((D + X + C) % 256) rfl (cell_one _ _ _) (by omega) (by omega) (by rw [hlen.out]; omega) ?_; intro v2 w2 hr2 hb2 hs2)
        rw [← Hs.out] at hr2
        exact ⟨⟨13 + 1, by omega, rfl, congrArg (Value.int .u64) Hc2.out, hr2, (ab hbel _).trans hb2⟩, by simp [intOf]⟩
      · have hd : bits .and .u64 (p4 / 256) 255 = D := by
          rw [and255 _ (by omega) (by omega), ← hD, HN.out]
          omega
        clear HN
        go_wp2_with (at_builtin; refine wpList_row_append rfl _ _ rfl _ w.heap.size (.slice A3 14 cq) _ rfl (hrow.alloc _) (by simp; omega) ⟨wr.heap.size, 0, none⟩ 1 ((D + X + C) % 256) rfl (cell_one _ _ _) (by omega) (by omega) (by rw [hlen.out]; omega) ?_; intro v2 w2 hr2 hb2 hs2)
        rw [← Hs.out] at hr2
        exact ⟨⟨14 + 1, by omega, rfl, congrArg (Value.int .u64) Hc2.out, hr2, (ab hbel _).trans hb2⟩, by simp [intOf]⟩
      · have hd : bits .and .u64 (p4 / 65536) 255 = D := by
          rw [and255 _ (by omega) (by omega), ← hD, HN.out]
          omega
        clear HN
        go_wp2_with (at_builtin; refine wpList_row_append rfl _ _ rfl _ w.heap.size (.slice A3 15 cq) _ rfl (hrow.alloc _) (by simp; omega) ⟨wr.heap.size, 0, none⟩ 1 ((D + X + C) % 256) rfl (cell_one _ _ _) (by omega) (by omega) (by rw [hlen.out]; omega) ?_; intro v2 w2 hr2 hb2 hs2)
        rw [← Hs.out] at hr2
        exact ⟨⟨15 + 1, by omega, rfl, congrArg (Value.int .u64) Hc2.out, hr2, (ab hbel _).trans hb2⟩, by simp [intOf]⟩
    · obtain rfl : k = 16 := by omega
      go_wp2
      go_ret
      exact ⟨⟨_, _, rfl, hrow⟩, hbel⟩
end Go.Proofs.YtpoiecdifhkegaaDoor
