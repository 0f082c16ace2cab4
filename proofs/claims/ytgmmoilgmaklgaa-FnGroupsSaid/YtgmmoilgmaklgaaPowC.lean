/- Chapter 4's model: what the prime leaves, products, powers. -/
import Derived.Test.YtgmmoilgmaklgaaBase
import Derived.Test.YtgmmoilgmaklgaaPowM
import Derived.Laws.Bits64b
namespace Go.Proofs.Ytgmmoilgmaklgaa
open Go.RowKit

theorem mask61 (a : Nat) (ha : a < 18446744073709551616) : bits .and .u64 (a : Int) 2305843009213693951 = ((a % 2305843009213693952 : Nat) : Int) := by
  have h := bits_and_u64_nat a 2305843009213693951 ha (by omega)
  have e : a &&& 2305843009213693951 = a % 2305843009213693952 := Nat.and_two_pow_sub_one_eq_mod a 61
  rw [e] at h
  exact h

theorem l4Less_any (n : Nat) (h : n < 9223372036854775808) (w : World) :
    Calls Try.prog 63 #[.int .u64 n] w fun e w' => e = .returned (.int .u64 ((n % PR : Nat) : Int)) ∧ w = w' := by
  obtain ⟨h1, h2, h3⟩ := less_eq n h
  have hm := mask61 n (by omega)
  have hd : (n : Int) / 2305843009213693952 = ((n / 2305843009213693952 : Nat) : Int) := by omega
  obtain ⟨q, hq⟩ : ∃ q, q = n / 2305843009213693952 := ⟨_, rfl⟩
  obtain ⟨r, hr⟩ : ∃ r, r = n % 2305843009213693952 := ⟨_, rfl⟩
  rw [← hq, ← hr] at h1 h2 h3
  rw [← hr] at hm
  rw [← hq] at hd
  have hw : IntKind.u64.wrap ((q : Int) + (r : Int)) = ((q + r : Nat) : Int) := by rw [IntKind.wrap_u64]; omega
  have H2 := Lib.hid h2
  have H3 := Lib.hid h3
  clear h2 h3 hq hr h
  by_cases hc : 2305843009213693951 ≤ q + r
  · have E := Lib.hid (H2.out hc)
    have hw2 : IntKind.u64.wrap (((q + r : Nat) : Int) - 2305843009213693951) = ((q + r - 2305843009213693951 : Nat) : Int) := by rw [IntKind.wrap_u64]; omega
    have hb : decide ((2305843009213693951 : Int) ≤ ((q + r : Nat) : Int)) = true := by simp; omega
    obtain ⟨s, hs⟩ : ∃ s, s = q + r := ⟨_, rfl⟩
    rw [← hs] at hw hw2 hb E
    clear hs hc H2 H3 h1
    go_enter Try.func63, Try.ntmps63
    go_wp2
    go_ret
    rw [E.out]
    exact ⟨rfl, rfl⟩
  · have E := Lib.hid (H3.out (by omega))
    have hb : decide ((2305843009213693951 : Int) ≤ ((q + r : Nat) : Int)) = false := by simp; omega
    obtain ⟨s, hs⟩ : ∃ s, s = q + r := ⟨_, rfl⟩
    rw [← hs] at hw hb E
    clear hs hc H2 H3 h1
    go_enter Try.func63, Try.ntmps63
    go_wp2
    go_ret
    rw [E.out]
    exact ⟨rfl, rfl⟩

theorem mask31 (a : Nat) (ha : a < 18446744073709551616) : bits .and .u64 (a : Int) 2147483647 = ((a % 2147483648 : Nat) : Int) := by
  have h := bits_and_u64_nat a 2147483647 ha (by omega)
  have e : a &&& 2147483647 = a % 2147483648 := Nat.and_two_pow_sub_one_eq_mod a 31
  rw [e] at h
  exact h
theorem mask30 (a : Nat) (ha : a < 18446744073709551616) : bits .and .u64 (a : Int) 1073741823 = ((a % 1073741824 : Nat) : Int) := by
  have h := bits_and_u64_nat a 1073741823 ha (by omega)
  have e : a &&& 1073741823 = a % 1073741824 := Nat.and_two_pow_sub_one_eq_mod a 30
  rw [e] at h
  exact h
theorem wrapU (a : Nat) (ha : a < 18446744073709551616) : IntKind.u64.wrap (a : Int) = (a : Int) := by rw [IntKind.wrap_u64]; omega

set_option maxHeartbeats 1000000 in
theorem l4Mul_any (a b : Nat) (ha : a < PR) (hb : b < PR) (w : World) :
    Calls Try.prog 46 #[.int .u64 a, .int .u64 b] w fun e w' => e = .returned (.int .u64 ((a * b % PR : Nat) : Int)) ∧ w = w' := by
  obtain ⟨b1, b2, b3, b4⟩ := mul_halves a b ha hb
  have He := Lib.hid (mul_eq a b)
  unfold PR at ha hb
  have e1 : (a : Int) / 2147483648 = ((a / 2147483648 : Nat) : Int) := by omega
  have e2 : (b : Int) / 2147483648 = ((b / 2147483648 : Nat) : Int) := by omega
  have e3 := mask31 a (by omega)
  have e4 := mask31 b (by omega)
  have k1 : a / 2147483648 < 2147483648 := by omega
  obtain ⟨p, hp⟩ : ∃ p, p = a / 2147483648 := ⟨_, rfl⟩
  obtain ⟨q, hq⟩ : ∃ q, q = a % 2147483648 := ⟨_, rfl⟩
  obtain ⟨r, hr⟩ : ∃ r, r = b / 2147483648 := ⟨_, rfl⟩
  obtain ⟨s, hs⟩ : ∃ s, s = b % 2147483648 := ⟨_, rfl⟩
  rw [← hp] at e1 b1 b2 k1 He
  rw [← hq] at e3 b3 b4 He
  rw [← hr] at e2 b1 b3 He
  rw [← hs] at e4 b2 b4 He
  clear hp hq hr hs
  have f1 : IntKind.u64.wrap ((p : Int) * (s : Int)) = ((p * s : Nat) : Int) := by rw [← Int.natCast_mul]; exact wrapU _ (by omega)
  have f2 : IntKind.u64.wrap ((q : Int) * (r : Int)) = ((q * r : Nat) : Int) := by rw [← Int.natCast_mul]; exact wrapU _ (by omega)
  have f3 : IntKind.u64.wrap (2 * (p : Int)) = ((2 * p : Nat) : Int) := by rw [IntKind.wrap_u64]; omega
  have f4 : IntKind.u64.wrap (((2 * p : Nat) : Int) * (r : Int)) = ((2 * p * r : Nat) : Int) := by rw [← Int.natCast_mul]; exact wrapU _ (by omega)
  have f5 : IntKind.u64.wrap ((q : Int) * (s : Int)) = ((q * s : Nat) : Int) := by rw [← Int.natCast_mul]; exact wrapU _ (by omega)
  have f6 : IntKind.u64.wrap (((p * s : Nat) : Int) + ((q * r : Nat) : Int)) = ((p * s + q * r : Nat) : Int) := by rw [← Int.natCast_add]; exact wrapU _ (by omega)
  have f7 : ((p * s + q * r : Nat) : Int) / 1073741824 = (((p * s + q * r) / 1073741824 : Nat) : Int) := by omega
  have f8 := mask30 (p * s + q * r) (by omega)
  have f9 : IntKind.u64.wrap ((((p * s + q * r) % 1073741824 : Nat) : Int) * 2147483648) = (((p * s + q * r) % 1073741824 * 2147483648 : Nat) : Int) := by rw [IntKind.wrap_u64]; omega
  have f10 : IntKind.u64.wrap ((((p * s + q * r) / 1073741824 : Nat) : Int) + (((p * s + q * r) % 1073741824 * 2147483648 : Nat) : Int)) = (((p * s + q * r) / 1073741824 + (p * s + q * r) % 1073741824 * 2147483648 : Nat) : Int) := by rw [← Int.natCast_add]; exact wrapU _ (by omega)
  have g2 : (p * s + q * r) / 1073741824 + (p * s + q * r) % 1073741824 * 2147483648 < 9223372036854775808 := by omega
  obtain ⟨t2, ht2⟩ : ∃ t, t = (p * s + q * r) / 1073741824 + (p * s + q * r) % 1073741824 * 2147483648 := ⟨_, rfl⟩
  rw [← ht2] at f10 g2 He
  clear ht2
  obtain ⟨t3, ht3⟩ : ∃ t, t = (p * s + q * r) / 1073741824 := ⟨_, rfl⟩
  obtain ⟨t4, ht4⟩ : ∃ t, t = (p * s + q * r) % 1073741824 := ⟨_, rfl⟩
  rw [← ht3] at f7 f10
  rw [← ht4] at f8 f9 f10
  obtain ⟨t5, ht5⟩ : ∃ t, t = t4 * 2147483648 := ⟨_, rfl⟩
  rw [← ht5] at f9 f10
  clear ht3 ht4 ht5
  obtain ⟨mid, hmid⟩ : ∃ t, t = p * s + q * r := ⟨_, rfl⟩
  rw [← hmid] at f6 f7 f8
  clear hmid
  obtain ⟨t1, ht1⟩ : ∃ t, t = 2 * p * r := ⟨_, rfl⟩
  rw [← ht1] at f4 b1 He
  clear ht1
  obtain ⟨u1, hu1⟩ : ∃ t, t = p * s := ⟨_, rfl⟩
  obtain ⟨u2, hu2⟩ : ∃ t, t = q * r := ⟨_, rfl⟩
  obtain ⟨u3, hu3⟩ : ∃ t, t = q * s := ⟨_, rfl⟩
  obtain ⟨u4, hu4⟩ : ∃ t, t = 2 * p := ⟨_, rfl⟩
  rw [← hu1] at f1 f6
  rw [← hu2] at f2 f6
  rw [← hu3] at f5 b4 He
  rw [← hu4] at f3 f4
  clear hu1 hu2 hu3 hu4 b2 b3 k1
  have m1 : t1 % PR < 2305843009213693951 := Nat.mod_lt _ (by decide)
  have m2 : t2 % PR < 2305843009213693951 := Nat.mod_lt _ (by decide)
  have m3 : (t1 % PR + t2 % PR) % PR < 2305843009213693951 := Nat.mod_lt _ (by decide)
  have m4 : u3 % PR < 2305843009213693951 := Nat.mod_lt _ (by decide)
  have s1 : IntKind.u64.wrap (((t1 % PR : Nat) : Int) + ((t2 % PR : Nat) : Int)) = ((t1 % PR + t2 % PR : Nat) : Int) := by rw [← Int.natCast_add]; exact wrapU _ (by omega)
  have s2 : IntKind.u64.wrap ((((t1 % PR + t2 % PR) % PR : Nat) : Int) + ((u3 % PR : Nat) : Int)) = (((t1 % PR + t2 % PR) % PR + u3 % PR : Nat) : Int) := by rw [← Int.natCast_add]; exact wrapU _ (by omega)
  have m5 : t1 % PR + t2 % PR < 9223372036854775808 := by omega
  have m6 : (t1 % PR + t2 % PR) % PR + u3 % PR < 9223372036854775808 := by omega
  obtain ⟨z6, h6⟩ : ∃ t, t = (t1 % PR + t2 % PR) % PR + u3 % PR := ⟨_, rfl⟩
  obtain ⟨z5, h5⟩ : ∃ t, t = t1 % PR + t2 % PR := ⟨_, rfl⟩
  have c1 := l4Less_any t1 b1
  have c2 := l4Less_any t2 g2
  have c3 := l4Less_any z5 (by omega)
  have c4 := l4Less_any u3 b4
  have c5 := l4Less_any z6 (by omega)
  rw [← h6] at s2 He
  rw [← h5] at s1 s2
  obtain ⟨z1, h1⟩ : ∃ t, t = t1 % PR := ⟨_, rfl⟩
  obtain ⟨z2, h2⟩ : ∃ t, t = t2 % PR := ⟨_, rfl⟩
  obtain ⟨z3, h3⟩ : ∃ t, t = z5 % PR := ⟨_, rfl⟩
  obtain ⟨z4, h4⟩ : ∃ t, t = u3 % PR := ⟨_, rfl⟩
  rw [← h1] at c1 s1
  rw [← h2] at c2 s1
  rw [← h3] at c3 s2
  rw [← h4] at c4 s2
  obtain ⟨z7, h7⟩ : ∃ t, t = z6 % PR := ⟨_, rfl⟩
  rw [← h7] at c5 He
  clear h7 h1 h2 h3 h4 h5 h6 m1 m2 m3 m4 m5 m6
  go_enter Try.func46, Try.ntmps46
  go_wp2_with (go_at_call 63; first | ((with_reducible refine (c1 _).mono ?_); rintro e w' ⟨rfl, rfl⟩) | ((with_reducible refine (c2 _).mono ?_); rintro e w' ⟨rfl, rfl⟩) | ((with_reducible refine (c3 _).mono ?_); rintro e w' ⟨rfl, rfl⟩) | ((with_reducible refine (c4 _).mono ?_); rintro e w' ⟨rfl, rfl⟩) | ((with_reducible refine (c5 _).mono ?_); rintro e w' ⟨rfl, rfl⟩))
  go_ret
  rw [He.out]
  exact ⟨rfl, rfl⟩

set_option maxHeartbeats 1000000 in
/-- powers by squaring -/
theorem l4Pow_any (a n : Nat) (ha : a < PR) (hn : n ≤ 9223372036854775807) (w : World) :
    Calls Try.prog 47 #[.int .u64 a, .int .i64 n] w fun e w' => e = .returned (.int .u64 ((a ^ n % PR : Nat) : Int)) ∧ w = w' := by
  obtain ⟨m, hm⟩ : ∃ m, m = a ^ n % PR := ⟨_, rfl⟩
  rw [← hm]
  have Hm := Lib.hid hm
  clear hm
  go_enter Try.func47, Try.ntmps47
  go_wp2
  go_loop [0, 1, 5] (fun x i o => ∃ y k z : Nat, x = .int .u64 y ∧ y < PR ∧ i = .int .i64 k ∧ k ≤ n ∧ o = .int .u64 z ∧ z < PR ∧ Hid (z * y ^ k % PR = m)) (fun _ i _ => (intOf i).toNat)
  case atStart => exact ⟨a, n, 1, rfl, ha, rfl, Nat.le_refl _, rfl, by decide, show 1 * a ^ n % PR = m by rw [Nat.one_mul, Hm.out]⟩
  case round =>
    obtain ⟨y, k, z, rfl, hy, rfl, hk, rfl, hz, HE⟩ := hrel
    have c1 := l4Mul_any z y hz hy
    have c2 := l4Mul_any y y hy hy
    have h1 : z * y % PR < PR := Nat.mod_lt _ (by decide)
    have h2 : y * y % PR < PR := Nat.mod_lt _ (by decide)
    have o1 := Lib.hid (pow_odd z y k)
    have o2 := Lib.hid (pow_even z y k)
    obtain ⟨u, hu⟩ : ∃ u, u = z * y % PR := ⟨_, rfl⟩
    obtain ⟨v, hv⟩ : ∃ v, v = y * y % PR := ⟨_, rfl⟩
    rw [← hu] at c1 h1 o1
    rw [← hv] at c2 h2 o1 o2
    clear hu hv
    by_cases h0 : 0 < k
    · by_cases hodd : k % 2 = 1
      · have E := Lib.hid (o1.out hodd)
        have hb : ((k : Int) % 2 == 1) = true := by simp; omega
        clear o1 o2 hodd
        go_wp2_with (first | ((with_reducible refine (c1 _).mono ?_); rintro e w' ⟨rfl, rfl⟩) | ((with_reducible refine (c2 _).mono ?_); rintro e w' ⟨rfl, rfl⟩))
        go_round
        case rel => exact ⟨v, k / 2, u, rfl, h2, by go_num, by omega, rfl, h1, E.out.trans HE.out⟩
        case measure => simp [intOf]; omega
      · have E := Lib.hid (o2.out (by omega))
        have hb : ((k : Int) % 2 == 1) = false := by simp; omega
        clear o1 o2 hodd
        go_wp2_with (first | ((with_reducible refine (c1 _).mono ?_); rintro e w' ⟨rfl, rfl⟩) | ((with_reducible refine (c2 _).mono ?_); rintro e w' ⟨rfl, rfl⟩))
        go_round
        case rel => exact ⟨v, k / 2, z, rfl, h2, by go_num, by omega, rfl, hz, E.out.trans HE.out⟩
        case measure => simp [intOf]; omega
    · obtain rfl : k = 0 := by omega
      have E : Hid (m = z) := by
        have := HE.out
        rw [Nat.pow_zero, Nat.mul_one, Nat.mod_eq_of_lt hz] at this
        exact this.symm
      go_wp2
      go_ret
      rw [E.out]
      exact ⟨rfl, rfl⟩

/-- a factor, a secret -/
def facB (a : Int) : Bool := inB a 0 2305843009213693950
def secB (a : Int) : Bool := inB a 1 2305843009213693949
theorem facB_nat {a : Int} (h : facB a = true) : ∃ x : Nat, a = (x : Int) ∧ x < 2305843009213693951 := by
  have : 0 ≤ a ∧ a ≤ 2305843009213693950 := by simpa [facB, inB] using h
  exact ⟨a.toNat, by omega, by omega⟩
theorem secB_nat {a : Int} (h : secB a = true) : ∃ x : Nat, a = (x : Int) ∧ 1 ≤ x ∧ x < 2305843009213693950 := by
  have : 1 ≤ a ∧ a ≤ 2305843009213693949 := by simpa [secB, inB] using h
  exact ⟨a.toNat, by omega, by omega, by omega⟩

theorem l4In_any (a : Int) (w : World) :
    Calls Try.prog 45 #[.int .i64 a] w fun e w' => e = .returned (.bool (facB a)) ∧ w = w' := by
  go_enter Try.func45, Try.ntmps45
  go_wp2_with (go_at_call 62; refine (In_any _ _ _ _).mono ?_; rintro e w' ⟨rfl, rfl⟩)
  go_ret
  exact ⟨rfl, rfl⟩
theorem l4Secret_any (a : Int) (w : World) :
    Calls Try.prog 49 #[.int .i64 a] w fun e w' => e = .returned (.bool (secB a)) ∧ w = w' := by
  go_enter Try.func49, Try.ntmps49
  go_wp2_with (go_at_call 62; refine (In_any _ _ _ _).mono ?_; rintro e w' ⟨rfl, rfl⟩)
  go_ret
  exact ⟨rfl, rfl⟩

/-- what MulMod and PowMod answer -/
def mulC (a b : Int) : Int := if facB a && facB b then 0 else 3
def mulV (a b : Int) : Int := if facB a && facB b then ((a.toNat * b.toNat % PR : Nat) : Int) else 0
def powC (a n : Int) : Int := if facB a && decide (0 ≤ n) then 0 else 3
def powV (a n : Int) : Int := if facB a && decide (0 ≤ n) then ((a.toNat ^ n.toNat % PR : Nat) : Int) else 0

theorem PR_bd (x : Nat) : x % PR < 2305843009213693951 := Nat.mod_lt _ (by decide)

theorem specMulMod_any (a b : Int) (w : World) :
    Calls Try.prog 20 #[.int .i64 a, .int .i64 b] w fun e w' => e = .returned (.agg #[.int .i64 (mulC a b), .int .i64 (mulV a b)]) ∧ Below w.heap.size w w' := by
  by_cases h1 : facB a = true
  · by_cases h2 : facB b = true
    · obtain ⟨x, rfl, hx⟩ := facB_nat h1
      obtain ⟨y, rfl, hy⟩ := facB_nat h2
      have hf : mulC x y = 0 ∧ mulV x y = ((x * y % PR : Nat) : Int) := by simp only [mulC, mulV, h1, h2]; exact ⟨rfl, rfl⟩
      have hb := PR_bd (x * y)
      have c := l4Mul_any x y hx hy
      obtain ⟨z, hz⟩ : ∃ z, z = x * y % PR := ⟨_, rfl⟩
      rw [← hz] at hf hb c
      have Hf := Lib.hid hf
      clear hf hz
      go_enter Try.func20, Try.ntmps20
      go_wp2_with (first | (go_at_call 45; refine (l4In_any _ _).mono ?_; rintro e w' ⟨rfl, rfl⟩) | (go_at_call 46; refine (c _).mono ?_; rintro e w' ⟨rfl, rfl⟩))
      go_returns
      rw [Hf.out.1, Hf.out.2]
      exact ⟨rfl, by go_grown⟩
    · have h3 : facB b = false := by simpa using h2
      have Hf : Hid (mulC a b = 3 ∧ mulV a b = 0) := by show mulC a b = 3 ∧ mulV a b = 0; simp [mulC, mulV, h3]
      clear h2
      go_enter Try.func20, Try.ntmps20
      go_wp2_with (go_at_call 45; refine (l4In_any _ _).mono ?_; rintro e w' ⟨rfl, rfl⟩)
      go_returns
      rw [Hf.out.1, Hf.out.2]
      exact ⟨rfl, by go_grown⟩
  · have h3 : facB a = false := by simpa using h1
    have Hf : Hid (mulC a b = 3 ∧ mulV a b = 0) := by show mulC a b = 3 ∧ mulV a b = 0; simp [mulC, mulV, h3]
    clear h1
    go_enter Try.func20, Try.ntmps20
    go_wp2_with (go_at_call 45; refine (l4In_any _ _).mono ?_; rintro e w' ⟨rfl, rfl⟩)
    go_returns
    rw [Hf.out.1, Hf.out.2]
    exact ⟨rfl, by go_grown⟩

theorem specPowMod_any (a n : Int) (w : World) (hn : n ≤ 9223372036854775807) :
    Calls Try.prog 21 #[.int .i64 a, .int .i64 n] w fun e w' => e = .returned (.agg #[.int .i64 (powC a n), .int .i64 (powV a n)]) ∧ Below w.heap.size w w' := by
  by_cases h1 : facB a = true
  · by_cases h2 : 0 ≤ n
    · obtain ⟨x, rfl, hx⟩ := facB_nat h1
      obtain ⟨y, rfl⟩ : ∃ y : Nat, n = y := ⟨n.toNat, by omega⟩
      have hf : powC x y = 0 ∧ powV x y = ((x ^ y % PR : Nat) : Int) := by simp only [powC, powV, h1, decide_eq_true h2]; exact ⟨rfl, rfl⟩
      have hb := PR_bd (x ^ y)
      have c := l4Pow_any x y hx (by omega)
      obtain ⟨z, hz⟩ : ∃ z, z = x ^ y % PR := ⟨_, rfl⟩
      rw [← hz] at hf hb c
      have Hf := Lib.hid hf
      clear hf hz
      go_enter Try.func21, Try.ntmps21
      go_wp2_with (first | (go_at_call 45; refine (l4In_any _ _).mono ?_; rintro e w' ⟨rfl, rfl⟩) | (go_at_call 47; refine (c _).mono ?_; rintro e w' ⟨rfl, rfl⟩))
      go_returns
      rw [Hf.out.1, Hf.out.2]
      exact ⟨rfl, by go_grown⟩
    · have Hf : Hid (powC a n = 3 ∧ powV a n = 0) := by show powC a n = 3 ∧ powV a n = 0; simp [powC, powV, h2]
      have h4 : n < 0 := by omega
      clear h2
      go_enter Try.func21, Try.ntmps21
      go_wp2_with (go_at_call 45; refine (l4In_any _ _).mono ?_; rintro e w' ⟨rfl, rfl⟩)
      go_returns
      rw [Hf.out.1, Hf.out.2]
      exact ⟨rfl, by go_grown⟩
  · have h3 : facB a = false := by simpa using h1
    have Hf : Hid (powC a n = 3 ∧ powV a n = 0) := by show powC a n = 3 ∧ powV a n = 0; simp [powC, powV, h3]
    clear h1
    go_enter Try.func21, Try.ntmps21
    go_wp2_with (go_at_call 45; refine (l4In_any _ _).mono ?_; rintro e w' ⟨rfl, rfl⟩)
    go_returns
    rw [Hf.out.1, Hf.out.2]
    exact ⟨rfl, by go_grown⟩
end Go.Proofs.Ytgmmoilgmaklgaa
