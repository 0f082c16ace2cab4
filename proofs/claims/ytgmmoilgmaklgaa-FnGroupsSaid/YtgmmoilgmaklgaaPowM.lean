/- Powers by the prime of 61 bits: plain mathematics. -/
namespace Go.Proofs.Ytgmmoilgmaklgaa

abbrev PR : Nat := 2305843009213693951

theorem less_eq (n : Nat) (h : n < 9223372036854775808) :
    n / 2305843009213693952 + n % 2305843009213693952 < 18446744073709551616 ∧
    (2305843009213693951 ≤ n / 2305843009213693952 + n % 2305843009213693952 → n / 2305843009213693952 + n % 2305843009213693952 - 2305843009213693951 = n % PR) ∧
    (n / 2305843009213693952 + n % 2305843009213693952 < 2305843009213693951 → n / 2305843009213693952 + n % 2305843009213693952 = n % PR) := by
  unfold PR; omega

theorem half_bd {a b A B : Nat} (ha : a ≤ A) (hb : b ≤ B) : a * b ≤ A * B := Nat.mul_le_mul ha hb

/-- two factors in halves of 31 bits -/
theorem mul_halves (a b : Nat) (ha : a < PR) (hb : b < PR) :
    2 * (a / 2147483648) * (b / 2147483648) < 9223372036854775808 ∧
    a / 2147483648 * (b % 2147483648) < 4611686018427387904 ∧ a % 2147483648 * (b / 2147483648) < 4611686018427387904 ∧
    a % 2147483648 * (b % 2147483648) < 9223372036854775808 := by
  unfold PR at ha hb
  have h1 := half_bd (a := a / 2147483648) (b := b / 2147483648) (A := 1073741823) (B := 1073741823) (by omega) (by omega)
  have h2 := half_bd (a := a / 2147483648) (b := b % 2147483648) (A := 1073741823) (B := 2147483647) (by omega) (by omega)
  have h3 := half_bd (a := a % 2147483648) (b := b / 2147483648) (A := 2147483647) (B := 1073741823) (by omega) (by omega)
  have h4 := half_bd (a := a % 2147483648) (b := b % 2147483648) (A := 2147483647) (B := 2147483647) (by omega) (by omega)
  rw [Nat.mul_assoc]
  omega

theorem mul_eq (a b : Nat) :
    ((2 * (a / 2147483648) * (b / 2147483648) % PR +
      ((a / 2147483648 * (b % 2147483648) + a % 2147483648 * (b / 2147483648)) / 1073741824 + (a / 2147483648 * (b % 2147483648) + a % 2147483648 * (b / 2147483648)) % 1073741824 * 2147483648) % PR) % PR +
      a % 2147483648 * (b % 2147483648) % PR) % PR = a * b % PR := by
  have e : a * b = (2147483648 * (a / 2147483648) + a % 2147483648) * (2147483648 * (b / 2147483648) + b % 2147483648) := by rw [Nat.div_add_mod, Nat.div_add_mod]
  rw [e]
  generalize a / 2147483648 = p
  generalize a % 2147483648 = q
  generalize b / 2147483648 = r
  generalize b % 2147483648 = s
  have e2 : (2147483648 * p + q) * (2147483648 * r + s) = 4611686018427387904 * (p * r) + 2147483648 * (p * s + q * r) + q * s := by
    simp only [Nat.add_mul, Nat.mul_add]
    rw [show 2147483648 * p * (2147483648 * r) = 4611686018427387904 * (p * r) by rw [Nat.mul_mul_mul_comm], show 2147483648 * p * s = 2147483648 * (p * s) by rw [Nat.mul_assoc], show q * (2147483648 * r) = 2147483648 * (q * r) by rw [Nat.mul_left_comm]]
    omega
  rw [e2, Nat.mul_assoc]
  generalize p * r = u
  generalize p * s + q * r = v
  generalize q * s = t
  unfold PR
  omega

theorem pow_half (a n : Nat) : a ^ n = (a * a) ^ (n / 2) * a ^ (n % 2) := by
  rw [← Nat.pow_two, ← Nat.pow_mul, ← Nat.pow_add, Nat.div_add_mod]

theorem pow_mod_step (o a n : Nat) : (o * (a * a % PR) ^ (n / 2)) % PR = (o * (a * a) ^ (n / 2)) % PR := by
  rw [Nat.mul_mod, ← Nat.pow_mod, ← Nat.mul_mod]

/-- a round of squaring: the whole that is left to come -/
theorem pow_odd (o a n : Nat) (h : n % 2 = 1) : (o * a % PR * (a * a % PR) ^ (n / 2)) % PR = (o * a ^ n) % PR := by
  rw [pow_mod_step, Nat.mul_mod, Nat.mod_mod, ← Nat.mul_mod, pow_half a n, h, Nat.pow_one, Nat.mul_assoc, Nat.mul_comm a]
theorem pow_even (o a n : Nat) (h : n % 2 = 0) : (o * (a * a % PR) ^ (n / 2)) % PR = (o * a ^ n) % PR := by
  rw [pow_mod_step, pow_half a n, h, Nat.pow_zero, Nat.mul_one]

/-! a word of two words by the prime: long division in base 2^32 (the divisor, shifted by 3, is 2^64 - 8) -/
abbrev Y : Nat := 18446744073709551608
theorem div_lo (hi lo : Nat) (hh : hi < 288230376151711744) (hl : lo < 18446744073709551616) :
    hi * 8 % 18446744073709551616 + lo / 2305843009213693952 = hi * 8 + lo / 2305843009213693952 ∧ hi * 8 + lo / 2305843009213693952 < 2305843009213693952 := by omega

/-- one digit: what the estimate keeps in each round -/
structure Digit (u n q r : Nat) : Prop where
  sum : q * 4294967295 + r = u
  top : u * 4294967296 + n < (q + 1) * Y
theorem Digit.first (u n : Nat) (hn : n < 4294967296) : Digit u n (u / 4294967295) (u - u / 4294967295 * 4294967295) := by
  exact ⟨by omega, by unfold Y; omega⟩
theorem Digit.down {u n q r : Nat} (h : Digit u n q r) (hq : 4294967296 * r + n < q * 4294967288 ) : 1 ≤ q ∧ Digit u n (q - 1) (4294967295 + r) := by
  have h1 := h.sum
  have h2 := h.top
  unfold Y at h2
  have hq1 : 1 ≤ q := by omega
  clear h2 h
  obtain ⟨k, rfl⟩ : ∃ k, q = k + 1 := ⟨q - 1, by omega⟩
  refine ⟨hq1, ?_⟩
  rw [Nat.add_sub_cancel]
  constructor
  · rw [← Nat.add_assoc]; omega
  · unfold Y; omega
theorem Digit.big {u n q r : Nat} (h : Digit u n q r) (hu : u < Y) (hn : n < 4294967296) (hq : 4294967296 ≤ q) : 1 ≤ q ∧ Digit u n (q - 1) (4294967295 + r) := by
  have h1 := h.sum
  have h2 := h.top
  unfold Y at hu h2
  have hq1 : 1 ≤ q := by omega
  clear h2 h
  obtain ⟨k, rfl⟩ : ∃ k, q = k + 1 := ⟨q - 1, by omega⟩
  refine ⟨hq1, ?_⟩
  rw [Nat.add_sub_cancel]
  constructor
  · rw [← Nat.add_assoc]; omega
  · unfold Y; omega
theorem Digit.done {u n q r : Nat} (h : Digit u n q r) (hq : q * 4294967288 ≤ 4294967296 * r + n) : q * Y ≤ u * 4294967296 + n ∧ u * 4294967296 + n - q * Y < Y := by
  obtain ⟨h1, h2⟩ := h
  unfold Y at h2 ⊢
  omega
theorem Digit.q_le {u n q r : Nat} (h : Digit u n q r) (hu : u < Y) : q ≤ 4294967296 := by
  obtain ⟨h1, h2⟩ := h
  unfold Y at hu
  omega

theorem two_digits (hi lo q1 q0 : Nat)
    (h1 : q1 * Y ≤ (hi * 8 + lo / 2305843009213693952) * 4294967296 + lo * 8 % 18446744073709551616 / 4294967296)
    (h0 : q0 * Y ≤ ((hi * 8 + lo / 2305843009213693952) * 4294967296 + lo * 8 % 18446744073709551616 / 4294967296 - q1 * Y) * 4294967296 + lo * 8 % 18446744073709551616 % 4294967296)
    (h2 : ((hi * 8 + lo / 2305843009213693952) * 4294967296 + lo * 8 % 18446744073709551616 / 4294967296 - q1 * Y) * 4294967296 + lo * 8 % 18446744073709551616 % 4294967296 - q0 * Y < Y) :
    (((hi * 8 + lo / 2305843009213693952) * 4294967296 + lo * 8 % 18446744073709551616 / 4294967296 - q1 * Y) * 4294967296 + lo * 8 % 18446744073709551616 % 4294967296 - q0 * Y) / 8 = (hi * 18446744073709551616 + lo) % PR := by
  unfold Y PR at *
  omega
end Go.Proofs.Ytgmmoilgmaklgaa
