/- The product of two factors: Mul64, Div64 with nothing above, Rem64, product. -/
import Derived.Test.YtgmmoilgmaklgaaDivP
import Derived.BigQuiet
namespace Go.Proofs.Ytgmmoilgmaklgaa
open Go.RowKit

theorem divN (a : Nat) : (a : Int) / 4294967296 = ((a / 4294967296 : Nat) : Int) := by omega
theorem mulN (a b : Nat) : (a : Int) * (b : Int) = ((a * b : Nat) : Int) := (Int.natCast_mul a b).symm
theorem addN (a b : Nat) : (a : Int) + (b : Int) = ((a + b : Nat) : Int) := (Int.natCast_add a b).symm
theorem wrapM (a : Nat) : IntKind.u64.wrap (a : Int) = ((a % 18446744073709551616 : Nat) : Int) := by rw [IntKind.wrap_u64]; omega

set_option maxHeartbeats 1000000 in
theorem mul64_any (x y : Nat) (hx : x < 18446744073709551616) (hy : y < 18446744073709551616) (w : World) :
    Calls Try.prog 54 #[.int .u64 x, .int .u64 y] w fun e w' => e = .returned (.tuple #[.int .u64 ((x * y / 18446744073709551616 : Nat) : Int), .int .u64 ((x * y % 18446744073709551616 : Nat) : Int)]) ∧ w = w' := by
  obtain ⟨bd, bt, bw, hhi⟩ := Lib.mul64_hi x y hx hy
  have ba := Lib.half_mul_le (a := x / 4294967296) (b := y / 4294967296) (by omega) (by omega)
  have bb := Lib.half_mul_le (a := x / 4294967296) (b := y % 4294967296) (by omega) (by omega)
  have bc := Lib.half_mul_le (a := x % 4294967296) (b := y / 4294967296) (by omega) (by omega)
  have ba' : x / 4294967296 * (y / 4294967296) < 18446744073709551616 := by omega
  have bb' : x / 4294967296 * (y % 4294967296) < 18446744073709551616 := by omega
  have bc' : x % 4294967296 * (y / 4294967296) < 18446744073709551616 := by omega
  have bh1 : x / 4294967296 * (y / 4294967296) + (x / 4294967296 * (y % 4294967296) + x % 4294967296 * (y % 4294967296) / 4294967296) / 4294967296 < 18446744073709551616 := by omega
  have bh : x / 4294967296 * (y / 4294967296) + (x / 4294967296 * (y % 4294967296) + x % 4294967296 * (y % 4294967296) / 4294967296) / 4294967296 + ((x / 4294967296 * (y % 4294967296) + x % 4294967296 * (y % 4294967296) / 4294967296) % 4294967296 + x % 4294967296 * (y / 4294967296)) / 4294967296 < 18446744073709551616 := by omega
  go_enter Try.func54, Try.ntmps54
  go_wp2
  simp only [mask32 x hx, mask32 y hy, divN, mulN, addN, wrapU _ bd, wrapU _ bb', wrapU _ bt, mask32 _ bt, wrapU _ bc', wrapU _ bw, wrapU _ ba', wrapU _ bh1, wrapU _ bh, wrapM (x * y)]
  rw [hhi]
  go_ret2
  exact ⟨rfl, rfl⟩

set_option maxRecDepth 100000 in
set_option maxHeartbeats 1000000 in
theorem div0_any (lo : Nat) (hl : lo < 18446744073709551616) (w : World) :
    Calls Try.prog 65 #[.int .u64 0, .int .u64 lo, .int .u64 2305843009213693951] w fun e w' => (∃ q : Int, e = .returned (.tuple #[.int .u64 q, .int .u64 ((lo % PR : Nat) : Int)])) ∧ ∃ n, w' = w.drewN n := by
  have hm : (lo : Int) % 2305843009213693951 = ((lo % PR : Nat) : Int) := by unfold PR; omega
  have hd : (lo : Int) / 2305843009213693951 = ((lo / 2305843009213693951 : Nat) : Int) := by omega
  obtain ⟨m, em⟩ : ∃ m, m = lo % PR := ⟨_, rfl⟩
  obtain ⟨q, eq⟩ : ∃ q, q = lo / 2305843009213693951 := ⟨_, rfl⟩
  rw [← em] at hm ⊢
  rw [← eq] at hd
  clear em eq
  go_enter Try.func65, Try.ntmps65
  go_wp2_with fail
  go_quiet (fail)
  go_wp2
  go_ret2
  rw [← hm]
  exact ⟨⟨_, rfl⟩, _, rfl⟩

theorem divall_any (hi lo : Nat) (hh : hi < 288230376151711744) (hl : lo < 18446744073709551616) (w : World) :
    Calls Try.prog 65 #[.int .u64 hi, .int .u64 lo, .int .u64 2305843009213693951] w fun e w' => (∃ q : Int, e = .returned (.tuple #[.int .u64 q, .int .u64 (((hi * 18446744073709551616 + lo) % PR : Nat) : Int)])) ∧ ∃ n, w' = w.drewN n := by
  by_cases h : 0 < hi
  · exact div_any hi lo hh h hl w
  · obtain rfl : hi = 0 := by omega
    have := div0_any lo hl w
    rwa [show 0 * 18446744073709551616 + lo = lo by omega]

theorem rem_any (hi lo : Nat) (hh : hi < 288230376151711744) (hl : lo < 18446744073709551616) (w : World) :
    Calls Try.prog 55 #[.int .u64 hi, .int .u64 lo, .int .u64 2305843009213693951] w fun e w' => e = .returned (.int .u64 (((hi * 18446744073709551616 + lo) % PR : Nat) : Int)) ∧ ∃ n, w' = w.drewN n := by
  have c := divall_any hi lo hh hl
  obtain ⟨m, em⟩ : ∃ m, m = (hi * 18446744073709551616 + lo) % PR := ⟨_, rfl⟩
  rw [← em] at c ⊢
  clear em
  have hm : (hi : Int) % 2305843009213693951 = (hi : Int) := by omega
  go_enter Try.func55, Try.ntmps55
  go_wp2_with (go_at_call 65; refine (c _).mono ?_; rintro e w' ⟨⟨q, rfl⟩, n, rfl⟩)
  go_ret
  exact ⟨rfl, _, rfl⟩

theorem product_any (a b : Nat) (ha : a < PR) (hb : b < PR) (w : World) :
    Calls Try.prog 36 #[.int .i64 a, .int .i64 b] w fun e w' => e = .returned (.int .i64 ((a * b % PR : Nat) : Int)) ∧ ∃ n, w' = w.drewN n := by
  have hab : a * b ≤ 2305843009213693950 * 2305843009213693950 := Nat.mul_le_mul (by unfold PR at ha; omega) (by unfold PR at hb; omega)
  unfold PR at ha hb
  have c1 := mul64_any a b (by omega) (by omega)
  have c2 := rem_any (a * b / 18446744073709551616) (a * b % 18446744073709551616) (by omega) (by omega)
  have e : a * b / 18446744073709551616 * 18446744073709551616 + a * b % 18446744073709551616 = a * b := by omega
  rw [e] at c2
  have hm := PR_bd (a * b)
  obtain ⟨m, em⟩ : ∃ m, m = a * b % PR := ⟨_, rfl⟩
  rw [← em] at c2 hm ⊢
  obtain ⟨h, eh⟩ : ∃ m, m = a * b / 18446744073709551616 := ⟨_, rfl⟩
  obtain ⟨l, el⟩ : ∃ m, m = a * b % 18446744073709551616 := ⟨_, rfl⟩
  rw [← eh, ← el] at c1 c2
  clear e hab em eh el
  go_enter Try.func36, Try.ntmps36
  go_wp2_with (first | (go_at_call 54; refine (c1 _).mono ?_; rintro e w' ⟨rfl, rfl⟩) | (go_at_call 55; refine (c2 _).mono ?_; rintro e w' ⟨rfl, n, rfl⟩))
  go_ret
  exact ⟨rfl, _, rfl⟩
end Go.Proofs.Ytgmmoilgmaklgaa
