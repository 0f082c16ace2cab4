/- math/bits: Mul64; LeadingZeros64 at the prime; Div64 and Rem64 by the prime. -/
import Derived.Test.YtgmmoilgmaklgaaPowC
import Derived.Lib.Mul64
import Derived.Deep.Cut
namespace Go.Proofs.Ytgmmoilgmaklgaa
open Go.RowKit

set_option maxRecDepth 100000 in
set_option maxHeartbeats 4000000 in
theorem len_any (w : World) :
    Calls Try.prog 72 #[.int .u64 2305843009213693951] w fun e w' => e = .returned (.int .i64 61) ∧ w = w' := by
  go_enter Try.func72, Try.ntmps72
  go_wp2
  go_ret
  exact ⟨by kernel_rfl, rfl⟩
theorem lead_any (w : World) :
    Calls Try.prog 71 #[.int .u64 2305843009213693951] w fun e w' => e = .returned (.int .i64 3) ∧ w = w' := by
  go_enter Try.func71, Try.ntmps71
  go_wp2_with (go_at_call 72; refine (len_any _).mono ?_; rintro e w' ⟨rfl, rfl⟩)
  go_ret
  exact ⟨rfl, rfl⟩

theorem or3 (a b : Nat) (ha : a < 2305843009213693952) (hb : b < 8) : bits .or .u64 ((a : Int) * 8) (b : Int) = ((a * 8 + b : Nat) : Int) := by
  have h := bits_or_u64_nat (a * 8) b (by omega) (by omega)
  have e := Nat.two_pow_add_eq_or_of_lt (i := 3) (show b < 2 ^ 3 by omega) a
  rw [show 2 ^ 3 * a = a * 8 by omega] at e
  rw [← e] at h
  exact h
theorem maskP : bits .and .u64 18446744073709551608 4294967295 = 4294967288 := by kernel_rfl
theorem mask32 (a : Nat) (ha : a < 18446744073709551616) : bits .and .u64 (a : Int) 4294967295 = ((a % 4294967296 : Nat) : Int) := by
  have h := bits_and_u64_nat a 4294967295 ha (by omega)
  have e : a &&& 4294967295 = a % 4294967296 := Nat.and_two_pow_sub_one_eq_mod a 32
  rw [e] at h
  exact h


structure DivEnd (u n1 n0 m : Nat) : Prop where
  out : ∀ q1 q0 : Nat, q1 * Y ≤ u * 4294967296 + n1 → q0 * Y ≤ (u * 4294967296 + n1 - q1 * Y) * 4294967296 + n0 → (u * 4294967296 + n1 - q1 * Y) * 4294967296 + n0 - q0 * Y < Y → ((u * 4294967296 + n1 - q1 * Y) * 4294967296 + n0 - q0 * Y) / 8 = m
theorem divEnd (hi lo : Nat) : DivEnd (hi * 8 + lo / 2305843009213693952) (lo * 8 % 18446744073709551616 / 4294967296) (lo * 8 % 18446744073709551616 % 4294967296) ((hi * 18446744073709551616 + lo) % PR) :=
  ⟨fun q1 q0 h1 h0 h2 => two_digits hi lo q1 q0 h1 h0 h2⟩
structure MidEnd (v n0 m : Nat) : Prop where
  out : ∀ q0 : Nat, q0 * Y ≤ v * 4294967296 + n0 → v * 4294967296 + n0 - q0 * Y < Y → (v * 4294967296 + n0 - q0 * Y) / 8 = m

/-- what is left of two words and a half once a digit is known -/
theorem left (u n q : Nat) (h : q * Y ≤ u * 4294967296 + n ∧ u * 4294967296 + n - q * Y < Y) :
    ∃ A B C v : Nat, IntKind.u64.wrap ((u : Int) * 4294967296) = (A : Int) ∧ IntKind.u64.wrap ((A : Int) + (n : Int)) = (B : Int) ∧ IntKind.u64.wrap ((q : Int) * 18446744073709551608) = (C : Int) ∧ IntKind.u64.wrap ((B : Int) - (C : Int)) = (v : Int) ∧ v = u * 4294967296 + n - q * Y := by
  unfold Y at *
  refine ⟨u * 4294967296 % 18446744073709551616, (u * 4294967296 + n) % 18446744073709551616, q * 18446744073709551608 % 18446744073709551616, u * 4294967296 + n - q * 18446744073709551608, ?_, ?_, ?_, ?_, rfl⟩
  · rw [IntKind.wrap_u64]; omega
  · rw [IntKind.wrap_u64]; omega
  · rw [IntKind.wrap_u64]; omega
  · rw [IntKind.wrap_u64]; omega
/-- how a digit's estimate begins -/
theorem begun (u n : Nat) (hn : n < 4294967296) (hu : u < Y) :
    ∃ q r : Nat, (u : Int) / 4294967295 = (q : Int) ∧ (u : Int) - (q : Int) * 4294967295 = (r : Int) ∧ 0 ≤ (u : Int) - (q : Int) * 4294967295 ∧ r < 4294967296 ∧ q ≤ 4294967296 ∧ Digit u n q r := by
  refine ⟨u / 4294967295, u - u / 4294967295 * 4294967295, by omega, by omega, by omega, by omega, Digit.q_le (Digit.first u n hn) hu, Digit.first u n hn⟩

set_option maxRecDepth 100000 in
set_option maxHeartbeats 4000000 in
theorem div_any (hi lo : Nat) (hh : hi < 288230376151711744) (h0 : 0 < hi) (hl : lo < 18446744073709551616) (w : World) :
    Calls Try.prog 65 #[.int .u64 hi, .int .u64 lo, .int .u64 2305843009213693951] w fun e w' => (∃ q : Int, e = .returned (.tuple #[.int .u64 q, .int .u64 (((hi * 18446744073709551616 + lo) % PR : Nat) : Int)])) ∧ ∃ n, w' = w.drewN n := by
  have HE := divEnd hi lo
  obtain ⟨m, hm⟩ : ∃ m, m = (hi * 18446744073709551616 + lo) % PR := ⟨_, rfl⟩
  rw [← hm] at HE ⊢
  have hu : hi * 8 + lo / 2305843009213693952 < 2305843009213693952 := by omega
  have hne : ((hi : Int) == 0) = false := by simp; omega
  have hle : decide ((2305843009213693951 : Int) ≤ (hi : Int)) = false := by simp; omega
  have hp := maskP
  have ho := or3 hi (lo / 2305843009213693952) (by omega) (by omega)
  have hs : (lo : Int) / 2305843009213693952 = ((lo / 2305843009213693952 : Nat) : Int) := by omega
  have ht : IntKind.u64.wrap ((lo : Int) * 8) = ((lo * 8 % 18446744073709551616 : Nat) : Int) := by rw [IntKind.wrap_u64]; omega
  have ht1 : ((lo * 8 % 18446744073709551616 : Nat) : Int) / 4294967296 = ((lo * 8 % 18446744073709551616 / 4294967296 : Nat) : Int) := by omega
  have ht0 := mask32 (lo * 8 % 18446744073709551616) (by omega)
  obtain ⟨n1, e1⟩ : ∃ n, n = lo * 8 % 18446744073709551616 / 4294967296 := ⟨_, rfl⟩
  obtain ⟨n0, e0⟩ : ∃ n, n = lo * 8 % 18446744073709551616 % 4294967296 := ⟨_, rfl⟩
  have b1 : n1 < 4294967296 := by omega
  have b0 : n0 < 4294967296 := by omega
  rw [← e1, ← e0] at HE
  rw [← e1] at ht1
  rw [← e0] at ht0
  obtain ⟨t, et⟩ : ∃ t, t = lo * 8 % 18446744073709551616 := ⟨_, rfl⟩
  rw [← et] at ht ht1 ht0
  obtain ⟨u, eu⟩ : ∃ u, u = hi * 8 + lo / 2305843009213693952 := ⟨_, rfl⟩
  rw [← eu] at HE hu ho
  obtain ⟨s, es⟩ : ∃ s, s = lo / 2305843009213693952 := ⟨_, rfl⟩
  rw [← es] at hs ho
  obtain ⟨q, r, hq, hr, hqp, hrl, hql, hd⟩ := begun u n1 b1 (by unfold Y; omega)
  have HD := Lib.hid hd
  clear hd e1 e0 et eu es hm
  go_enter Try.func65, Try.ntmps65
  go_wp2_with fail
  refine (lead_any _).mono ?_
  rintro e w' ⟨rfl, rfl⟩
  go_wp2
  go_loop [15, 16] (fun x y => ∃ q r : Nat, x = .int .u64 q ∧ y = .int .u64 r ∧ q ≤ 4294967296 ∧ r < 4294967296 ∧ Hid (Digit u n1 q r)) (fun x _ => (intOf x).toNat)
  case atStart => exact ⟨_, _, rfl, rfl, hql, hrl, HD⟩
  case round =>
    clear HD hrl hql
    obtain ⟨q, r, rfl, rfl, hql, hrl, HD⟩ := hrel
    have d := Digit.down HD.out
    have b := Digit.big HD.out (by unfold Y; omega) b1
    have dn := Digit.done HD.out
    by_cases hq1 : 4294967296 ≤ q
    · obtain ⟨bq, B⟩ := b hq1
      have c1 : decide ((4294967296 : Int) ≤ (q : Int)) = true := by simp; omega
      have B := Lib.hid B
      obtain ⟨k, hk⟩ : ∃ k, k = q - 1 := ⟨_, rfl⟩
      obtain ⟨s, hs⟩ : ∃ s, s = 4294967295 + r := ⟨_, rfl⟩
      have e1 : (q : Int) - 1 = (k : Int) := by omega
      have e2 : (r : Int) + 4294967295 = (s : Int) := by omega
      rw [← hk, ← hs] at B
      have hkq : k < q := by omega
      have hkl : k ≤ 4294967295 := by omega
      clear d b dn hk
      by_cases hr1 : 1 ≤ r
      · have c2 : decide ((4294967296 : Int) ≤ (s : Int)) = true := by simp; omega
        have dn := Digit.done B.out (by omega)
        clear hq1 hr1 hs B
        obtain ⟨A, B, C, v, g1, g2, g3, g4, g5⟩ := left _ _ _ dn
        have HE := MidEnd.mk (fun q0 => HE.out _ q0 dn.1)
        have hv : v < 18446744073709551608 := by rw [g5]; exact dn.2
        rw [← g5] at HE
        obtain ⟨q, r, hq, hr, hqp, hrl, hql, hd⟩ := begun v n0 b0 hv
        have HD := Lib.hid hd
        clear hd dn g5
        go_wp2
        go_loop [18, 16] (fun x y => ∃ q r : Nat, x = .int .u64 q ∧ y = .int .u64 r ∧ q ≤ 4294967296 ∧ r < 4294967296 ∧ Hid (Digit v n0 q r)) (fun x _ => (intOf x).toNat)
        case atStart => exact ⟨_, _, rfl, rfl, hql, hrl, HD⟩
        case round =>
          clear HD hrl hql
          obtain ⟨q, r, rfl, rfl, hql, hrl, HD⟩ := hrel
          have d := Digit.down HD.out
          have b := Digit.big HD.out hv b0
          have dn := Digit.done HD.out
          by_cases hq1 : 4294967296 ≤ q
          · obtain ⟨bq, B⟩ := b hq1
            have c1 : decide ((4294967296 : Int) ≤ (q : Int)) = true := by simp; omega
            have B := Lib.hid B
            obtain ⟨k, hk⟩ : ∃ k, k = q - 1 := ⟨_, rfl⟩
            obtain ⟨s, hs⟩ : ∃ s, s = 4294967295 + r := ⟨_, rfl⟩
            have e1 : (q : Int) - 1 = (k : Int) := by omega
            have e2 : (r : Int) + 4294967295 = (s : Int) := by omega
            rw [← hk, ← hs] at B
            have hkq : k < q := by omega
            have hkl : k ≤ 4294967295 := by omega
            clear d b dn hk
            by_cases hr1 : 1 ≤ r
            · have c2 : decide ((4294967296 : Int) ≤ (s : Int)) = true := by simp; omega
              have dn := Digit.done B.out (by omega)
              clear hq1 hr1 hs B
              obtain ⟨A', B', C', v', g1', g2', g3', g4', g5'⟩ := left _ _ _ dn
              have HF := Lib.hid (HE.out _ dn.1 dn.2)
              rw [← g5'] at HF
              have g6' : (v' : Int) / 8 = (m : Int) := by have := HF.out; omega
              clear dn g5' HE HF
              go_wp2
              go_ret2
              exact ⟨⟨_, rfl⟩, 0, rfl⟩
            · have c2 : decide ((4294967296 : Int) ≤ (s : Int)) = false := by simp; omega
              have hsl : s < 4294967296 := by omega
              clear hq1 hr1 hs
              go_wp2
              go_round
              case rel => exact ⟨k, s, rfl, rfl, by omega, hsl, B⟩
              case measure => simp [intOf]; omega
          · have c1 : decide ((4294967296 : Int) ≤ (q : Int)) = false := by simp; omega
            have f1 : IntKind.u64.wrap ((q : Int) * 4294967288) = ((q * 4294967288 : Nat) : Int) := by rw [IntKind.wrap_u64]; omega
            have f2 : IntKind.u64.wrap (4294967296 * (r : Int)) = ((4294967296 * r : Nat) : Int) := by rw [IntKind.wrap_u64]; omega
            have f3 : IntKind.u64.wrap (((4294967296 * r : Nat) : Int) + (n0 : Int)) = ((4294967296 * r + n0 : Nat) : Int) := by rw [IntKind.wrap_u64]; omega
            obtain ⟨x1, hx1⟩ : ∃ x, x = q * 4294967288 := ⟨_, rfl⟩
            obtain ⟨x3, hx3⟩ : ∃ x, x = 4294967296 * r + n0 := ⟨_, rfl⟩
            obtain ⟨x2, hx2⟩ : ∃ x, x = 4294967296 * r := ⟨_, rfl⟩
            rw [← hx1] at f1
            rw [← hx2] at f2
            rw [← hx3, ← hx2] at f3
            by_cases hx : x3 < x1
            · obtain ⟨bq, B⟩ := d (by omega)
              have c3 : decide ((x3 : Int) < (x1 : Int)) = true := by simp; omega
              clear hx1 hx2 hx3
              have B := Lib.hid B
              obtain ⟨k, hk⟩ : ∃ k, k = q - 1 := ⟨_, rfl⟩
              obtain ⟨s, hs⟩ : ∃ s, s = 4294967295 + r := ⟨_, rfl⟩
              have e1 : (q : Int) - 1 = (k : Int) := by omega
              have e2 : (r : Int) + 4294967295 = (s : Int) := by omega
              rw [← hk, ← hs] at B
              have hkq : k < q := by omega
              have hkl : k ≤ 4294967295 := by omega
              clear d b dn hk
              by_cases hr1 : 1 ≤ r
              · have c2 : decide ((4294967296 : Int) ≤ (s : Int)) = true := by simp; omega
                have dn := Digit.done B.out (by omega)
                clear hq1 hr1 hs B
                obtain ⟨A', B', C', v', g1', g2', g3', g4', g5'⟩ := left _ _ _ dn
                have HF := Lib.hid (HE.out _ dn.1 dn.2)
                rw [← g5'] at HF
                have g6' : (v' : Int) / 8 = (m : Int) := by have := HF.out; omega
                clear dn g5' HE HF
                go_wp2
                go_ret2
                exact ⟨⟨_, rfl⟩, 0, rfl⟩
              · have c2 : decide ((4294967296 : Int) ≤ (s : Int)) = false := by simp; omega
                have hsl : s < 4294967296 := by omega
                clear hq1 hr1 hs
                go_wp2
                go_round
                case rel => exact ⟨k, s, rfl, rfl, by omega, hsl, B⟩
                case measure => simp [intOf]; omega
            · have dn := dn (by omega)
              have c3 : decide ((x3 : Int) < (x1 : Int)) = false := by simp; omega
              clear d b hx1 hx2 hx3 hq1 HD
              obtain ⟨A', B', C', v', g1', g2', g3', g4', g5'⟩ := left _ _ _ dn
              have HF := Lib.hid (HE.out _ dn.1 dn.2)
              rw [← g5'] at HF
              have g6' : (v' : Int) / 8 = (m : Int) := by have := HF.out; omega
              clear dn g5' HE HF
              go_wp2
              go_ret2
              exact ⟨⟨_, rfl⟩, 0, rfl⟩
      · have c2 : decide ((4294967296 : Int) ≤ (s : Int)) = false := by simp; omega
        have hsl : s < 4294967296 := by omega
        clear hq1 hr1 hs
        go_wp2
        go_round
        case rel => exact ⟨k, s, rfl, rfl, by omega, hsl, B⟩
        case measure => simp [intOf]; omega
    · have c1 : decide ((4294967296 : Int) ≤ (q : Int)) = false := by simp; omega
      have f1 : IntKind.u64.wrap ((q : Int) * 4294967288) = ((q * 4294967288 : Nat) : Int) := by rw [IntKind.wrap_u64]; omega
      have f2 : IntKind.u64.wrap (4294967296 * (r : Int)) = ((4294967296 * r : Nat) : Int) := by rw [IntKind.wrap_u64]; omega
      have f3 : IntKind.u64.wrap (((4294967296 * r : Nat) : Int) + (n1 : Int)) = ((4294967296 * r + n1 : Nat) : Int) := by rw [IntKind.wrap_u64]; omega
      obtain ⟨x1, hx1⟩ : ∃ x, x = q * 4294967288 := ⟨_, rfl⟩
      obtain ⟨x3, hx3⟩ : ∃ x, x = 4294967296 * r + n1 := ⟨_, rfl⟩
      obtain ⟨x2, hx2⟩ : ∃ x, x = 4294967296 * r := ⟨_, rfl⟩
      rw [← hx1] at f1
      rw [← hx2] at f2
      rw [← hx3, ← hx2] at f3
      by_cases hx : x3 < x1
      · obtain ⟨bq, B⟩ := d (by omega)
        have c3 : decide ((x3 : Int) < (x1 : Int)) = true := by simp; omega
        clear hx1 hx2 hx3
        have B := Lib.hid B
        obtain ⟨k, hk⟩ : ∃ k, k = q - 1 := ⟨_, rfl⟩
        obtain ⟨s, hs⟩ : ∃ s, s = 4294967295 + r := ⟨_, rfl⟩
        have e1 : (q : Int) - 1 = (k : Int) := by omega
        have e2 : (r : Int) + 4294967295 = (s : Int) := by omega
        rw [← hk, ← hs] at B
        have hkq : k < q := by omega
        have hkl : k ≤ 4294967295 := by omega
        clear d b dn hk
        by_cases hr1 : 1 ≤ r
        · have c2 : decide ((4294967296 : Int) ≤ (s : Int)) = true := by simp; omega
          have dn := Digit.done B.out (by omega)
          clear hq1 hr1 hs B
          obtain ⟨A, B, C, v, g1, g2, g3, g4, g5⟩ := left _ _ _ dn
          have HE := MidEnd.mk (fun q0 => HE.out _ q0 dn.1)
          have hv : v < 18446744073709551608 := by rw [g5]; exact dn.2
          rw [← g5] at HE
          obtain ⟨q, r, hq, hr, hqp, hrl, hql, hd⟩ := begun v n0 b0 hv
          have HD := Lib.hid hd
          clear hd dn g5
          go_wp2
          go_loop [18, 16] (fun x y => ∃ q r : Nat, x = .int .u64 q ∧ y = .int .u64 r ∧ q ≤ 4294967296 ∧ r < 4294967296 ∧ Hid (Digit v n0 q r)) (fun x _ => (intOf x).toNat)
          case atStart => exact ⟨_, _, rfl, rfl, hql, hrl, HD⟩
          case round =>
            clear HD hrl hql
            obtain ⟨q, r, rfl, rfl, hql, hrl, HD⟩ := hrel
            have d := Digit.down HD.out
            have b := Digit.big HD.out hv b0
            have dn := Digit.done HD.out
            by_cases hq1 : 4294967296 ≤ q
            · obtain ⟨bq, B⟩ := b hq1
              have c1 : decide ((4294967296 : Int) ≤ (q : Int)) = true := by simp; omega
              have B := Lib.hid B
              obtain ⟨k, hk⟩ : ∃ k, k = q - 1 := ⟨_, rfl⟩
              obtain ⟨s, hs⟩ : ∃ s, s = 4294967295 + r := ⟨_, rfl⟩
              have e1 : (q : Int) - 1 = (k : Int) := by omega
              have e2 : (r : Int) + 4294967295 = (s : Int) := by omega
              rw [← hk, ← hs] at B
              have hkq : k < q := by omega
              have hkl : k ≤ 4294967295 := by omega
              clear d b dn hk
              by_cases hr1 : 1 ≤ r
              · have c2 : decide ((4294967296 : Int) ≤ (s : Int)) = true := by simp; omega
                have dn := Digit.done B.out (by omega)
                clear hq1 hr1 hs B
                obtain ⟨A', B', C', v', g1', g2', g3', g4', g5'⟩ := left _ _ _ dn
                have HF := Lib.hid (HE.out _ dn.1 dn.2)
                rw [← g5'] at HF
                have g6' : (v' : Int) / 8 = (m : Int) := by have := HF.out; omega
                clear dn g5' HE HF
                go_wp2
                go_ret2
                exact ⟨⟨_, rfl⟩, 0, rfl⟩
              · have c2 : decide ((4294967296 : Int) ≤ (s : Int)) = false := by simp; omega
                have hsl : s < 4294967296 := by omega
                clear hq1 hr1 hs
                go_wp2
                go_round
                case rel => exact ⟨k, s, rfl, rfl, by omega, hsl, B⟩
                case measure => simp [intOf]; omega
            · have c1 : decide ((4294967296 : Int) ≤ (q : Int)) = false := by simp; omega
              have f1 : IntKind.u64.wrap ((q : Int) * 4294967288) = ((q * 4294967288 : Nat) : Int) := by rw [IntKind.wrap_u64]; omega
              have f2 : IntKind.u64.wrap (4294967296 * (r : Int)) = ((4294967296 * r : Nat) : Int) := by rw [IntKind.wrap_u64]; omega
              have f3 : IntKind.u64.wrap (((4294967296 * r : Nat) : Int) + (n0 : Int)) = ((4294967296 * r + n0 : Nat) : Int) := by rw [IntKind.wrap_u64]; omega
              obtain ⟨x1, hx1⟩ : ∃ x, x = q * 4294967288 := ⟨_, rfl⟩
              obtain ⟨x3, hx3⟩ : ∃ x, x = 4294967296 * r + n0 := ⟨_, rfl⟩
              obtain ⟨x2, hx2⟩ : ∃ x, x = 4294967296 * r := ⟨_, rfl⟩
              rw [← hx1] at f1
              rw [← hx2] at f2
              rw [← hx3, ← hx2] at f3
              by_cases hx : x3 < x1
              · obtain ⟨bq, B⟩ := d (by omega)
                have c3 : decide ((x3 : Int) < (x1 : Int)) = true := by simp; omega
                clear hx1 hx2 hx3
                have B := Lib.hid B
                obtain ⟨k, hk⟩ : ∃ k, k = q - 1 := ⟨_, rfl⟩
                obtain ⟨s, hs⟩ : ∃ s, s = 4294967295 + r := ⟨_, rfl⟩
                have e1 : (q : Int) - 1 = (k : Int) := by omega
                have e2 : (r : Int) + 4294967295 = (s : Int) := by omega
                rw [← hk, ← hs] at B
                have hkq : k < q := by omega
                have hkl : k ≤ 4294967295 := by omega
                clear d b dn hk
                by_cases hr1 : 1 ≤ r
                · have c2 : decide ((4294967296 : Int) ≤ (s : Int)) = true := by simp; omega
                  have dn := Digit.done B.out (by omega)
                  clear hq1 hr1 hs B
                  obtain ⟨A', B', C', v', g1', g2', g3', g4', g5'⟩ := left _ _ _ dn
                  have HF := Lib.hid (HE.out _ dn.1 dn.2)
                  rw [← g5'] at HF
                  have g6' : (v' : Int) / 8 = (m : Int) := by have := HF.out; omega
                  clear dn g5' HE HF
                  go_wp2
                  go_ret2
                  exact ⟨⟨_, rfl⟩, 0, rfl⟩
                · have c2 : decide ((4294967296 : Int) ≤ (s : Int)) = false := by simp; omega
                  have hsl : s < 4294967296 := by omega
                  clear hq1 hr1 hs
                  go_wp2
                  go_round
                  case rel => exact ⟨k, s, rfl, rfl, by omega, hsl, B⟩
                  case measure => simp [intOf]; omega
              · have dn := dn (by omega)
                have c3 : decide ((x3 : Int) < (x1 : Int)) = false := by simp; omega
                clear d b hx1 hx2 hx3 hq1 HD
                obtain ⟨A', B', C', v', g1', g2', g3', g4', g5'⟩ := left _ _ _ dn
                have HF := Lib.hid (HE.out _ dn.1 dn.2)
                rw [← g5'] at HF
                have g6' : (v' : Int) / 8 = (m : Int) := by have := HF.out; omega
                clear dn g5' HE HF
                go_wp2
                go_ret2
                exact ⟨⟨_, rfl⟩, 0, rfl⟩
        · have c2 : decide ((4294967296 : Int) ≤ (s : Int)) = false := by simp; omega
          have hsl : s < 4294967296 := by omega
          clear hq1 hr1 hs
          go_wp2
          go_round
          case rel => exact ⟨k, s, rfl, rfl, by omega, hsl, B⟩
          case measure => simp [intOf]; omega
      · have dn := dn (by omega)
        have c3 : decide ((x3 : Int) < (x1 : Int)) = false := by simp; omega
        clear d b hx1 hx2 hx3 hq1 HD
        obtain ⟨A, B, C, v, g1, g2, g3, g4, g5⟩ := left _ _ _ dn
        have HE := MidEnd.mk (fun q0 => HE.out _ q0 dn.1)
        have hv : v < 18446744073709551608 := by rw [g5]; exact dn.2
        rw [← g5] at HE
        obtain ⟨q, r, hq, hr, hqp, hrl, hql, hd⟩ := begun v n0 b0 hv
        have HD := Lib.hid hd
        clear hd dn g5
        go_wp2
        go_loop [18, 16] (fun x y => ∃ q r : Nat, x = .int .u64 q ∧ y = .int .u64 r ∧ q ≤ 4294967296 ∧ r < 4294967296 ∧ Hid (Digit v n0 q r)) (fun x _ => (intOf x).toNat)
        case atStart => exact ⟨_, _, rfl, rfl, hql, hrl, HD⟩
        case round =>
          clear HD hrl hql
          obtain ⟨q, r, rfl, rfl, hql, hrl, HD⟩ := hrel
          have d := Digit.down HD.out
          have b := Digit.big HD.out hv b0
          have dn := Digit.done HD.out
          by_cases hq1 : 4294967296 ≤ q
          · obtain ⟨bq, B⟩ := b hq1
            have c1 : decide ((4294967296 : Int) ≤ (q : Int)) = true := by simp; omega
            have B := Lib.hid B
            obtain ⟨k, hk⟩ : ∃ k, k = q - 1 := ⟨_, rfl⟩
            obtain ⟨s, hs⟩ : ∃ s, s = 4294967295 + r := ⟨_, rfl⟩
            have e1 : (q : Int) - 1 = (k : Int) := by omega
            have e2 : (r : Int) + 4294967295 = (s : Int) := by omega
            rw [← hk, ← hs] at B
            have hkq : k < q := by omega
            have hkl : k ≤ 4294967295 := by omega
            clear d b dn hk
            by_cases hr1 : 1 ≤ r
            · have c2 : decide ((4294967296 : Int) ≤ (s : Int)) = true := by simp; omega
              have dn := Digit.done B.out (by omega)
              clear hq1 hr1 hs B
              obtain ⟨A', B', C', v', g1', g2', g3', g4', g5'⟩ := left _ _ _ dn
              have HF := Lib.hid (HE.out _ dn.1 dn.2)
              rw [← g5'] at HF
              have g6' : (v' : Int) / 8 = (m : Int) := by have := HF.out; omega
              clear dn g5' HE HF
              go_wp2
              go_ret2
              exact ⟨⟨_, rfl⟩, 0, rfl⟩
            · have c2 : decide ((4294967296 : Int) ≤ (s : Int)) = false := by simp; omega
              have hsl : s < 4294967296 := by omega
              clear hq1 hr1 hs
              go_wp2
              go_round
              case rel => exact ⟨k, s, rfl, rfl, by omega, hsl, B⟩
              case measure => simp [intOf]; omega
          · have c1 : decide ((4294967296 : Int) ≤ (q : Int)) = false := by simp; omega
            have f1 : IntKind.u64.wrap ((q : Int) * 4294967288) = ((q * 4294967288 : Nat) : Int) := by rw [IntKind.wrap_u64]; omega
            have f2 : IntKind.u64.wrap (4294967296 * (r : Int)) = ((4294967296 * r : Nat) : Int) := by rw [IntKind.wrap_u64]; omega
            have f3 : IntKind.u64.wrap (((4294967296 * r : Nat) : Int) + (n0 : Int)) = ((4294967296 * r + n0 : Nat) : Int) := by rw [IntKind.wrap_u64]; omega
            obtain ⟨x1, hx1⟩ : ∃ x, x = q * 4294967288 := ⟨_, rfl⟩
            obtain ⟨x3, hx3⟩ : ∃ x, x = 4294967296 * r + n0 := ⟨_, rfl⟩
            obtain ⟨x2, hx2⟩ : ∃ x, x = 4294967296 * r := ⟨_, rfl⟩
            rw [← hx1] at f1
            rw [← hx2] at f2
            rw [← hx3, ← hx2] at f3
            by_cases hx : x3 < x1
            · obtain ⟨bq, B⟩ := d (by omega)
              have c3 : decide ((x3 : Int) < (x1 : Int)) = true := by simp; omega
              clear hx1 hx2 hx3
              have B := Lib.hid B
              obtain ⟨k, hk⟩ : ∃ k, k = q - 1 := ⟨_, rfl⟩
              obtain ⟨s, hs⟩ : ∃ s, s = 4294967295 + r := ⟨_, rfl⟩
              have e1 : (q : Int) - 1 = (k : Int) := by omega
              have e2 : (r : Int) + 4294967295 = (s : Int) := by omega
              rw [← hk, ← hs] at B
              have hkq : k < q := by omega
              have hkl : k ≤ 4294967295 := by omega
              clear d b dn hk
              by_cases hr1 : 1 ≤ r
              · have c2 : decide ((4294967296 : Int) ≤ (s : Int)) = true := by simp; omega
                have dn := Digit.done B.out (by omega)
                clear hq1 hr1 hs B
                obtain ⟨A', B', C', v', g1', g2', g3', g4', g5'⟩ := left _ _ _ dn
                have HF := Lib.hid (HE.out _ dn.1 dn.2)
                rw [← g5'] at HF
                have g6' : (v' : Int) / 8 = (m : Int) := by have := HF.out; omega
                clear dn g5' HE HF
                go_wp2
                go_ret2
                exact ⟨⟨_, rfl⟩, 0, rfl⟩
              · have c2 : decide ((4294967296 : Int) ≤ (s : Int)) = false := by simp; omega
                have hsl : s < 4294967296 := by omega
                clear hq1 hr1 hs
                go_wp2
                go_round
                case rel => exact ⟨k, s, rfl, rfl, by omega, hsl, B⟩
                case measure => simp [intOf]; omega
            · have dn := dn (by omega)
              have c3 : decide ((x3 : Int) < (x1 : Int)) = false := by simp; omega
              clear d b hx1 hx2 hx3 hq1 HD
              obtain ⟨A', B', C', v', g1', g2', g3', g4', g5'⟩ := left _ _ _ dn
              have HF := Lib.hid (HE.out _ dn.1 dn.2)
              rw [← g5'] at HF
              have g6' : (v' : Int) / 8 = (m : Int) := by have := HF.out; omega
              clear dn g5' HE HF
              go_wp2
              go_ret2
              exact ⟨⟨_, rfl⟩, 0, rfl⟩
end Go.Proofs.Ytgmmoilgmaklgaa
