/- Contracts of the functions that TurnWord's exact law calls. -/
import Derived.Test.YtbjcgdgebbiieaaKit
namespace Go.Proofs.Ytbjcgdgebbiieaa
open Go.RowKit

def wordB (n : Int) : Bool := decide (0 ≤ n ∧ n ≤ 4294967295)
def inB (v lo hi : Int) : Bool := decide (lo ≤ v ∧ v ≤ hi)
/-- the 32 bits of x gone round by b places -/
def turn (x b : Int) : Int := bits BinOp.or IntKind.u32 (x * 2 ^ b.toNat % 4294967296) (x / 2 ^ (32 - b).toNat)

theorem isWord_any (n : Int) (w : World) :
    Calls Try.prog 59 #[.int .i64 n] w fun e w' => e = .returned (.bool (wordB n)) ∧ w = w' := by
  by_cases h0 : 0 ≤ n
  · go_enter Try.func59, Try.ntmps59
    go_wp2
    go_ret
    exact ⟨by simp [wordB, h0], rfl⟩
  · go_enter Try.func59, Try.ntmps59
    go_wp2
    go_ret
    exact ⟨by simp [wordB]; omega, rfl⟩

theorem In_any (v lo hi : Int) (w : World) :
    Calls Try.prog 65 #[.int .i64 v, .int .i64 lo, .int .i64 hi] w fun e w' => e = .returned (.bool (inB v lo hi)) ∧ w = w' := by
  by_cases h1 : lo ≤ v
  · go_enter Try.func65, Try.ntmps65
    go_wp2
    go_ret
    exact ⟨by simp [inB, h1], rfl⟩
  · have h2 : ¬ (lo ≤ v ∧ v ≤ hi) := fun h => h1 h.1
    go_enter Try.func65, Try.ntmps65
    go_wp2
    go_ret
    exact ⟨by simp [inB]; omega, rfl⟩

theorem Turn_any (x b : Int) (hb : 0 ≤ b) (hb1 : b ≤ 31) (w : World) :
    Calls Try.prog 66 #[.int .u32 x, .int .u32 b] w fun e w' => e = .returned (.int .u32 (turn x b)) ∧ w = w' := by
  go_enter Try.func66, Try.ntmps66
  go_wp2
  go_ret
  exact ⟨rfl, rfl⟩

theorem turn_bd (x b : Int) (hx0 : 0 ≤ x) (hx1 : x ≤ 4294967295) (hb : 0 ≤ b) (hb1 : b ≤ 31) : 0 ≤ turn x b ∧ turn x b ≤ 4294967295 := by
  obtain ⟨b, rfl⟩ := Int.eq_ofNat_of_zero_le hb
  obtain ⟨x, rfl⟩ := Int.eq_ofNat_of_zero_le hx0
  have h0 : 0 ≤ (x : Int) / 2 ^ (32 - (b : Int)).toNat := Int.ediv_nonneg (by omega) (Int.le_of_lt (Int.pow_pos (by omega)))
  have h1 : (x : Int) / 2 ^ (32 - (b : Int)).toNat ≤ x := Int.ediv_le_self _ (by omega)
  unfold turn
  rw [u32_or _ _ (Int.emod_nonneg _ (by omega)) (Int.emod_lt_of_pos _ (by omega)) h0 (by omega)]
  have := Nat.or_lt_two_pow (n := 32) (x := ((x : Int) * 2 ^ (b : Int).toNat % 4294967296).toNat) (y := ((x : Int) / 2 ^ (32 - (b : Int)).toNat).toNat) (by omega) (by omega)
  omega

/-- what both functions answer -/
def tcode (x b : Int) : Int := if wordB x && inB b 0 31 then 0 else 3
def tval (x b : Int) : Int := if wordB x && inB b 0 31 then turn x b else 0

theorem specTurnWord_any (x b : Int) (w : World) :
    Calls Try.prog 31 #[.int .i64 x, .int .i64 b] w fun e w' => e = .returned (.agg #[.int .i64 (tcode x b), .int .i64 (tval x b)]) ∧ Below w.heap.size w w' := by
  by_cases h1 : wordB x = true
  · by_cases h2 : inB b 0 31 = true
    · have hx : 0 ≤ x ∧ x ≤ 4294967295 := by simpa [wordB] using h1
      have hb : 0 ≤ b ∧ b ≤ 31 := by simpa [inB] using h2
      have h3 : inB x 0 4294967295 = true := h1
      have hf : tcode x b = 0 ∧ tval x b = turn x b := by simp [tcode, tval, h1, h2]
      have Hf := Lib.hid hf
      clear hf
      obtain ⟨hx0, hx1⟩ := hx
      obtain ⟨hb0, hb1⟩ := hb
      obtain ⟨ht0, ht1⟩ := turn_bd x b hx0 hx1 hb0 hb1
      go_enter Try.func31, Try.ntmps31
      go_wp2_with (first | (go_at_call 65; refine (In_any _ _ _ _).mono ?_; rintro e w' ⟨rfl, rfl⟩) | (go_at_call 66; refine (Turn_any _ _ hb0 hb1 _).mono ?_; rintro e w' ⟨rfl, rfl⟩))
      go_returns
      rw [Hf.out.1, Hf.out.2]
      exact ⟨rfl, by go_grown⟩
    · have h3 : inB x 0 4294967295 = true := h1
      have h4 : inB b 0 31 = false := by simpa using h2
      have hf : tcode x b = 3 ∧ tval x b = 0 := by simp [tcode, tval, h2]
      have Hf := Lib.hid hf
      clear hf
      go_enter Try.func31, Try.ntmps31
      go_wp2_with ((go_at_call 65; refine (In_any _ _ _ _).mono ?_; rintro e w' ⟨rfl, rfl⟩))
      go_returns
      rw [Hf.out.1, Hf.out.2]
      exact ⟨rfl, by go_grown⟩
  · have h3 : inB x 0 4294967295 = false := by have : wordB x = inB x 0 4294967295 := rfl; rw [← this]; simpa using h1
    have hf : tcode x b = 3 ∧ tval x b = 0 := by simp [tcode, tval, h1]
    have Hf := Lib.hid hf
    clear hf
    go_enter Try.func31, Try.ntmps31
    go_wp2_with ((go_at_call 65; refine (In_any _ _ _ _).mono ?_; rintro e w' ⟨rfl, rfl⟩))
    go_returns
    rw [Hf.out.1, Hf.out.2]
    exact ⟨rfl, by go_grown⟩

theorem turnLeft_any (x b : Int) (hb0 : 0 ≤ b) (hb1 : b ≤ 31) (w : World) :
    Calls Try.prog 60 #[.int .u32 x, .int .i64 b] w fun e w' => e = .returned (.int .u32 (turn x b)) ∧ ∃ n, w' = w.drewN n := by
  go_enter Try.func60, Try.ntmps60
  go_wp2
  go_quiet (fail)
  go_wp2
  go_ret
  exact ⟨rfl, _, rfl⟩

theorem implTurnWord_any (x b : Int) (w : World) :
    Calls Try.prog 27 #[.int .i64 x, .int .i64 b] w fun e w' => e = .returned (.agg #[.int .i64 (tcode x b), .int .i64 (tval x b)]) ∧ Below w.heap.size w w' := by
  by_cases h1 : wordB x = true
  · by_cases h2 : inB b 0 31 = true
    · have hx : 0 ≤ x ∧ x ≤ 4294967295 := by simpa [wordB] using h1
      have hb : 0 ≤ b ∧ b ≤ 31 := by simpa [inB] using h2
      have hf : tcode x b = 0 ∧ tval x b = turn x b := by simp [tcode, tval, h1, h2]
      have Hf := Lib.hid hf
      clear hf
      obtain ⟨hx0, hx1⟩ := hx
      obtain ⟨hb0, hb1⟩ := hb
      obtain ⟨ht0, ht1⟩ := turn_bd x b hx0 hx1 hb0 hb1
      have hb2 : b < 32 := by omega
      go_enter Try.func27, Try.ntmps27
      go_wp2_with fail
      refine (isWord_any _ _).mono ?_
      rintro e w' ⟨rfl, rfl⟩
      go_wp2_with fail
      refine (turnLeft_any _ _ hb0 hb1 _).mono ?_
      rintro e w' ⟨rfl, n, rfl⟩
      go_wp2
      go_returns
      rw [Hf.out.1, Hf.out.2]
      exact ⟨rfl, (((ad (ab (Below.refl _ w) _) n).setCell (by simp) _).setCell (by simp) _)⟩
    · have hf : tcode x b = 3 ∧ tval x b = 0 := by simp [tcode, tval, h2]
      have Hf := Lib.hid hf
      clear hf
      have h4 : b < 0 ∨ 32 ≤ b := by simp [inB] at h2; omega
      clear h2
      rcases h4 with h4 | h4
      · go_enter Try.func27, Try.ntmps27
        go_wp2_with ((go_at_call 59; refine (isWord_any _ _).mono ?_; rintro e w' ⟨rfl, rfl⟩))
        go_returns
        rw [Hf.out.1, Hf.out.2]
        exact ⟨rfl, by go_grown⟩
      · have h5 : 0 ≤ b := by omega
        go_enter Try.func27, Try.ntmps27
        go_wp2_with ((go_at_call 59; refine (isWord_any _ _).mono ?_; rintro e w' ⟨rfl, rfl⟩))
        go_returns
        rw [Hf.out.1, Hf.out.2]
        exact ⟨rfl, by go_grown⟩
  · have h3 : wordB x = false := by simpa using h1
    have hf : tcode x b = 3 ∧ tval x b = 0 := by simp [tcode, tval, h1]
    have Hf := Lib.hid hf
    clear hf
    clear h1
    go_enter Try.func27, Try.ntmps27
    go_wp2_with ((go_at_call 59; refine (isWord_any _ _).mono ?_; rintro e w' ⟨rfl, rfl⟩))
    go_returns
    rw [Hf.out.1, Hf.out.2]
    exact ⟨rfl, by go_grown⟩

theorem eqInt_any (a b c d : Int) (w : World) :
    Calls Try.prog 38 #[.agg #[.int .i64 a, .int .i64 b], .agg #[.int .i64 c, .int .i64 d]] w fun e w' => e = .returned (.bool (decide (a = c ∧ b = d))) ∧ Below w.heap.size w w' := by
  by_cases h1 : a = c
  · subst h1
    by_cases h2 : b = d
    · subst h2
      go_enter Try.func38, Try.ntmps38
      go_wp2
      go_returns
      exact ⟨by simp, by go_grown⟩
    · have hb : (b == d) = false := by simpa using h2
      have hb' : (b != d) = true := by simpa using h2
      go_enter Try.func38, Try.ntmps38
      go_wp2
      go_returns
      exact ⟨by simp [h2], by go_grown⟩
  · have hb : (a == c) = false := by simpa using h1
    have hb' : (a != c) = true := by simpa using h1
    go_enter Try.func38, Try.ntmps38
    go_wp2
    go_returns
    exact ⟨by simp [h1], by go_grown⟩
end Go.Proofs.Ytbjcgdgebbiieaa
