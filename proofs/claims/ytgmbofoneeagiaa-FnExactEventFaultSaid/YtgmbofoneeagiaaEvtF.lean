/- What is wrong with a config, and with an event: of both. -/
import Derived.Test.YtgmbofoneeagiaaSndF
namespace Go.Proofs.Ytgmbofoneeagiaa
open Go.RowKit

def cfgF (n : Nat) : Int := if n = 32 then 0 else 3

theorem specConfigFault_any (v : Bool) (A : Option Addr) (n c : Nat) (w : World) :
    Calls Try.prog 13 #[.agg #[.bool v, .slice A n c]] w fun e w' => e = .returned (.int .i64 (cfgF n)) ∧ Below w.heap.size w w' := by
  by_cases h : n = 32
  · have e : cfgF n = 0 := if_pos h
    rw [e]; subst h; clear e
    go_enter Try.func13, Try.ntmps13
    go_wp2
    go_ret
    exact ⟨rfl, (by repeat (first | exact Below.refl _ _ | refine Below.alloc ?_ (by simp) _ | refine Below.setCell ?_ (by simp) _))⟩
  · have e : cfgF n = 3 := if_neg h
    rw [e]; clear e
    have t0 : ((n : Int) != 32) = true := by simp; omega
    go_enter Try.func13, Try.ntmps13
    go_wp2
    go_ret
    exact ⟨rfl, (by repeat (first | exact Below.refl _ _ | refine Below.alloc ?_ (by simp) _ | refine Below.setCell ?_ (by simp) _))⟩

theorem implConfigFault_any (v : Bool) (A : Option Addr) (n c : Nat) (w : World) :
    Calls Try.prog 15 #[.agg #[.bool v, .slice A n c]] w fun e w' => e = .returned (.int .i64 (cfgF n)) ∧ Below w.heap.size w w' := by
  by_cases h : n = 32
  · have e : cfgF n = 0 := if_pos h
    rw [e]; subst h; clear e
    go_enter Try.func15, Try.ntmps15
    go_wp2
    go_ret
    exact ⟨rfl, (by repeat (first | exact Below.refl _ _ | refine Below.alloc ?_ (by simp) _ | refine Below.setCell ?_ (by simp) _))⟩
  · have e : cfgF n = 3 := if_neg h
    rw [e]; clear e
    have t0 : ((n : Int) != 32) = true := by simp; omega
    go_enter Try.func15, Try.ntmps15
    go_wp2
    go_ret
    exact ⟨rfl, (by repeat (first | exact Below.refl _ _ | refine Below.alloc ?_ (by simp) _ | refine Below.setCell ?_ (by simp) _))⟩

/-- what its kind needs is there alone -/
def formB (k : Int) (n : Nat) (s a m : Int) : Bool := decide ((k = 1 ∧ s = 0 ∧ a = 0 ∧ m = 0) ∨ (k = 2 ∧ n = 0 ∧ s = 0 ∧ a = 0 ∧ m = 0) ∨ (k = 3 ∧ n = 0 ∧ a = 0 ∧ m = 0) ∨ (k = 4 ∧ n = 0))
def sideB (x : Int) : Bool := decide (x = 0 ∨ x = 1)
/-- all numbers are in their bounds -/
def bndB (k sd s a m : Int) : Bool := sideB sd && slotB s && (decide (¬ k = 4) || (inB a 0 63 && inB m 1 255))
def evF (k sd : Int) (n : Nat) (s a m : Int) : Int := if formB k n s a m = true then (if bndB k sd s a m = true then (if n ≤ 1000 then 0 else 2) else 3) else 1

set_option linter.unusedVariables false in
set_option maxHeartbeats 4000000 in
theorem hasForm_any (k sd : Int) (A : Option Addr) (n c : Nat) (s a m : Int) (w : World) :
    Calls Try.prog 88 #[.agg #[.int .i64 k, .int .i64 sd, .slice A n c, .int .i64 s, .int .i64 a, .int .i64 m]] w fun e w' => e = .returned (.bool (formB k n s a m)) ∧ Below w.heap.size w w' := by
  by_cases k1 : k = 1
  · subst k1
    by_cases hs : s = 0
    · subst hs
      by_cases ha : a = 0
      · subst ha
        by_cases hm : m = 0
        · subst hm
          have e : formB 1 n 0 0 0 = true := by simp [formB]
          rw [e]; clear e
          go_enter Try.func88, Try.ntmps88
          go_wp2
          go_ret
          exact ⟨rfl, (by repeat (first | exact Below.refl _ _ | refine Below.alloc ?_ (by simp) _ | refine Below.setCell ?_ (by simp) _))⟩
        · have e : formB 1 n 0 0 m = false := by simp [formB, hm]
          rw [e]; clear e
          have t : (m == 0) = false := by simpa using hm
          go_enter Try.func88, Try.ntmps88
          go_wp2
          go_ret
          exact ⟨rfl, (by repeat (first | exact Below.refl _ _ | refine Below.alloc ?_ (by simp) _ | refine Below.setCell ?_ (by simp) _))⟩
      · have e : formB 1 n 0 a m = false := by simp [formB, ha]
        rw [e]; clear e
        have t : (a == 0) = false := by simpa using ha
        go_enter Try.func88, Try.ntmps88
        go_wp2
        go_ret
        exact ⟨rfl, (by repeat (first | exact Below.refl _ _ | refine Below.alloc ?_ (by simp) _ | refine Below.setCell ?_ (by simp) _))⟩
    · have e : formB 1 n s a m = false := by simp [formB, hs]
      rw [e]; clear e
      have t : (s == 0) = false := by simpa using hs
      go_enter Try.func88, Try.ntmps88
      go_wp2
      go_ret
      exact ⟨rfl, (by repeat (first | exact Below.refl _ _ | refine Below.alloc ?_ (by simp) _ | refine Below.setCell ?_ (by simp) _))⟩
  have u1 : (k == 1) = false := by simpa using k1
  by_cases k2 : k = 2
  · subst k2
    by_cases hn : n = 0
    · subst hn
      by_cases hs : s = 0
      · subst hs
        by_cases ha : a = 0
        · subst ha
          by_cases hm : m = 0
          · subst hm
            have e : formB 2 0 0 0 0 = true := by simp [formB]
            rw [e]; clear e
            go_enter Try.func88, Try.ntmps88
            go_wp2
            go_ret
            exact ⟨rfl, (by repeat (first | exact Below.refl _ _ | refine Below.alloc ?_ (by simp) _ | refine Below.setCell ?_ (by simp) _))⟩
          · have e : formB 2 0 0 0 m = false := by simp [formB, hm]
            rw [e]; clear e
            have t : (m == 0) = false := by simpa using hm
            go_enter Try.func88, Try.ntmps88
            go_wp2
            go_ret
            exact ⟨rfl, (by repeat (first | exact Below.refl _ _ | refine Below.alloc ?_ (by simp) _ | refine Below.setCell ?_ (by simp) _))⟩
        · have e : formB 2 0 0 a m = false := by simp [formB, ha]
          rw [e]; clear e
          have t : (a == 0) = false := by simpa using ha
          go_enter Try.func88, Try.ntmps88
          go_wp2
          go_ret
          exact ⟨rfl, (by repeat (first | exact Below.refl _ _ | refine Below.alloc ?_ (by simp) _ | refine Below.setCell ?_ (by simp) _))⟩
      · have e : formB 2 0 s a m = false := by simp [formB, hs]
        rw [e]; clear e
        have t : (s == 0) = false := by simpa using hs
        go_enter Try.func88, Try.ntmps88
        go_wp2
        go_ret
        exact ⟨rfl, (by repeat (first | exact Below.refl _ _ | refine Below.alloc ?_ (by simp) _ | refine Below.setCell ?_ (by simp) _))⟩
    · have e : formB 2 n s a m = false := by simp [formB, hn]
      rw [e]; clear e
      have t : ((n : Int) == 0) = false := by simp; omega
      go_enter Try.func88, Try.ntmps88
      go_wp2
      go_ret
      exact ⟨rfl, (by repeat (first | exact Below.refl _ _ | refine Below.alloc ?_ (by simp) _ | refine Below.setCell ?_ (by simp) _))⟩
  have u2 : (k == 2) = false := by simpa using k2
  by_cases k3 : k = 3
  · subst k3
    by_cases hn : n = 0
    · subst hn
      by_cases ha : a = 0
      · subst ha
        by_cases hm : m = 0
        · subst hm
          have e : formB 3 0 s 0 0 = true := by simp [formB]
          rw [e]; clear e
          go_enter Try.func88, Try.ntmps88
          go_wp2
          go_ret
          exact ⟨rfl, (by repeat (first | exact Below.refl _ _ | refine Below.alloc ?_ (by simp) _ | refine Below.setCell ?_ (by simp) _))⟩
        · have e : formB 3 0 s 0 m = false := by simp [formB, hm]
          rw [e]; clear e
          have t : (m == 0) = false := by simpa using hm
          go_enter Try.func88, Try.ntmps88
          go_wp2
          go_ret
          exact ⟨rfl, (by repeat (first | exact Below.refl _ _ | refine Below.alloc ?_ (by simp) _ | refine Below.setCell ?_ (by simp) _))⟩
      · have e : formB 3 0 s a m = false := by simp [formB, ha]
        rw [e]; clear e
        have t : (a == 0) = false := by simpa using ha
        go_enter Try.func88, Try.ntmps88
        go_wp2
        go_ret
        exact ⟨rfl, (by repeat (first | exact Below.refl _ _ | refine Below.alloc ?_ (by simp) _ | refine Below.setCell ?_ (by simp) _))⟩
    · have e : formB 3 n s a m = false := by simp [formB, hn]
      rw [e]; clear e
      have t : ((n : Int) == 0) = false := by simp; omega
      go_enter Try.func88, Try.ntmps88
      go_wp2
      go_ret
      exact ⟨rfl, (by repeat (first | exact Below.refl _ _ | refine Below.alloc ?_ (by simp) _ | refine Below.setCell ?_ (by simp) _))⟩
  have u3 : (k == 3) = false := by simpa using k3
  by_cases k4 : k = 4
  · subst k4
    by_cases hn : n = 0
    · subst hn
      have e : formB 4 0 s a m = true := by simp [formB]
      rw [e]; clear e
      go_enter Try.func88, Try.ntmps88
      go_wp2
      go_ret
      exact ⟨rfl, (by repeat (first | exact Below.refl _ _ | refine Below.alloc ?_ (by simp) _ | refine Below.setCell ?_ (by simp) _))⟩
    · have e : formB 4 n s a m = false := by simp [formB, hn]
      rw [e]; clear e
      have t : ((n : Int) == 0) = false := by simp; omega
      go_enter Try.func88, Try.ntmps88
      go_wp2
      go_ret
      exact ⟨rfl, (by repeat (first | exact Below.refl _ _ | refine Below.alloc ?_ (by simp) _ | refine Below.setCell ?_ (by simp) _))⟩
  have u4 : (k == 4) = false := by simpa using k4
  have e : formB k n s a m = false := by simp [formB, k1, k2, k3, k4]
  rw [e]; clear e
  go_enter Try.func88, Try.ntmps88
  go_wp2
  go_ret
  exact ⟨rfl, (by repeat (first | exact Below.refl _ _ | refine Below.alloc ?_ (by simp) _ | refine Below.setCell ?_ (by simp) _))⟩

theorem isSide_any (x : Int) (w : World) : Calls Try.prog 179 #[.int .i64 x] w fun e w' => e = .returned (.bool (sideB x)) ∧ w = w' := by
  by_cases h0 : x = 0
  · subst h0
    go_enter Try.func179, Try.ntmps179
    go_wp2
    go_ret
    exact ⟨rfl, rfl⟩
  · have t : (x == 0) = false := by simpa using h0
    have e : sideB x = (x == 1) := by simp [sideB, h0]; rfl
    rw [e]
    go_enter Try.func179, Try.ntmps179
    go_wp2
    go_ret
    exact ⟨rfl, rfl⟩

theorem l10Side_any (x : Int) (w : World) : Calls Try.prog 85 #[.int .i64 x] w fun e w' => e = .returned (.bool (sideB x)) ∧ w = w' := by
  by_cases h0 : x = 0
  · subst h0
    go_enter Try.func85, Try.ntmps85
    go_wp2
    go_ret
    exact ⟨rfl, rfl⟩
  · have t : (x == 0) = false := by simpa using h0
    have e : sideB x = (x == 1) := by simp [sideB, h0]; rfl
    rw [e]
    go_enter Try.func85, Try.ntmps85
    go_wp2
    go_ret
    exact ⟨rfl, rfl⟩

/-- what hasBounds of the program asks -/
def bndI (k sd s a m : Int) : Bool := decide (¬ (k = 4 ∧ (m < 1 ∨ 255 < m))) && (sideB sd && (slotB s && (decide (0 ≤ a) && decide (a < 64))))
set_option linter.unusedVariables false in
set_option maxHeartbeats 4000000 in
theorem hasBounds_any (k sd : Int) (A : Option Addr) (n c : Nat) (s a m : Int) (w : World) :
    Calls Try.prog 89 #[.agg #[.int .i64 k, .int .i64 sd, .slice A n c, .int .i64 s, .int .i64 a, .int .i64 m]] w fun e w' => e = .returned (.bool (bndI k sd s a m)) ∧ Below w.heap.size w w' := by
  have hs := fun W => isSide_any sd W
  have hl := fun W => isSlot_any s W
  unfold bndI
  by_cases h4 : k = 4
  · subst h4
    by_cases m0 : m < 1
    · have e : decide (¬ ((4 : Int) = 4 ∧ (m < 1 ∨ 255 < m))) = false := by simp; omega
      rw [e]; simp only [Bool.false_and]; clear e
      have t0 : decide (m < 1) = true := by simpa using m0
      go_enter Try.func89, Try.ntmps89
      go_wp2
      go_ret
      exact ⟨rfl, (by repeat (first | exact Below.refl _ _ | refine Below.alloc ?_ (by simp) _ | refine Below.setCell ?_ (by simp) _))⟩
    have t0 : decide (m < 1) = false := by simpa using m0
    by_cases m1 : 255 < m
    · have e : decide (¬ ((4 : Int) = 4 ∧ (m < 1 ∨ 255 < m))) = false := by simp; omega
      rw [e]; simp only [Bool.false_and]; clear e
      have t1 : decide (m > 255) = true := by simpa using m1
      go_enter Try.func89, Try.ntmps89
      go_wp2
      go_ret
      exact ⟨rfl, (by repeat (first | exact Below.refl _ _ | refine Below.alloc ?_ (by simp) _ | refine Below.setCell ?_ (by simp) _))⟩
    have t1 : decide (m > 255) = false := by simp; omega
    have e : decide (¬ ((4 : Int) = 4 ∧ (m < 1 ∨ 255 < m))) = true := by simp; omega
    rw [e]; simp only [Bool.true_and]; clear e
    cases q1 : sideB sd
    · rw [q1] at hs
      simp only [Bool.false_and]
      go_enter Try.func89, Try.ntmps89
      go_wp2_with fail
      refine (hs _).mono ?_
      rintro x w1 ⟨rfl, rfl⟩
      go_wp2
      go_ret
      exact ⟨rfl, (by repeat (first | exact Below.refl _ _ | refine Below.alloc ?_ (by simp) _ | refine Below.setCell ?_ (by simp) _))⟩
    rw [q1] at hs
    cases q2 : slotB s
    · rw [q2] at hl
      simp only [Bool.true_and, Bool.false_and]
      go_enter Try.func89, Try.ntmps89
      go_wp2_with fail
      refine (hs _).mono ?_
      rintro x w1 ⟨rfl, rfl⟩
      go_wp2_with fail
      refine (hl _).mono ?_
      rintro x w1 ⟨rfl, rfl⟩
      go_wp2
      go_ret
      exact ⟨rfl, (by repeat (first | exact Below.refl _ _ | refine Below.alloc ?_ (by simp) _ | refine Below.setCell ?_ (by simp) _))⟩
    rw [q2] at hl
    by_cases q3 : 0 ≤ a
    · have t3 : decide (a ≥ 0) = true := by simpa using q3
      have e3 : decide (0 ≤ a) = true := by simpa using q3
      rw [e3]
      simp only [Bool.true_and]
      go_enter Try.func89, Try.ntmps89
      go_wp2_with fail
      refine (hs _).mono ?_
      rintro x w1 ⟨rfl, rfl⟩
      go_wp2_with fail
      refine (hl _).mono ?_
      rintro x w1 ⟨rfl, rfl⟩
      go_wp2
      go_ret
      exact ⟨rfl, (by repeat (first | exact Below.refl _ _ | refine Below.alloc ?_ (by simp) _ | refine Below.setCell ?_ (by simp) _))⟩
    · have t3 : decide (a ≥ 0) = false := by simpa using q3
      have e3 : decide (0 ≤ a) = false := by simpa using q3
      rw [e3]
      simp only [Bool.true_and, Bool.false_and]
      go_enter Try.func89, Try.ntmps89
      go_wp2_with fail
      refine (hs _).mono ?_
      rintro x w1 ⟨rfl, rfl⟩
      go_wp2_with fail
      refine (hl _).mono ?_
      rintro x w1 ⟨rfl, rfl⟩
      go_wp2
      go_ret
      exact ⟨rfl, (by repeat (first | exact Below.refl _ _ | refine Below.alloc ?_ (by simp) _ | refine Below.setCell ?_ (by simp) _))⟩
  · have e : decide (¬ (k = 4 ∧ (m < 1 ∨ 255 < m))) = true := by simp [h4]
    have u : (k == 4) = false := by simpa using h4
    rw [e]; simp only [Bool.true_and]; clear e
    cases q1 : sideB sd
    · rw [q1] at hs
      simp only [Bool.false_and]
      go_enter Try.func89, Try.ntmps89
      go_wp2_with fail
      refine (hs _).mono ?_
      rintro x w1 ⟨rfl, rfl⟩
      go_wp2
      go_ret
      exact ⟨rfl, (by repeat (first | exact Below.refl _ _ | refine Below.alloc ?_ (by simp) _ | refine Below.setCell ?_ (by simp) _))⟩
    rw [q1] at hs
    cases q2 : slotB s
    · rw [q2] at hl
      simp only [Bool.true_and, Bool.false_and]
      go_enter Try.func89, Try.ntmps89
      go_wp2_with fail
      refine (hs _).mono ?_
      rintro x w1 ⟨rfl, rfl⟩
      go_wp2_with fail
      refine (hl _).mono ?_
      rintro x w1 ⟨rfl, rfl⟩
      go_wp2
      go_ret
      exact ⟨rfl, (by repeat (first | exact Below.refl _ _ | refine Below.alloc ?_ (by simp) _ | refine Below.setCell ?_ (by simp) _))⟩
    rw [q2] at hl
    by_cases q3 : 0 ≤ a
    · have t3 : decide (a ≥ 0) = true := by simpa using q3
      have e3 : decide (0 ≤ a) = true := by simpa using q3
      rw [e3]
      simp only [Bool.true_and]
      go_enter Try.func89, Try.ntmps89
      go_wp2_with fail
      refine (hs _).mono ?_
      rintro x w1 ⟨rfl, rfl⟩
      go_wp2_with fail
      refine (hl _).mono ?_
      rintro x w1 ⟨rfl, rfl⟩
      go_wp2
      go_ret
      exact ⟨rfl, (by repeat (first | exact Below.refl _ _ | refine Below.alloc ?_ (by simp) _ | refine Below.setCell ?_ (by simp) _))⟩
    · have t3 : decide (a ≥ 0) = false := by simpa using q3
      have e3 : decide (0 ≤ a) = false := by simpa using q3
      rw [e3]
      simp only [Bool.true_and, Bool.false_and]
      go_enter Try.func89, Try.ntmps89
      go_wp2_with fail
      refine (hs _).mono ?_
      rintro x w1 ⟨rfl, rfl⟩
      go_wp2_with fail
      refine (hl _).mono ?_
      rintro x w1 ⟨rfl, rfl⟩
      go_wp2
      go_ret
      exact ⟨rfl, (by repeat (first | exact Below.refl _ _ | refine Below.alloc ?_ (by simp) _ | refine Below.setCell ?_ (by simp) _))⟩

theorem bndI_eq {k sd s a m : Int} {n : Nat} (h : formB k n s a m = true) : bndI k sd s a m = bndB k sd s a m := by
  have h := of_decide_eq_true h
  unfold bndI bndB inB
  rcases h with ⟨rfl, rfl, rfl, rfl⟩ | ⟨rfl, _, rfl, rfl, rfl⟩ | ⟨rfl, _, rfl, rfl⟩ | ⟨rfl, _⟩
  · simp
  · simp
  · simp
  · generalize sideB sd = p
    generalize slotB s = q
    cases p <;> cases q
    · simp
    · simp
    · simp
    · rw [Bool.eq_iff_iff]; simp; omega

set_option linter.unusedVariables false in
set_option maxHeartbeats 4000000 in
theorem implEventFault_any (k sd : Int) (A : Option Addr) (n c : Nat) (s a m : Int) (w : World) :
    Calls Try.prog 20 #[.agg #[.int .i64 k, .int .i64 sd, .slice A n c, .int .i64 s, .int .i64 a, .int .i64 m]] w fun e w' => e = .returned (.int .i64 (evF k sd n s a m)) ∧ Below w.heap.size w w' := by
  have hf := fun W => hasForm_any k sd A n c s a m W
  have hb := fun W => hasBounds_any k sd A n c s a m W
  have S0 := Stc.new w 35 [.int .i64 k, .int .i64 sd, .slice A n c, .int .i64 s, .int .i64 a, .int .i64 m] _ rfl
  have B0 := ab (Below.refl _ w) (.cells #[.int .i64 k, .int .i64 sd, .slice A n c, .int .i64 s, .int .i64 a, .int .i64 m] 35)
  unfold evF
  cases q1 : formB k n s a m
  · rw [if_neg (by simp)]
    rw [q1] at hf
    go_enter Try.func20, Try.ntmps20
    go_wp2_with fail
    refine (hf _).mono ?_
    rintro x w1 ⟨rfl, b1⟩
    go_wp2
    go_ret
    exact ⟨rfl, ac B0 b1⟩
  rw [if_pos rfl]
  rw [bndI_eq q1] at hb
  rw [q1] at hf
  cases q2 : bndB k sd s a m
  · rw [if_neg (by simp)]
    rw [q2] at hb
    clear q1 q2
    go_enter Try.func20, Try.ntmps20
    go_wp2_with fail
    refine (hf _).mono ?_
    rintro x w1 ⟨rfl, b1⟩
    have S1 := S0.below b1 S0.lt
    have x0 := S1.cell (i := 0) rfl
    have x1 := S1.cell (i := 1) rfl
    have x2 := S1.cell (i := 2) rfl
    have x3 := S1.cell (i := 3) rfl
    have x4 := S1.cell (i := 4) rfl
    have x5 := S1.cell (i := 5) rfl
    go_wp2_with fail
    refine (hb _).mono ?_
    rintro x w2 ⟨rfl, b2⟩
    go_wp2
    go_ret
    exact ⟨rfl, ac (ac B0 b1) b2⟩
  rw [if_pos rfl]
  rw [q2] at hb
  clear q1 q2
  obtain ⟨z, hz, t⟩ : ∃ z : Int, (if n ≤ 1000 then (0 : Int) else 2) = z ∧ ((z = 0 ∧ decide ((n : Int) > 1000) = false) ∨ (z = 2 ∧ decide ((n : Int) > 1000) = true)) := by
    by_cases h : n ≤ 1000
    · exact ⟨0, if_pos h, .inl ⟨rfl, by simp; omega⟩⟩
    · exact ⟨2, if_neg h, .inr ⟨rfl, by simp; omega⟩⟩
  rw [hz]
  clear hz
  rcases t with ⟨rfl, t⟩ | ⟨rfl, t⟩
  · go_enter Try.func20, Try.ntmps20
    go_wp2_with fail
    refine (hf _).mono ?_
    rintro x w1 ⟨rfl, b1⟩
    have S1 := S0.below b1 S0.lt
    have x0 := S1.cell (i := 0) rfl
    have x1 := S1.cell (i := 1) rfl
    have x2 := S1.cell (i := 2) rfl
    have x3 := S1.cell (i := 3) rfl
    have x4 := S1.cell (i := 4) rfl
    have x5 := S1.cell (i := 5) rfl
    go_wp2_with fail
    refine (hb _).mono ?_
    rintro x w2 ⟨rfl, b2⟩
    have S2 := S1.below b2 S1.lt
    have y2 := S2.cell (i := 2) rfl
    clear x0 x1 x2 x3 x4 x5
    go_wp2
    go_ret
    exact ⟨rfl, ac (ac B0 b1) b2⟩
  · go_enter Try.func20, Try.ntmps20
    go_wp2_with fail
    refine (hf _).mono ?_
    rintro x w1 ⟨rfl, b1⟩
    have S1 := S0.below b1 S0.lt
    have x0 := S1.cell (i := 0) rfl
    have x1 := S1.cell (i := 1) rfl
    have x2 := S1.cell (i := 2) rfl
    have x3 := S1.cell (i := 3) rfl
    have x4 := S1.cell (i := 4) rfl
    have x5 := S1.cell (i := 5) rfl
    go_wp2_with fail
    refine (hb _).mono ?_
    rintro x w2 ⟨rfl, b2⟩
    have S2 := S1.below b2 S1.lt
    have y2 := S2.cell (i := 2) rfl
    clear x0 x1 x2 x3 x4 x5
    go_wp2
    go_ret
    exact ⟨rfl, ac (ac B0 b1) b2⟩

set_option linter.unusedVariables false in
set_option maxHeartbeats 4000000 in
theorem l10Form_any (g : Nat) (k sd : Int) (A : Option Addr) (n c : Nat) (s a m : Int) (w : World) (b1 b2 b3 : Bool) (hS : Stc w g [.int .i64 k, .int .i64 sd, .slice A n c, .int .i64 s, .int .i64 a, .int .i64 m] 35) :
    Calls Try.prog 84 #[.pointer (some ⟨g, 0, none⟩), .bool b1, .bool b2, .bool b3] w fun e w' => e = .returned (.bool ((b1 || decide (n = 0)) && ((b2 || decide (s = 0)) && (b3 || (decide (a = 0) && decide (m = 0)))))) ∧ w = w' := by
  have x2 := hS.cell (i := 2) rfl
  have x3 := hS.cell (i := 3) rfl
  have x4 := hS.cell (i := 4) rfl
  have x5 := hS.cell (i := 5) rfl
  obtain ⟨un, hn⟩ : ∃ u, u = decide (n = 0) := ⟨_, rfl⟩
  obtain ⟨us, hs⟩ : ∃ u, u = decide (s = 0) := ⟨_, rfl⟩
  obtain ⟨ua, ha⟩ : ∃ u, u = decide (a = 0) := ⟨_, rfl⟩
  obtain ⟨um, hm⟩ : ∃ u, u = decide (m = 0) := ⟨_, rfl⟩
  rw [← hn, ← hs, ← ha, ← hm]
  have tn : ((n : Int) == 0) = un := by rw [hn, Bool.eq_iff_iff]; simp
  have ts : (s == 0) = us := by rw [hs, Bool.eq_iff_iff]; simp
  have ta : (a == 0) = ua := by rw [ha, Bool.eq_iff_iff]; simp
  have tm : (m == 0) = um := by rw [hm, Bool.eq_iff_iff]; simp
  clear hn hs ha hm
  cases b1 <;> cases b2 <;> cases b3 <;> cases un <;> cases us <;> cases ua
  all_goals
    go_enter Try.func84, Try.ntmps84
    go_wp2
    go_ret
    first | exact ⟨rfl, rfl⟩ | exact ⟨by simp, rfl⟩

set_option linter.unusedVariables false in
set_option maxHeartbeats 8000000 in
theorem specEventFault_any (k sd : Int) (A : Option Addr) (n c : Nat) (s a m : Int) (w : World) :
    Calls Try.prog 18 #[.agg #[.int .i64 k, .int .i64 sd, .slice A n c, .int .i64 s, .int .i64 a, .int .i64 m]] w fun e w' => e = .returned (.int .i64 (evF k sd n s a m)) ∧ Below w.heap.size w w' := by
  have S0 := Stc.new w 35 [.int .i64 k, .int .i64 sd, .slice A n c, .int .i64 s, .int .i64 a, .int .i64 m] _ rfl
  have B0 := ab (Below.refl _ w) (.cells #[.int .i64 k, .int .i64 sd, .slice A n c, .int .i64 s, .int .i64 a, .int .i64 m] 35)
  have x0 := S0.cell (i := 0) rfl
  have x1 := S0.cell (i := 1) rfl
  have x2 := S0.cell (i := 2) rfl
  have x3 := S0.cell (i := 3) rfl
  have x4 := S0.cell (i := 4) rfl
  have x5 := S0.cell (i := 5) rfl
  have hd := fun W => l10Side_any sd W
  have hl := fun W => Slot_any s W
  have h4a := fun W => In_any a 0 63 W
  have h4m := fun W => In_any m 1 255 W
  obtain ⟨tn, hN⟩ : ∃ t, decide ((n : Int) > 1000) = t := ⟨_, rfl⟩
  have eN : (if n ≤ 1000 then (0 : Int) else 2) = if tn = true then 2 else 0 := by
    cases tn
    · have := of_decide_eq_false hN; rw [if_pos (by omega), if_neg (by simp)]
    · have := of_decide_eq_true hN; rw [if_neg (by omega), if_pos rfl]
  by_cases k1 : k = 1
  · subst k1
    have hf := fun W L => l10Form_any w.heap.size 1 sd A n c s a m W true false false L
    have eF : ((true || decide (n = 0)) && ((false || decide (s = 0)) && (false || (decide (a = 0) && decide (m = 0))))) = formB 1 n s a m := by rw [Bool.eq_iff_iff]; simp [formB]
    simp only [eF] at hf
    clear eF
    cases q0 : formB 1 n s a m
    · have E : evF 1 sd n s a m = 1 := by unfold evF; rw [q0]; rfl
      rw [q0] at hf; clear q0 eN
      go_enter Try.func18, Try.ntmps18
      go_wp2_with fail
      refine (hf _ S0).mono ?_
      rintro x w1 ⟨rfl, rfl⟩
      go_wp2
      go_ret
      exact ⟨by rw [E]; rfl, B0⟩
    rw [q0] at hf
    cases q1 : sideB sd
    · have E : evF 1 sd n s a m = 3 := by unfold evF bndB; rw [q0, q1]; rfl
      rw [q1] at hd; clear q0 q1 eN
      go_enter Try.func18, Try.ntmps18
      go_wp2_with fail
      refine (hf _ S0).mono ?_
      rintro x w1 ⟨rfl, rfl⟩
      go_wp2_with fail
      refine (hd _).mono ?_
      rintro x w1 ⟨rfl, rfl⟩
      go_wp2
      go_ret
      exact ⟨by rw [E]; rfl, B0⟩
    rw [q1] at hd
    cases q2 : slotB s
    · have E : evF 1 sd n s a m = 3 := by unfold evF bndB; rw [q0, q1, q2]; rfl
      rw [q2] at hl; clear q0 q1 q2 eN
      go_enter Try.func18, Try.ntmps18
      go_wp2_with fail
      refine (hf _ S0).mono ?_
      rintro x w1 ⟨rfl, rfl⟩
      go_wp2_with fail
      refine (hd _).mono ?_
      rintro x w1 ⟨rfl, rfl⟩
      go_wp2_with fail
      refine (hl _).mono ?_
      rintro x w1 ⟨rfl, rfl⟩
      go_wp2
      go_ret
      exact ⟨by rw [E]; rfl, B0⟩
    rw [q2] at hl
    have E0 : evF 1 sd n s a m = if tn = true then 2 else 0 := by rw [← eN]; unfold evF bndB; rw [q0, q1, q2]; rfl
    clear q0 q1 q2 eN
    cases tn
    · have E : evF 1 sd n s a m = 0 := E0
      clear E0
      go_enter Try.func18, Try.ntmps18
      go_wp2_with fail
      refine (hf _ S0).mono ?_
      rintro x w1 ⟨rfl, rfl⟩
      go_wp2_with fail
      refine (hd _).mono ?_
      rintro x w1 ⟨rfl, rfl⟩
      go_wp2_with fail
      refine (hl _).mono ?_
      rintro x w1 ⟨rfl, rfl⟩
      go_wp2
      go_ret
      exact ⟨by rw [E]; rfl, B0⟩
    · have E : evF 1 sd n s a m = 2 := E0
      clear E0
      go_enter Try.func18, Try.ntmps18
      go_wp2_with fail
      refine (hf _ S0).mono ?_
      rintro x w1 ⟨rfl, rfl⟩
      go_wp2_with fail
      refine (hd _).mono ?_
      rintro x w1 ⟨rfl, rfl⟩
      go_wp2_with fail
      refine (hl _).mono ?_
      rintro x w1 ⟨rfl, rfl⟩
      go_wp2
      go_ret
      exact ⟨by rw [E]; rfl, B0⟩
  have u1 : (k == 1) = false := by simpa using k1
  by_cases k2 : k = 2
  · subst k2
    have hf := fun W L => l10Form_any w.heap.size 2 sd A n c s a m W false false false L
    have eF : ((false || decide (n = 0)) && ((false || decide (s = 0)) && (false || (decide (a = 0) && decide (m = 0))))) = formB 2 n s a m := by rw [Bool.eq_iff_iff]; simp [formB]
    simp only [eF] at hf
    clear eF
    cases q0 : formB 2 n s a m
    · have E : evF 2 sd n s a m = 1 := by unfold evF; rw [q0]; rfl
      rw [q0] at hf; clear q0 eN
      go_enter Try.func18, Try.ntmps18
      go_wp2_with fail
      refine (hf _ S0).mono ?_
      rintro x w1 ⟨rfl, rfl⟩
      go_wp2
      go_ret
      exact ⟨by rw [E]; rfl, B0⟩
    rw [q0] at hf
    cases q1 : sideB sd
    · have E : evF 2 sd n s a m = 3 := by unfold evF bndB; rw [q0, q1]; rfl
      rw [q1] at hd; clear q0 q1 eN
      go_enter Try.func18, Try.ntmps18
      go_wp2_with fail
      refine (hf _ S0).mono ?_
      rintro x w1 ⟨rfl, rfl⟩
      go_wp2_with fail
      refine (hd _).mono ?_
      rintro x w1 ⟨rfl, rfl⟩
      go_wp2
      go_ret
      exact ⟨by rw [E]; rfl, B0⟩
    rw [q1] at hd
    cases q2 : slotB s
    · have E : evF 2 sd n s a m = 3 := by unfold evF bndB; rw [q0, q1, q2]; rfl
      rw [q2] at hl; clear q0 q1 q2 eN
      go_enter Try.func18, Try.ntmps18
      go_wp2_with fail
      refine (hf _ S0).mono ?_
      rintro x w1 ⟨rfl, rfl⟩
      go_wp2_with fail
      refine (hd _).mono ?_
      rintro x w1 ⟨rfl, rfl⟩
      go_wp2_with fail
      refine (hl _).mono ?_
      rintro x w1 ⟨rfl, rfl⟩
      go_wp2
      go_ret
      exact ⟨by rw [E]; rfl, B0⟩
    rw [q2] at hl
    have E0 : evF 2 sd n s a m = if tn = true then 2 else 0 := by rw [← eN]; unfold evF bndB; rw [q0, q1, q2]; rfl
    clear q0 q1 q2 eN
    cases tn
    · have E : evF 2 sd n s a m = 0 := E0
      clear E0
      go_enter Try.func18, Try.ntmps18
      go_wp2_with fail
      refine (hf _ S0).mono ?_
      rintro x w1 ⟨rfl, rfl⟩
      go_wp2_with fail
      refine (hd _).mono ?_
      rintro x w1 ⟨rfl, rfl⟩
      go_wp2_with fail
      refine (hl _).mono ?_
      rintro x w1 ⟨rfl, rfl⟩
      go_wp2
      go_ret
      exact ⟨by rw [E]; rfl, B0⟩
    · have E : evF 2 sd n s a m = 2 := E0
      clear E0
      go_enter Try.func18, Try.ntmps18
      go_wp2_with fail
      refine (hf _ S0).mono ?_
      rintro x w1 ⟨rfl, rfl⟩
      go_wp2_with fail
      refine (hd _).mono ?_
      rintro x w1 ⟨rfl, rfl⟩
      go_wp2_with fail
      refine (hl _).mono ?_
      rintro x w1 ⟨rfl, rfl⟩
      go_wp2
      go_ret
      exact ⟨by rw [E]; rfl, B0⟩
  have u2 : (k == 2) = false := by simpa using k2
  by_cases k3 : k = 3
  · subst k3
    have hf := fun W L => l10Form_any w.heap.size 3 sd A n c s a m W false true false L
    have eF : ((false || decide (n = 0)) && ((true || decide (s = 0)) && (false || (decide (a = 0) && decide (m = 0))))) = formB 3 n s a m := by rw [Bool.eq_iff_iff]; simp [formB]
    simp only [eF] at hf
    clear eF
    cases q0 : formB 3 n s a m
    · have E : evF 3 sd n s a m = 1 := by unfold evF; rw [q0]; rfl
      rw [q0] at hf; clear q0 eN
      go_enter Try.func18, Try.ntmps18
      go_wp2_with fail
      refine (hf _ S0).mono ?_
      rintro x w1 ⟨rfl, rfl⟩
      go_wp2
      go_ret
      exact ⟨by rw [E]; rfl, B0⟩
    rw [q0] at hf
    cases q1 : sideB sd
    · have E : evF 3 sd n s a m = 3 := by unfold evF bndB; rw [q0, q1]; rfl
      rw [q1] at hd; clear q0 q1 eN
      go_enter Try.func18, Try.ntmps18
      go_wp2_with fail
      refine (hf _ S0).mono ?_
      rintro x w1 ⟨rfl, rfl⟩
      go_wp2_with fail
      refine (hd _).mono ?_
      rintro x w1 ⟨rfl, rfl⟩
      go_wp2
      go_ret
      exact ⟨by rw [E]; rfl, B0⟩
    rw [q1] at hd
    cases q2 : slotB s
    · have E : evF 3 sd n s a m = 3 := by unfold evF bndB; rw [q0, q1, q2]; rfl
      rw [q2] at hl; clear q0 q1 q2 eN
      go_enter Try.func18, Try.ntmps18
      go_wp2_with fail
      refine (hf _ S0).mono ?_
      rintro x w1 ⟨rfl, rfl⟩
      go_wp2_with fail
      refine (hd _).mono ?_
      rintro x w1 ⟨rfl, rfl⟩
      go_wp2_with fail
      refine (hl _).mono ?_
      rintro x w1 ⟨rfl, rfl⟩
      go_wp2
      go_ret
      exact ⟨by rw [E]; rfl, B0⟩
    rw [q2] at hl
    have E0 : evF 3 sd n s a m = if tn = true then 2 else 0 := by rw [← eN]; unfold evF bndB; rw [q0, q1, q2]; rfl
    clear q0 q1 q2 eN
    cases tn
    · have E : evF 3 sd n s a m = 0 := E0
      clear E0
      go_enter Try.func18, Try.ntmps18
      go_wp2_with fail
      refine (hf _ S0).mono ?_
      rintro x w1 ⟨rfl, rfl⟩
      go_wp2_with fail
      refine (hd _).mono ?_
      rintro x w1 ⟨rfl, rfl⟩
      go_wp2_with fail
      refine (hl _).mono ?_
      rintro x w1 ⟨rfl, rfl⟩
      go_wp2
      go_ret
      exact ⟨by rw [E]; rfl, B0⟩
    · have E : evF 3 sd n s a m = 2 := E0
      clear E0
      go_enter Try.func18, Try.ntmps18
      go_wp2_with fail
      refine (hf _ S0).mono ?_
      rintro x w1 ⟨rfl, rfl⟩
      go_wp2_with fail
      refine (hd _).mono ?_
      rintro x w1 ⟨rfl, rfl⟩
      go_wp2_with fail
      refine (hl _).mono ?_
      rintro x w1 ⟨rfl, rfl⟩
      go_wp2
      go_ret
      exact ⟨by rw [E]; rfl, B0⟩
  have u3 : (k == 3) = false := by simpa using k3
  by_cases k4 : k = 4
  · subst k4
    have hf := fun W L => l10Form_any w.heap.size 4 sd A n c s a m W false true true L
    have eF : ((false || decide (n = 0)) && ((true || decide (s = 0)) && (true || (decide (a = 0) && decide (m = 0))))) = formB 4 n s a m := by rw [Bool.eq_iff_iff]; simp [formB]
    simp only [eF] at hf
    clear eF
    cases q0 : formB 4 n s a m
    · have E : evF 4 sd n s a m = 1 := by unfold evF; rw [q0]; rfl
      rw [q0] at hf; clear q0 eN
      go_enter Try.func18, Try.ntmps18
      go_wp2_with fail
      refine (hf _ S0).mono ?_
      rintro x w1 ⟨rfl, rfl⟩
      go_wp2
      go_ret
      exact ⟨by rw [E]; rfl, B0⟩
    rw [q0] at hf
    cases q1 : sideB sd
    · have E : evF 4 sd n s a m = 3 := by unfold evF bndB; rw [q0, q1]; rfl
      rw [q1] at hd; clear q0 q1 eN
      go_enter Try.func18, Try.ntmps18
      go_wp2_with fail
      refine (hf _ S0).mono ?_
      rintro x w1 ⟨rfl, rfl⟩
      go_wp2_with fail
      refine (hd _).mono ?_
      rintro x w1 ⟨rfl, rfl⟩
      go_wp2
      go_ret
      exact ⟨by rw [E]; rfl, B0⟩
    rw [q1] at hd
    cases q2 : slotB s
    · have E : evF 4 sd n s a m = 3 := by unfold evF bndB; rw [q0, q1, q2]; rfl
      rw [q2] at hl; clear q0 q1 q2 eN
      go_enter Try.func18, Try.ntmps18
      go_wp2_with fail
      refine (hf _ S0).mono ?_
      rintro x w1 ⟨rfl, rfl⟩
      go_wp2_with fail
      refine (hd _).mono ?_
      rintro x w1 ⟨rfl, rfl⟩
      go_wp2_with fail
      refine (hl _).mono ?_
      rintro x w1 ⟨rfl, rfl⟩
      go_wp2
      go_ret
      exact ⟨by rw [E]; rfl, B0⟩
    rw [q2] at hl
    cases q3 : inB a 0 63
    · have E : evF 4 sd n s a m = 3 := by unfold evF bndB; rw [q0, q1, q2, q3]; rfl
      rw [q3] at h4a; clear q0 q1 q2 q3 eN
      go_enter Try.func18, Try.ntmps18
      go_wp2_with fail
      refine (hf _ S0).mono ?_
      rintro x w1 ⟨rfl, rfl⟩
      go_wp2_with fail
      refine (hd _).mono ?_
      rintro x w1 ⟨rfl, rfl⟩
      go_wp2_with fail
      refine (hl _).mono ?_
      rintro x w1 ⟨rfl, rfl⟩
      go_wp2_with fail
      refine (h4a _).mono ?_
      rintro x w1 ⟨rfl, rfl⟩
      go_wp2
      go_ret
      exact ⟨by rw [E]; rfl, B0⟩
    rw [q3] at h4a
    cases q4 : inB m 1 255
    · have E : evF 4 sd n s a m = 3 := by unfold evF bndB; rw [q0, q1, q2, q3, q4]; rfl
      rw [q4] at h4m; clear q0 q1 q2 q3 q4 eN
      go_enter Try.func18, Try.ntmps18
      go_wp2_with fail
      refine (hf _ S0).mono ?_
      rintro x w1 ⟨rfl, rfl⟩
      go_wp2_with fail
      refine (hd _).mono ?_
      rintro x w1 ⟨rfl, rfl⟩
      go_wp2_with fail
      refine (hl _).mono ?_
      rintro x w1 ⟨rfl, rfl⟩
      go_wp2_with fail
      refine (h4a _).mono ?_
      rintro x w1 ⟨rfl, rfl⟩
      go_wp2_with fail
      refine (h4m _).mono ?_
      rintro x w1 ⟨rfl, rfl⟩
      go_wp2
      go_ret
      exact ⟨by rw [E]; rfl, B0⟩
    rw [q4] at h4m
    have E0 : evF 4 sd n s a m = if tn = true then 2 else 0 := by rw [← eN]; unfold evF bndB; rw [q0, q1, q2, q3, q4]; rfl
    clear q0 q1 q2 q3 q4 eN
    cases tn
    · have E : evF 4 sd n s a m = 0 := E0
      clear E0
      go_enter Try.func18, Try.ntmps18
      go_wp2_with fail
      refine (hf _ S0).mono ?_
      rintro x w1 ⟨rfl, rfl⟩
      go_wp2_with fail
      refine (hd _).mono ?_
      rintro x w1 ⟨rfl, rfl⟩
      go_wp2_with fail
      refine (hl _).mono ?_
      rintro x w1 ⟨rfl, rfl⟩
      go_wp2_with fail
      refine (h4a _).mono ?_
      rintro x w1 ⟨rfl, rfl⟩
      go_wp2_with fail
      refine (h4m _).mono ?_
      rintro x w1 ⟨rfl, rfl⟩
      go_wp2
      go_ret
      exact ⟨by rw [E]; rfl, B0⟩
    · have E : evF 4 sd n s a m = 2 := E0
      clear E0
      go_enter Try.func18, Try.ntmps18
      go_wp2_with fail
      refine (hf _ S0).mono ?_
      rintro x w1 ⟨rfl, rfl⟩
      go_wp2_with fail
      refine (hd _).mono ?_
      rintro x w1 ⟨rfl, rfl⟩
      go_wp2_with fail
      refine (hl _).mono ?_
      rintro x w1 ⟨rfl, rfl⟩
      go_wp2_with fail
      refine (h4a _).mono ?_
      rintro x w1 ⟨rfl, rfl⟩
      go_wp2_with fail
      refine (h4m _).mono ?_
      rintro x w1 ⟨rfl, rfl⟩
      go_wp2
      go_ret
      exact ⟨by rw [E]; rfl, B0⟩
  have u4 : (k == 4) = false := by simpa using k4
  have E : evF k sd n s a m = 1 := by simp [evF, formB, k1, k2, k3, k4]
  go_enter Try.func18, Try.ntmps18
  go_wp2
  go_ret
  exact ⟨by rw [E]; rfl, B0⟩
end Go.Proofs.Ytgmbofoneeagiaa
