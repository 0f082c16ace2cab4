/- Factors, secrets, MulMod; the squares one after the other, power, PowMod. -/
import Derived.Test.YtgmmoilgmaklgaaProdP
namespace Go.Proofs.Ytgmmoilgmaklgaa
open Go.RowKit

theorem isFactor_any (a : Int) (w : World) :
    Calls Try.prog 35 #[.int .i64 a] w fun e w' => e = .returned (.bool (facB a)) ∧ w = w' := by
  by_cases h1 : 0 ≤ a
  · by_cases h2 : a ≤ 2305843009213693950
    · go_enter Try.func35, Try.ntmps35
      go_wp2
      go_ret
      exact ⟨by simp [facB, inB, h1, h2], rfl⟩
    · go_enter Try.func35, Try.ntmps35
      go_wp2
      go_ret
      exact ⟨by simp [facB, inB, h1, h2], rfl⟩
  · go_enter Try.func35, Try.ntmps35
    go_wp2
    go_ret
    exact ⟨by simp [facB, inB]; omega, rfl⟩
theorem isSecret_any (a : Int) (w : World) :
    Calls Try.prog 41 #[.int .i64 a] w fun e w' => e = .returned (.bool (secB a)) ∧ w = w' := by
  by_cases h1 : 1 ≤ a
  · by_cases h2 : a ≤ 2305843009213693949
    · go_enter Try.func41, Try.ntmps41
      go_wp2
      go_ret
      exact ⟨by simp [secB, inB, h1, h2], rfl⟩
    · go_enter Try.func41, Try.ntmps41
      go_wp2
      go_ret
      exact ⟨by simp [secB, inB, h1, h2], rfl⟩
  · go_enter Try.func41, Try.ntmps41
    go_wp2
    go_ret
    exact ⟨by simp [secB, inB]; omega, rfl⟩

theorem implMulMod_any (a b : Int) (w : World) :
    Calls Try.prog 11 #[.int .i64 a, .int .i64 b] w fun e w' => e = .returned (.agg #[.int .i64 (mulC a b), .int .i64 (mulV a b)]) ∧ Below w.heap.size w w' := by
  by_cases h1 : facB a = true
  · by_cases h2 : facB b = true
    · obtain ⟨x, rfl, hx⟩ := facB_nat h1
      obtain ⟨y, rfl, hy⟩ := facB_nat h2
      have hf : mulC x y = 0 ∧ mulV x y = ((x * y % PR : Nat) : Int) := by simp only [mulC, mulV, h1, h2]; exact ⟨rfl, rfl⟩
      have hb := PR_bd (x * y)
      have c := product_any x y hx hy
      obtain ⟨z, hz⟩ : ∃ z, z = x * y % PR := ⟨_, rfl⟩
      rw [← hz] at hf hb c
      have Hf := Lib.hid hf
      clear hf hz
      go_enter Try.func11, Try.ntmps11
      go_wp2_with (first | (go_at_call 35; refine (isFactor_any _ _).mono ?_; rintro e w' ⟨rfl, rfl⟩) | (go_at_call 36; refine (c _).mono ?_; rintro e w' ⟨rfl, n, rfl⟩))
      go_returns
      rw [Hf.out.1, Hf.out.2]
      exact ⟨rfl, ((ad (ab (Below.refl _ w) _) n).setCell (by simp) _).setCell (by simp) _⟩
    · have h3 : facB b = false := by simpa using h2
      have Hf : Hid (mulC a b = 3 ∧ mulV a b = 0) := by show mulC a b = 3 ∧ mulV a b = 0; simp [mulC, mulV, h3]
      clear h2
      go_enter Try.func11, Try.ntmps11
      go_wp2_with (go_at_call 35; refine (isFactor_any _ _).mono ?_; rintro e w' ⟨rfl, rfl⟩)
      go_returns
      rw [Hf.out.1, Hf.out.2]
      exact ⟨rfl, by go_grown⟩
  · have h3 : facB a = false := by simpa using h1
    have Hf : Hid (mulC a b = 3 ∧ mulV a b = 0) := by show mulC a b = 3 ∧ mulV a b = 0; simp [mulC, mulV, h3]
    clear h1
    go_enter Try.func11, Try.ntmps11
    go_wp2_with (go_at_call 35; refine (isFactor_any _ _).mono ?_; rintro e w' ⟨rfl, rfl⟩)
    go_returns
    rw [Hf.out.1, Hf.out.2]
    exact ⟨rfl, by go_grown⟩

theorem mulWalk (a0 a1 : Int) (w : World) :
    Calls Try.prog 4 #[.int .i64 a0, .int .i64 a1] w fun e w' => e = .returned (.bool true) ∧ Below w.heap.size w w' := by
  go_enter Try.func4, Try.ntmps4
  go_wp2_with fail
  refine (specMulMod_any _ _ _).mono ?_
  rintro e w1 ⟨rfl, hb1⟩
  obtain ⟨hc1, hf1, hs1⟩ := bcell hb1
  go_wp2_with fail
  refine (implMulMod_any _ _ _).mono ?_
  rintro e w2 ⟨rfl, hb2⟩
  obtain ⟨hc2, hf2, hs2⟩ := bcell hb2
  simp only [World.size_alloc] at hs2 hc2 hf2
  have hz2 : w1.heap.size < w2.heap.size := by omega
  go_wp2_with fail
  refine (eqInt_any _ _ _ _ _).mono ?_
  rintro e w3 ⟨rfl, hb3⟩
  go_wp2
  go_returns
  exact ⟨rfl, ac (ab (ac (ab hb1 _) hb2) _) hb3⟩
end Go.Proofs.Ytgmmoilgmaklgaa
