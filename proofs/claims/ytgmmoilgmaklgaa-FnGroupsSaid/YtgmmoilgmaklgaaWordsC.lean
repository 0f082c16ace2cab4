/- What FnWords's law asks besides: its draws; numbers are read back from their bytes. -/
import Derived.Test.YtgmmoilgmaklgaaBase
import Derived.Test.YtgmmoilgmaklgaaJoinLow
import Derived.Test.YtgmmoilgmaklgaaTurnsC
namespace Go.Proofs.Ytgmmoilgmaklgaa
open Go.RowKit

def numList : List Int := [0, 1, 255, 256, 65535, 4294967295, 72057594037927935, 72057594037927936, -1]
def sizeList : List Int := [1, 2, 4, 7, 0, 8]
theorem numList_bd : ∀ v ∈ numList, v ≤ 72057594037927936 := by decide
theorem sizeList_bd : ∀ v ∈ sizeList, 0 ≤ v ∧ v ≤ 8 := by decide

theorem lowOf_cons (n : Int) (k : Nat) : lowOf n (k + 1) = n % 256 :: lowOf (n / 256) k := by
  unfold lowOf
  rw [List.range_succ_eq_map, List.map_cons, List.map_map]
  simp only [Int.pow_zero, Int.ediv_one]
  congr 1
  apply List.map_congr_left
  intro i _
  simp only [Function.comp]
  rw [Int.ediv_ediv_of_nonneg (by omega), Int.pow_succ, Int.mul_comm]

/-- a number is read back from its bytes -/
theorem hi_lowOf (n : Int) (m : Nat) (h0 : 0 ≤ n) (h1 : n < 256 ^ m) : hi (lowOf n m).reverse = n := by
  induction m generalizing n with
  | zero =>
    simp at h1
    have : n = 0 := by omega
    subst this
    rfl
  | succ m ih =>
    rw [lowOf_cons, List.reverse_cons, hi_snoc, ih (n / 256) (by omega) (by rw [Int.pow_succ] at h1; omega)]
    omega

/-- bytes are read back from their number -/
theorem lowOf_hi (l : List Int) (h : By l) : lowOf (hi l) l.length = l.reverse := by
  have key : ∀ r : List Int, By r → lowOf (hi r.reverse) r.length = r := by
    intro r
    induction r with
    | nil => intro _; rfl
    | cons x r ih =>
      intro hb
      have hx := hb x (by simp)
      have hr : By r := fun y hy => hb y (by simp [hy])
      rw [List.reverse_cons, hi_snoc, List.length_cons, lowOf_cons, show (hi r.reverse * 256 + x) % 256 = x by omega, show (hi r.reverse * 256 + x) / 256 = hi r.reverse by omega, ih hr]
  have := key l.reverse (fun x hx => h x (by simpa using hx))
  simpa using this

theorem fit_of (n : Int) (size : Int) (h : fitB n size = true) : 1 ≤ size.toNat ∧ size.toNat ≤ 7 ∧ hi (lowOf n size.toNat).reverse = n := by
  simp [fitB] at h
  exact ⟨by omega, by omega, hi_lowOf n _ h.2.2.1 h.2.2.2⟩

theorem fit_hi (l : List Int) (h : By l) (h1 : 1 ≤ l.length) (h7 : l.length ≤ 7) : fitB (hi l) (l.length : Int) = true := by
  have hb := hi_bd l h
  simp [fitB]
  omega
theorem phigh_hi (l : List Int) (h : By l) (h1 : 1 ≤ l.length) (h7 : l.length ≤ 7) : phigh (hi l) (l.length : Int) = l ∧ plen (hi l) (l.length : Int) = l.length := by
  have hf := fit_hi l h h1 h7
  unfold phigh plow plen
  rw [if_pos hf, if_pos hf, Int.toNat_natCast, lowOf_hi l h, List.reverse_reverse]
  exact ⟨rfl, rfl⟩
theorem plow_lo (l : List Int) (h : By l) (h1 : 1 ≤ l.length) (h7 : l.length ≤ 7) : plow (lo l) (l.length : Int) = l ∧ plen (lo l) (l.length : Int) = l.length := by
  have hr : By l.reverse := fun x hx => h x (by simpa using hx)
  have e : l.reverse.length = l.length := List.length_reverse
  have hf := fit_hi l.reverse hr (by omega) (by omega)
  rw [e] at hf
  unfold plow plen lo
  rw [if_pos hf, if_pos hf, Int.toNat_natCast]
  have hl := lowOf_hi l.reverse hr
  rw [e] at hl
  rw [hl, List.reverse_reverse]
  exact ⟨rfl, rfl⟩
end Go.Proofs.Ytgmmoilgmaklgaa
