/- PackLow, of the program and of the model. -/
import Derived.Test.YtcanmhlhnihijaaBytesC
import Derived.Test.YtcanmhlhnihijaaTurnC
namespace Go.Proofs.Ytcanmhlhnihijaa
open Go.RowKit

/-- the lowest k bytes of n, the lowest first -/
def lowOf (n : Int) (k : Nat) : List Int := (List.range k).map fun i : Nat => n / 256 ^ i % 256
theorem lowOf_len (n : Int) (k : Nat) : (lowOf n k).length = k := by simp [lowOf]
theorem lowOf_byte (n : Int) (k : Nat) : By (lowOf n k) := fun x hx => by
  simp only [lowOf, List.mem_map] at hx
  obtain ⟨i, _, rfl⟩ := hx
  omega
theorem lowOf_succ (n : Int) (k : Nat) : lowOf n (k + 1) = lowOf n k ++ [n / 256 ^ k % 256] := by simp [lowOf, List.range_succ]
theorem div_succ (n : Int) (k : Nat) : n / 256 ^ k / 256 = n / 256 ^ (k + 1) := by
  rw [Int.ediv_ediv_of_nonneg (Int.le_of_lt (Int.pow_pos (by omega))), Int.pow_succ]

/-- n fits into size bytes -/
def fitB (n size : Int) : Bool := decide (1 ≤ size ∧ size ≤ 7 ∧ 0 ≤ n ∧ n < 256 ^ size.toNat)

theorem lowOf_lt (n : Int) (k : Nat) (h : 0 ≤ n) : n / 256 ^ k = 0 ↔ n < 256 ^ k := by
  have hp : (0 : Int) < 256 ^ k := Int.pow_pos (by omega)
  constructor
  · intro e
    have := Int.lt_ediv_add_one_mul_self n hp
    rw [e] at this
    omega
  · exact fun hlt => Int.ediv_eq_zero_of_lt h hlt

theorem lowOf_get (n : Int) (m k : Nat) (hk : k < m) : (lowOf n m).getD k 0 = n / 256 ^ k % 256 := by simp [lowOf, List.getD, hk]

theorem pow8 (k : Nat) : (2 : Int) ^ (8 * k) = 256 ^ k := by rw [Int.pow_mul]; rfl

/-- what PackLow answers -/
def pcode (n size : Int) : Int := if fitB n size then 0 else 3
def plow (n size : Int) : List Int := if fitB n size then lowOf n size.toNat else []
def plen (n size : Int) : Nat := if fitB n size then size.toNat else 0
theorem plow_len (n size : Int) : (plow n size).length = plen n size := by unfold plow plen; split <;> simp [lowOf_len]
theorem plow_byte (n size : Int) : By (plow n size) := by unfold plow; split; exact lowOf_byte _ _; exact By.nil

theorem plen_le (n size : Int) : plen n size ≤ 7 := by
  unfold plen
  split
  · rename_i h; simp [fitB] at h; omega
  · omega

theorem i64_of_wf {x : Int} (h : (Lit.int .i64 x).wf = true) : -9223372036854775808 ≤ x ∧ x ≤ 9223372036854775807 := by
  have : IntKind.i64.min ≤ x ∧ x ≤ IntKind.i64.max := by simpa [Lit.wf] using h
  exact this
end Go.Proofs.Ytcanmhlhnihijaa
