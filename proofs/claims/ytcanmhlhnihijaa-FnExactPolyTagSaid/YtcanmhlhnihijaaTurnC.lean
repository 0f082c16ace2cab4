/- Contracts of the functions that TurnWord's exact law calls. -/
import Derived.Test.YtcanmhlhnihijaaKit
namespace Go.Proofs.Ytcanmhlhnihijaa
open Go.RowKit

def wordB (n : Int) : Bool := decide (0 ≤ n ∧ n ≤ 4294967295)
def inB (v lo hi : Int) : Bool := decide (lo ≤ v ∧ v ≤ hi)
/-- the 32 bits of x gone round by b places -/
def turn (x b : Int) : Int := bits BinOp.or IntKind.u32 (x * 2 ^ b.toNat % 4294967296) (x / 2 ^ (32 - b).toNat)

theorem turn_bd (x b : Int) (hx0 : 0 ≤ x) (hx1 : x ≤ 4294967295) (hb : 0 ≤ b) (hb1 : b ≤ 31) : 0 ≤ turn x b ∧ turn x b ≤ 4294967295 := by
  obtain ⟨b, rfl⟩ := Int.eq_ofNat_of_zero_le hb
  obtain ⟨x, rfl⟩ := Int.eq_ofNat_of_zero_le hx0
  have h0 : 0 ≤ (x : Int) / 2 ^ (32 - (b : Int)).toNat := Int.ediv_nonneg (by omega) (Int.le_of_lt (Int.pow_pos (by omega)))
  have h1 : (x : Int) / 2 ^ (32 - (b : Int)).toNat ≤ x := Int.ediv_le_self _ (by omega)
  unfold turn
  rw [u32_or _ _ (Int.emod_nonneg _ (by omega)) (Int.emod_lt_of_pos _ (by omega)) h0 (by omega)]
  have := Nat.or_lt_two_pow (n := 32) (x := ((x : Int) * 2 ^ (b : Int).toNat % 4294967296).toNat) (y := ((x : Int) / 2 ^ (32 - (b : Int)).toNat).toNat) (by omega) (by omega)
  omega

/-- what both functions answer -/
def tcode (x b : Int) : Int := if wordB x && inB b 0 31 then 0 else 3
def tval (x b : Int) : Int := if wordB x && inB b 0 31 then turn x b else 0

end Go.Proofs.Ytcanmhlhnihijaa
