/- ReadHigh, of the program and of the model. -/
import Derived.Test.YtcanmhlhnihijaaBytesC
import Derived.Test.YtcanmhlhnihijaaTurnC
namespace Go.Proofs.Ytcanmhlhnihijaa
open Go.RowKit

def hiStep (a x : Int) : Int := a * 256 + x
/-- the number of bytes, the highest one first -/
def hi (l : List Int) : Int := l.foldl hiStep 0

theorem hi_snoc (l : List Int) (x : Int) : hi (l ++ [x]) = hi l * 256 + x := by simp [hi, hiStep]
theorem hi_bd (l : List Int) (h : By l) : 0 ≤ hi l ∧ hi l < 256 ^ l.length := by
  have key : ∀ (l : List Int) (a b : Int), By l → 0 ≤ a → a < b → 0 ≤ l.foldl hiStep a ∧ l.foldl hiStep a < b * 256 ^ l.length := by
    intro l
    induction l with
    | nil => intro a b _ h0 h1; simp; omega
    | cons x l ih =>
      intro a b hb h0 h1
      have hx := hb x (by simp)
      have := ih (hiStep a x) (b * 256) (fun y hy => hb y (by simp [hy])) (by unfold hiStep; omega) (by unfold hiStep; omega)
      simpa [Int.pow_succ, Int.mul_assoc, Int.mul_comm, Int.mul_left_comm] using this
  have := key l 0 1 h (by omega) (by omega)
  simpa [hi] using this

theorem hi_take_bd (l : List Int) (h : By l) (k : Nat) (hk : k ≤ 6) : 0 ≤ hi (l.take k) ∧ hi (l.take k) < 281474976710656 := by
  have h1 := hi_bd (l.take k) (fun x hx => h x (List.mem_of_mem_take hx))
  have h2 : ∀ m : Nat, m < 7 → (256 : Int) ^ m ≤ 281474976710656 := by decide
  have h3 := h2 (l.take k).length (by have := List.length_take_le k l; omega)
  omega

theorem take_hi (l : List Int) (k : Nat) (h : k < l.length) : hi (l.take (k + 1)) = hi (l.take k) * 256 + l.getD k 0 := by
  rw [List.take_succ_eq_append_getElem h, hi_snoc]
  simp [List.getD, List.getElem?_eq_getElem h]

theorem or_i64 (a b : Nat) (ha : a < 9223372036854775808) (hb : b < 9223372036854775808) : bits BinOp.or IntKind.i64 (a : Int) (b : Int) = ((a ||| b : Nat) : Int) := by
  have back : ∀ n : Nat, n < 9223372036854775808 → (BitVec.ofInt 64 (n : Int)).toNat = n := by
    intro n hn
    rw [BitVec.ofInt_natCast, BitVec.toNat_ofNat]
    exact Nat.mod_eq_of_lt (by omega)
  have hx : a ||| b < 2 ^ 63 := Nat.or_lt_two_pow (by omega) (by omega)
  show IntKind.i64.wrap ((BitVec.ofInt 64 (a : Int) ||| BitVec.ofInt 64 (b : Int)).toNat : Int) = _
  rw [BitVec.toNat_or, back a ha, back b hb]
  exact IntWalk.i64_in _ (by omega)

/-- a byte put below a number: their bits do not meet -/
theorem or_byte (a x : Int) (ha0 : 0 ≤ a) (ha1 : a < 281474976710656) (hx0 : 0 ≤ x) (hx1 : x < 256) : bits BinOp.or IntKind.i64 (a * 256) x = a * 256 + x := by
  obtain ⟨a, rfl⟩ := Int.eq_ofNat_of_zero_le ha0
  obtain ⟨x, rfl⟩ := Int.eq_ofNat_of_zero_le hx0
  have e : ((a : Int) * 256) = ((a * 256 : Nat) : Int) := by omega
  have h := Nat.shiftLeft_add_eq_or_of_lt (i := 8) (b := x) (by omega) a
  rw [Nat.shiftLeft_eq] at h
  rw [e, or_i64 _ _ (by omega) (by omega), ← h]
  rfl

def rcode (n : Nat) : Int := if 1 ≤ n ∧ n ≤ 7 then 0 else 2
def rhigh (l : List Int) : Int := if 1 ≤ l.length ∧ l.length ≤ 7 then hi l else 0

end Go.Proofs.Ytcanmhlhnihijaa
