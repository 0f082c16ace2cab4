/- XorBytes, of the program and of the model. -/
import Derived.Test.YtcanmhlhnihijaaBytesC
namespace Go.Proofs.Ytcanmhlhnihijaa
open Go.RowKit

def xorB (x y : Int) : Int := bits BinOp.xor IntKind.u8 x y
theorem xorB_bd (x y : Int) (hx0 : 0 ≤ x) (hx1 : x < 256) (hy0 : 0 ≤ y) (hy1 : y < 256) : 0 ≤ xorB x y ∧ xorB x y < 256 := by
  unfold xorB
  rw [u8_xor x y hx0 hx1 hy0 hy1]
  have := Nat.xor_lt_two_pow (n := 8) (x := x.toNat) (y := y.toNat) (by omega) (by omega)
  omega
def xorL (l r : List Int) : List Int := List.zipWith xorB l r
theorem xorL_len (l r : List Int) (h : l.length = r.length) : (xorL l r).length = l.length := by simp [xorL, h]
theorem xorL_get (l r : List Int) (k : Nat) (h1 : k < l.length) (h2 : k < r.length) : (xorL l r).getD k 0 = xorB (l.getD k 0) (r.getD k 0) := by
  simp [xorL, List.getD, List.getElem?_eq_getElem h1, List.getElem?_eq_getElem h2, List.getElem?_zipWith]
theorem xorL_byte (l r : List Int) (hl : By l) (hr : By r) : By (xorL l r) := fun x hx => by
  unfold xorL at hx
  obtain ⟨i, hi, rfl⟩ := List.getElem_of_mem hx
  rw [List.getElem_zipWith]
  have h1 := hl _ (List.getElem_mem (l := l) (n := i) (by simp at hi; omega))
  have h2 := hr _ (List.getElem_mem (l := r) (n := i) (by simp at hi; omega))
  exact xorB_bd _ _ h1.1 h1.2 h2.1 h2.2
theorem take_getD (l : List Int) (k : Nat) (h : k < l.length) : l.take (k + 1) = l.take k ++ [l.getD k 0] := by
  rw [List.take_succ_eq_append_getElem h]
  simp [List.getD, List.getElem?_eq_getElem h]

def xcode (n m : Nat) : Int := if n = m ∧ n ≤ 1000 then 0 else 2
def xlen (n m : Nat) : Nat := if n = m ∧ n ≤ 1000 then n else 0
def xbytes (l r : List Int) : List Int := if l.length = r.length ∧ l.length ≤ 1000 then xorL l r else []

theorem xlen_le (n m : Nat) : xlen n m ≤ 1000 := by
  unfold xlen
  split
  · rename_i h; exact h.2
  · omega
end Go.Proofs.Ytcanmhlhnihijaa
