import Derived.Test.YtgmbofoneeagiaaDoorHasX
import Derived.Test.YtgmbofoneeagiaaDoorSymB

/-! MacC -/
/- The mac and the keys, of the model. -/
namespace Go.Proofs.YtgmbofoneeagiaaDoor
open Go.RowKit

/-- the first m bytes of a key, of 64, each xored with x -/
def keyed (l : List Int) (x : Int) (m : Nat) : List Int := (List.range 64).map fun i => if i < m then bits BinOp.xor IntKind.u8 (l.getD i 0) x else 0
theorem keyed_len (l : List Int) (x : Int) (m : Nat) : (keyed l x m).length = 64 := by simp [keyed]
theorem keyed_get? (l : List Int) (x : Int) (m i : Nat) (hi : i < 64) : (keyed l x m)[i]? = some (if i < m then bits BinOp.xor IntKind.u8 (l.getD i 0) x else 0) := by
  unfold keyed
  rw [List.getElem?_map, List.getElem?_range hi]; rfl
theorem keyed_zero (l : List Int) (x : Int) : keyed l x 0 = List.replicate 64 0 := by
  apply List.ext_getElem?
  intro i
  rcases Nat.lt_or_ge i 64 with hi | hi
  · rw [keyed_get? l x 0 i hi, if_neg (by omega), List.getElem?_replicate, if_pos hi]
  · rw [List.getElem?_eq_none (by rw [keyed_len]; exact hi), List.getElem?_eq_none (by simpa using hi)]
theorem keyed_set (l : List Int) (x : Int) (m : Nat) (h : m < 64) : (keyed l x m).set m (bits BinOp.xor IntKind.u8 (l.getD m 0) x) = keyed l x (m + 1) := by
  apply List.ext_getElem?
  intro i
  rcases Nat.lt_or_ge i 64 with hi | hi
  · rw [keyed_get? l x (m + 1) i hi]
    by_cases e : m = i
    · subst e
      rw [List.getElem?_set_self (by rw [keyed_len]; exact h), if_pos (by omega)]
    · rw [List.getElem?_set_ne e, keyed_get? l x m i hi]
      by_cases hl : i < m
      · rw [if_pos hl, if_pos (by omega)]
      · rw [if_neg hl, if_neg (by omega)]
  · rw [List.getElem?_eq_none (by rw [List.length_set, keyed_len]; exact hi), List.getElem?_eq_none (by rw [keyed_len]; exact hi)]
theorem xor_bd (x y : Int) (h0 : 0 ≤ x) (h1 : x < 256) (k0 : 0 ≤ y) (k1 : y < 256) : 0 ≤ bits BinOp.xor IntKind.u8 x y ∧ bits BinOp.xor IntKind.u8 x y < 256 := by
  rw [u8_xor x y h0 h1 k0 k1]
  have := Nat.xor_lt_two_pow (n := 8) (x := x.toNat) (y := y.toNat) (by omega) (by omega)
  omega
theorem keyed_byte (l : List Int) (x : Int) (m : Nat) (h : By l) (k0 : 0 ≤ x) (k1 : x < 256) : By (keyed l x m) := by
  intro y hy
  simp only [keyed, List.mem_map] at hy
  obtain ⟨i, _, rfl⟩ := hy
  split
  · exact xor_bd _ _ (h.get i).1 (h.get i).2 k0 k1
  · omega
theorem Blk.row {w : World} {B b : Nat} {l : List Int} (h : Blk w b l) (hl : By l) (hB : B ≤ b) (n : Nat) (hn : l.length = n) (hm : n ≤ 1000000) : Row w B (.slice (some ⟨b, 0, none⟩) n n) l := by
  subst hn
  exact ⟨hl, ⟨by simp, .inr ⟨b, l.length, _, rfl, hB, h, Nat.le_refl _, by unfold maxLen; omega, by simp, by simp; exact List.take_of_length_le (by simp)⟩⟩⟩
/-- cells of n zero bytes -/
def zeroBytes (n : Nat) : Array Value := ((List.replicate n (0 : Int)).map (Value.int .u8)).toArray
def macW (key data : List Int) : List Int := hashW (keyed key 92 64 ++ hashW (keyed key 54 64 ++ data))
theorem macW_len (key data : List Int) : (macW key data).length = 32 := hashW_len _

end Go.Proofs.YtgmbofoneeagiaaDoor

/-! KeysC -/
/- The keys, of the model. -/
namespace Go.Proofs.YtgmbofoneeagiaaDoor
open Go.RowKit

def firstW (l r : List Int) : List Int := macW (macW l r) [1]
def otherW (l r : List Int) : List Int := macW (macW l r) (firstW l r ++ [2])

end Go.Proofs.YtgmbofoneeagiaaDoor
