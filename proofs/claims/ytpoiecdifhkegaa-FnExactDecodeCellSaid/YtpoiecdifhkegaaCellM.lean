/- The bytes of a cell, and what may be a cell: plain mathematics. -/
import Derived.Test.YtpoiecdifhkegaaBase
namespace Go.Proofs.Ytpoiecdifhkegaa
open Go.RowKit

/-- what a cell's fault is -/
def cellC (a b c d : Int) (v : Bool) (n : Nat) : Int :=
  if (a ≠ 0 ∧ a ≠ 1) ∨ (a = 0 ∧ (b ≠ 0 ∨ v = true ∨ n ≠ 0)) then 1
  else if inB b 0 9999 = true ∧ inB c 0 10000 = true ∧ inB d 0 255 = true then (if n ≤ 32 then 0 else 2) else 3

/-- two bytes of a number, the highest one first -/
def hi2 (n : Int) : List Int := (lowOf n 2).reverse
theorem hi2_eq (n : Int) : hi2 n = [n / 256 % 256, n % 256] := by
  simp [hi2, lowOf, List.range_succ]
theorem hi2_by (n : Int) : By (hi2 n) := fun x hx => lowOf_byte n 2 x (List.mem_reverse.1 hx)
theorem hi2_len (n : Int) : (hi2 n).length = 2 := by simp [hi2_eq]

def bit (v : Bool) : Int := if v then 1 else 0

/-- the text of a cell -/
def cellL (a b c d : Int) (v : Bool) (l : List Int) : List Int :=
  a :: (hi2 b ++ (hi2 c ++ (d :: bit v :: (l.length : Int) :: (l ++ List.replicate (36 - l.length) 0))))
theorem cellL_len (a b c d : Int) (v : Bool) (l : List Int) (h : l.length ≤ 36) : (cellL a b c d v l).length = 44 := by
  simp [cellL, hi2_len]; omega

/-- the empty text with the fields of all kinds laid into it -/
def laid3 (a c d : Int) : List Int := (laidOver ((List.replicate 44 (0 : Int)).set 0 a) 3 (hi2 c)).set 5 d
theorem laid3_eq (a c d : Int) : laid3 a c d = a :: 0 :: 0 :: (hi2 c ++ (d :: 0 :: 0 :: List.replicate 36 0)) := by
  simp [laid3, laidOver, hi2_eq, List.replicate]
theorem dummy_eq (c d : Int) : laid3 0 c d = cellL 0 0 c d false [] := by
  rw [laid3_eq]
  simp [cellL, hi2_eq, bit, List.replicate]

/-- and then those of data -/
def laid7 (a b c d : Int) (v : Bool) (n : Int) : List Int := ((if v then (laidOver (laid3 a c d) 1 (hi2 b)).set 6 1 else laidOver (laid3 a c d) 1 (hi2 b))).set 7 n
theorem laid7_eq (a b c d : Int) (v : Bool) (n : Int) : laid7 a b c d v n = a :: (hi2 b ++ (hi2 c ++ (d :: bit v :: n :: List.replicate 36 0))) := by
  unfold laid7
  rw [laid3_eq]
  cases v <;> simp [laidOver, hi2_eq, bit]
theorem data_eq (a b c d : Int) (v : Bool) (l : List Int) : laidOver (laid7 a b c d v l.length) 8 l = cellL a b c d v l := by
  rw [laid7_eq]
  have e : List.drop l.length (List.replicate 36 (0 : Int)) = List.replicate (36 - l.length) 0 := List.drop_replicate ..
  unfold cellL
  rw [← e]
  generalize List.replicate 36 (0 : Int) = Z
  simp [laidOver, hi2_eq, Nat.add_comm 8]
theorem laid3_len (a c d : Int) : (laid3 a c d).length = 44 := by simp [laid3_eq, hi2_len]
theorem laid7_len (a b c d : Int) (v : Bool) (n : Int) : (laid7 a b c d v n).length = 44 := by simp [laid7_eq, hi2_len]
end Go.Proofs.Ytpoiecdifhkegaa
