/- Bytes turned round: the model's copy, and slices.Reverse in place. -/
import Derived.Test.YtcanmhlhnihijaaBytesC
namespace Go.Proofs.Ytcanmhlhnihijaa
open Go.RowKit

theorem drop_rev (l : List Int) (k : Nat) (h : k < l.length) : (l.drop (k + 1)).reverse ++ [l.getD k 0] = (l.drop k).reverse := by
  rw [List.drop_eq_getElem_cons h, List.reverse_cons]
  simp [List.getD, List.getElem?_eq_getElem h]

/-- the first k and the last k bytes turned round -/
def mirr (l : List Int) (n k : Nat) : List Int := (List.range n).map fun i => if i < k ∨ n - k ≤ i then l.getD (n - 1 - i) 0 else l.getD i 0
theorem mirr_len (l : List Int) (n k : Nat) : (mirr l n k).length = n := by simp [mirr]
theorem mirr_get (l : List Int) (n k i : Nat) : (mirr l n k)[i]? = if i < n then some (if i < k ∨ n - k ≤ i then l.getD (n - 1 - i) 0 else l.getD i 0) else none := by
  unfold mirr
  by_cases hi : i < n
  · rw [if_pos hi, List.getElem?_map, List.getElem?_range hi]; rfl
  · rw [if_neg hi, List.getElem?_eq_none (by simp; omega)]
theorem mirr_mid (l : List Int) (n k i : Nat) (hi : i < n) (h1 : k ≤ i) (h2 : i < n - k) : (mirr l n k).getD i 0 = l.getD i 0 := by
  have h := mirr_get l n k i
  rw [if_pos hi, if_neg (by omega)] at h
  rw [List.getD, h]; rfl
theorem mirr_zero (l : List Int) (n : Nat) (h : l.length = n) : mirr l n 0 = l := by
  apply List.ext_getElem?
  intro i
  rw [mirr_get]
  by_cases hi : i < n
  · rw [if_pos hi, if_neg (by omega)]
    simp [List.getD, List.getElem?_eq_getElem (show i < l.length by omega)]
  · rw [if_neg hi, List.getElem?_eq_none (by omega)]
theorem mirr_done (l : List Int) (n k : Nat) (h : l.length = n) (hk : n ≤ 2 * k + 1) : mirr l n k = l.reverse := by
  apply List.ext_getElem?
  intro i
  rw [mirr_get]
  by_cases hi : i < n
  · rw [if_pos hi, List.getElem?_reverse (by omega), h]
    by_cases hm : i < k ∨ n - k ≤ i
    · rw [if_pos hm]
      simp [List.getD, List.getElem?_eq_getElem (show n - 1 - i < l.length by omega)]
    · rw [if_neg hm]
      have e : n - 1 - i = i := by omega
      rw [e]
      simp [List.getD, List.getElem?_eq_getElem (show i < l.length by omega)]
  · rw [if_neg hi, List.getElem?_eq_none (by rw [List.length_reverse]; omega)]
theorem mirr_swap (l : List Int) (n k j : Nat) (hj : k + j + 1 = n) (hkj : k < j) : ((mirr l n k).set k (l.getD j 0)).set j (l.getD k 0) = mirr l n (k + 1) := by
  apply List.ext_getElem?
  intro i
  rw [mirr_get]
  by_cases hi : i < n
  · rw [if_pos hi]
    by_cases e1 : i = j
    · subst e1
      rw [List.getElem?_set_self (by rw [List.length_set, mirr_len]; exact hi), if_pos (by omega)]
      congr 2; omega
    · rw [List.getElem?_set_ne (by omega)]
      by_cases e2 : i = k
      · subst e2
        rw [List.getElem?_set_self (by rw [mirr_len]; exact hi), if_pos (by omega)]
        congr 2; omega
      · rw [List.getElem?_set_ne (by omega), mirr_get, if_pos hi]
        by_cases hm : i < k ∨ n - k ≤ i
        · rw [if_pos hm, if_pos (by omega)]
        · rw [if_neg hm, if_neg (by omega)]
  · rw [if_neg hi, List.getElem?_eq_none (by rw [List.length_set, List.length_set, mirr_len]; omega)]

end Go.Proofs.Ytcanmhlhnihijaa
