/- Bytes turned round: the model's copy, and slices.Reverse in place. -/
import Derived.Test.YtcanmhlhnihijaaDoorBytesC
namespace Go.Proofs.YtcanmhlhnihijaaDoor
open Go.RowKit

theorem drop_rev (l : List Int) (k : Nat) (h : k < l.length) : (l.drop (k + 1)).reverse ++ [l.getD k 0] = (l.drop k).reverse := by
  rw [List.drop_eq_getElem_cons h, List.reverse_cons]
  simp [List.getD, List.getElem?_eq_getElem h]

theorem l1Back_any (A : Option Addr) (n c : Nat) (l : List Int) (w : World) (h : Bs w A n l) (hn : n ≤ 140737488351232) :
    Calls Tryd.prog 101 #[.slice A n c] w fun e w' => (∃ A' c', e = .returned (.slice A' n c') ∧ Ow w' w.heap.size A' n l.reverse) ∧ Below w.heap.size w w' := by
  have Hl := Lib.hid h.len
  go_enter Tryd.func101, Tryd.ntmps101
  go_wp2
  go_loopw [3, 4] (fun v i wr => ∃ k : Nat, k ≤ n ∧ i = .int .i64 ((k : Int) - 1) ∧ Row wr w.heap.size v (l.drop k).reverse ∧ Below w.heap.size w wr) (fun _ i _ => (intOf i + 1).toNat)
  case atStart =>
    refine ⟨n, Nat.le_refl _, by go_num, ?_, ab (Below.refl _ _) _⟩
    rw [List.drop_of_length_le (by rw [Hl.out]; exact Nat.le_refl _)]
    exact Row.empty w _ (Nat.le_refl _) rfl
  case round =>
    obtain ⟨k, hk, rfl, hrow, hbel⟩ := hrel
    by_cases hz : 0 < k
    · obtain ⟨j, rfl⟩ : ∃ j, k = j + 1 := ⟨k - 1, by omega⟩
      obtain ⟨b, off, X, rfl, hbs, hX0, hX1, HX, hx⟩ := h.get (show j < n by omega)
      have hx' := (hbel.cell (p := ⟨b, off + j, none⟩) hbs).trans hx
      clear hx
      have Hs := Lib.hid (drop_rev l j (by rw [Hl.out]; omega))
      have hsz := hbel.size
      have hlen : (l.drop (j + 1)).reverse.length ≤ 140737488351232 := by rw [List.length_reverse, List.length_drop, Hl.out]; omega
      have hjj : ((j + 1 : Nat) : Int) - 1 = (j : Int) := by omega
      rw [hjj]
      clear hjj
      go_wp2_with (at_builtin; refine wpList_row_append rfl _ _ rfl _ w.heap.size _ _ rfl (hrow.alloc _) (by simp; omega) ⟨wr.heap.size, 0, none⟩ 1 X rfl (cell_one _ _ _) (by omega) (by omega) hlen ?_; intro v' w1 hr1 hb1 hs1)
      refine ⟨⟨j, by omega, by go_num, ?_, ?_⟩, by simp [intOf]⟩
      · rw [← Hs.out, HX.out]; assumption
      · exact (ab hbel _).trans (by assumption)
    · obtain rfl : k = 0 := by omega
      obtain ⟨A', c', rfl, how⟩ := hrow.ow (n := n) (by rw [List.drop_zero, List.length_reverse]; exact Hl.out)
      rw [List.drop_zero] at how
      go_wp2
      go_ret
      exact ⟨⟨A', c', rfl, how⟩, hbel⟩

/-- the first k and the last k bytes turned round -/
def mirr (l : List Int) (n k : Nat) : List Int := (List.range n).map fun i => if i < k ∨ n - k ≤ i then l.getD (n - 1 - i) 0 else l.getD i 0
theorem mirr_len (l : List Int) (n k : Nat) : (mirr l n k).length = n := by simp [mirr]
theorem mirr_get (l : List Int) (n k i : Nat) : (mirr l n k)[i]? = if i < n then some (if i < k ∨ n - k ≤ i then l.getD (n - 1 - i) 0 else l.getD i 0) else none := by
  unfold mirr
  by_cases hi : i < n
  · rw [if_pos hi, List.getElem?_map, List.getElem?_range hi]; rfl
  · rw [if_neg hi, List.getElem?_eq_none (by simp; omega)]
theorem mirr_mid (l : List Int) (n k i : Nat) (hi : i < n) (h1 : k ≤ i) (h2 : i < n - k) : (mirr l n k).getD i 0 = l.getD i 0 := by
  have h := mirr_get l n k i
  rw [if_pos hi, if_neg (by omega)] at h
  rw [List.getD, h]; rfl
theorem mirr_zero (l : List Int) (n : Nat) (h : l.length = n) : mirr l n 0 = l := by
  apply List.ext_getElem?
  intro i
  rw [mirr_get]
  by_cases hi : i < n
  · rw [if_pos hi, if_neg (by omega)]
    simp [List.getD, List.getElem?_eq_getElem (show i < l.length by omega)]
  · rw [if_neg hi, List.getElem?_eq_none (by omega)]
theorem mirr_done (l : List Int) (n k : Nat) (h : l.length = n) (hk : n ≤ 2 * k + 1) : mirr l n k = l.reverse := by
  apply List.ext_getElem?
  intro i
  rw [mirr_get]
  by_cases hi : i < n
  · rw [if_pos hi, List.getElem?_reverse (by omega), h]
    by_cases hm : i < k ∨ n - k ≤ i
    · rw [if_pos hm]
      simp [List.getD, List.getElem?_eq_getElem (show n - 1 - i < l.length by omega)]
    · rw [if_neg hm]
      have e : n - 1 - i = i := by omega
      rw [e]
      simp [List.getD, List.getElem?_eq_getElem (show i < l.length by omega)]
  · rw [if_neg hi, List.getElem?_eq_none (by rw [List.length_reverse]; omega)]
theorem mirr_swap (l : List Int) (n k j : Nat) (hj : k + j + 1 = n) (hkj : k < j) : ((mirr l n k).set k (l.getD j 0)).set j (l.getD k 0) = mirr l n (k + 1) := by
  apply List.ext_getElem?
  intro i
  rw [mirr_get]
  by_cases hi : i < n
  · rw [if_pos hi]
    by_cases e1 : i = j
    · subst e1
      rw [List.getElem?_set_self (by rw [List.length_set, mirr_len]; exact hi), if_pos (by omega)]
      congr 2; omega
    · rw [List.getElem?_set_ne (by omega)]
      by_cases e2 : i = k
      · subst e2
        rw [List.getElem?_set_self (by rw [mirr_len]; exact hi), if_pos (by omega)]
        congr 2; omega
      · rw [List.getElem?_set_ne (by omega), mirr_get, if_pos hi]
        by_cases hm : i < k ∨ n - k ≤ i
        · rw [if_pos hm, if_pos (by omega)]
        · rw [if_neg hm, if_neg (by omega)]
  · rw [if_neg hi, List.getElem?_eq_none (by rw [List.length_set, List.length_set, mirr_len]; omega)]

end Go.Proofs.YtcanmhlhnihijaaDoor
