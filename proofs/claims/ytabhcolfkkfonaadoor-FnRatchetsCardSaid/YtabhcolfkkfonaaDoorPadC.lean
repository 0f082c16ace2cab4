/- A padded message, of the model. -/
import Derived.Test.YtabhcolfkkfonaaDoorBase
namespace Go.Proofs.YtabhcolfkkfonaaDoor
open Go.RowKit

/-- how many zeros stand before the last eight bytes -/
def padN (n : Nat) : Nat := (119 - n % 64) % 64
def padW (l : List Int) : List Int := l ++ [128] ++ List.replicate (padN l.length) 0 ++ [0] ++ (lowOf (8 * (l.length : Int)) 7).reverse
theorem padN_hit (n k : Nat) (hk : k ≤ padN n) : (n + 1 + k) % 64 = 56 ↔ k = padN n := by unfold padN at *; omega
theorem padN_lt (n : Nat) : padN n < 64 := by unfold padN; omega
theorem padW_len (l : List Int) : (padW l).length = l.length + 9 + padN l.length := by simp [padW, lowOf_len]; omega
theorem padW_whole (l : List Int) : (padW l).length % 64 = 0 := by rw [padW_len]; unfold padN; omega
theorem padW_byte (l : List Int) (h : By l) : By (padW l) := by
  have hr : By (lowOf (8 * (l.length : Int)) 7).reverse := fun x hx => lowOf_byte _ _ x (List.mem_reverse.1 hx)
  refine By.append (By.append (By.append (By.append h ?_) ?_) ?_) hr
  · intro x hx; simp at hx; omega
  · intro x hx; have := List.eq_of_mem_replicate hx; omega
  · intro x hx; simp at hx; omega
def lenOf : Value → Nat
  | .slice _ n _ => n
  | _ => 0

theorem l2Pad_any (A : Option Addr) (n c : Nat) (l : List Int) (w : World) (h : Bs w A n l) (hc : A = none → c = 0) (hn : n ≤ 1000000000) :
    Calls Tryd.prog 46 #[.slice A n c] w fun e w' => (∃ A' c', e = .returned (.slice A' (padW l).length c') ∧ Row w' w.heap.size (.slice A' (padW l).length c') (padW l)) ∧ Below w.heap.size w w' := by
  have Hn := Lib.hid h.len
  go_enter Tryd.func46, Tryd.ntmps46
  go_wp2_with fail
  refine (copyb_any _ _ _ _ _ h hc (by omega)).mono ?_
  rintro e w1 ⟨⟨A1, c1, rfl, hr1⟩, hb1⟩
  have hs1 := hb1.size
  go_wp2_with (at_builtin; refine wpList_row_append rfl _ _ rfl _ w.heap.size (.slice A1 n c1) l rfl (hr1.alloc _) (by simp; omega) ⟨w1.heap.size, 0, none⟩ 1 128 rfl (cell_one _ _ _) (by omega) (by omega) (by rw [Hn.out]; omega) ?_; intro v2 w2 hr2 hb2 hs2)
  have Hone := Lib.hid (show (l ++ [128]).length = n + 1 by rw [List.length_append, Hn.out]; rfl)
  have hpl := padN_lt n
  have B2 : Below w.heap.size w w2 := (ab hb1 (.cells #[.int .u8 128] 5)).trans hb2
  have hz2 := B2.size
  have e2 : l ++ [128] = l ++ [128] ++ List.replicate 0 0 := by simp
  rw [e2] at hr2
  clear e2 hb1 hr1 hb2 hs1 hs2 h
  go_loopw [3] (fun v wr => ∃ k : Nat, k ≤ padN n ∧ Row wr w.heap.size v (l ++ [128] ++ List.replicate k 0) ∧ lenOf v = n + 1 + k ∧ Below w.heap.size w wr) (fun v _ => n + 1 + padN n - lenOf v)
  case atStart =>
    refine ⟨0, by omega, hr2, ?_, B2⟩
    obtain ⟨A2, c2, rfl, _⟩ := hr2.ow (n := n + 1) (by rw [List.replicate_zero, List.append_nil]; exact Hone.out)
    rfl
  case round =>
    obtain ⟨k, hk, hrow, hlen, hbel⟩ := hrel
    have hsz := hbel.size
    have hkl : (l ++ [128] ++ List.replicate k 0).length = n + 1 + k := by rw [List.length_append, Hone.out, List.length_replicate]
    have hhit := padN_hit n k hk
    obtain ⟨A3, c3, rfl, how⟩ := hrow.ow hkl
    by_cases hlt : k < padN n
    · have hne : ((n : Int) + 1 + (k : Int)) % 64 ≠ 56 := by omega
      go_wp2_with (at_builtin; refine wpList_row_append rfl _ _ rfl _ w.heap.size (.slice A3 (n + 1 + k) c3) _ rfl (hrow.alloc _) (by simp; omega) ⟨wr.heap.size, 0, none⟩ 1 0 rfl (cell_one _ _ _) (by omega) (by omega) (by rw [hkl]; omega) ?_; intro v4 w4 hr4 hb4 hs4)
      rw [List.append_assoc, show List.replicate k (0 : Int) ++ [0] = List.replicate (k + 1) 0 from List.replicate_succ'.symm] at hr4
      obtain ⟨A4, c4, rfl, _⟩ := hr4.ow (n := n + 1 + (k + 1)) (by rw [List.length_append, Hone.out, List.length_replicate])
      go_wp2
      refine ⟨⟨k + 1, by omega, hr4, rfl, (ab hbel _).trans hb4⟩, by simp [lenOf]; omega⟩
    · obtain rfl : k = padN n := by omega
      have he : ((n : Int) + 1 + (padN n : Int)) % 64 = 56 := by omega
      go_wp2_with (at_builtin; refine wpList_row_append rfl _ _ rfl _ w.heap.size (.slice A3 (n + 1 + padN n) c3) _ rfl (hrow.alloc _) (by simp; omega) ⟨wr.heap.size, 0, none⟩ 1 0 rfl (cell_one _ _ _) (by omega) (by omega) (by rw [hkl]; omega) ?_; intro v5 w5 hr5 hb5 hs5)
      refine (l1High_any (8 * (n : Int)) 7 _ (by omega) (by omega) (by omega)).mono ?_
      rintro e w6 ⟨⟨A6, c6, rfl, how6⟩, hb6⟩
      have row6 := hr5.keep (w' := w6) (fun g _ h2 => hb6.block g h2)
      have hl5 : (l ++ [128] ++ List.replicate (padN n) 0 ++ [0]).length = n + 1 + padN n + 1 := by rw [List.length_append, hkl]; rfl
      have hs6 := hb6.size
      have B5 := ((ab hbel (.cells #[.int .u8 0] 5)).trans hb5)
      have hz5 := B5.size
      have B6 := ac B5 hb6
      have Hp : Hid (padW l = l ++ [128] ++ List.replicate (padN n) 0 ++ [0] ++ (lowOf (8 * (n : Int)) 7).reverse) := by
        show padW l = _
        unfold padW; rw [Hn.out]
      go_wp2_with (at_builtin; refine wpList_row_join rfl _ _ rfl _ w.heap.size v5 _ _ rfl row6 (by omega) A6 7 c6 rfl how6.bs (how6.bs.cap_ (by omega)) (by rw [hl5]; omega) ?_; intro v7 w7 hr7 hb7 hs7)
      rw [← Hp.out] at hr7
      obtain ⟨A7, c7, rfl, _⟩ := hr7.ow rfl
      go_ret
      exact ⟨⟨A7, c7, rfl, hr7⟩, B6.trans hb7⟩
end Go.Proofs.YtabhcolfkkfonaaDoor
