/- A padded message, of the program. -/
import Derived.Test.YtabhcolfkkfonaaDoorBase
import Derived.Test.YtabhcolfkkfonaaDoorPadC
namespace Go.Proofs.YtabhcolfkkfonaaDoor
open Go.RowKit

def padL (n : Nat) : Nat := (n + 72) / 64 * 64
theorem padL_eq (n : Nat) : padL n = n + 9 + padN n := by unfold padL padN; omega

theorem pad_one (l : List Int) (n : Nat) (h : l.length = n) : (laidOver (List.replicate (padL n) 0) 0 l).set n 128 = l ++ [128] ++ List.replicate (padN n + 8) 0 := by
  have e := padL_eq n
  unfold laidOver
  rw [List.take_zero, List.nil_append, Nat.zero_add, List.drop_replicate, h, List.set_append, if_neg (by omega), h, Nat.sub_self, show padL n - n = (padN n + 8) + 1 by omega, List.replicate_succ, List.set_cons_zero, List.append_assoc]
  rfl
theorem pad_all (l : List Int) (n : Nat) (h : l.length = n) (hn : n ≤ 1000000000) :
    laidOver (l ++ [128] ++ List.replicate (padN n + 8) 0) (padL n - 8) (lowOf (8 * (n : Int)) 8).reverse = padW l := by
  have e := padL_eq n
  have hr : (lowOf (8 * (n : Int)) 8).reverse.length = 8 := by rw [List.length_reverse, lowOf_len]
  have h7 : (8 * (n : Int)) / 256 ^ 7 % 256 = 0 := by
    rw [show (256 : Int) ^ 7 = 72057594037927936 by rfl, Int.ediv_eq_zero_of_lt (by omega) (by omega)]; rfl
  unfold laidOver padW
  rw [hr, List.drop_eq_nil_of_le (by simp [h]; omega), List.append_nil, lowOf_succ, h7, List.reverse_append, h]
  rw [List.take_append, List.take_of_length_le (by simp [h]; omega), List.take_replicate]
  rw [show (l ++ [(128 : Int)]).length = n + 1 by simp [h], show min (padL n - 8 - (n + 1)) (padN n + 8) = padN n by omega]
  simp

set_option maxRecDepth 100000 in
set_option maxHeartbeats 1000000 in
theorem padded_any (A : Option Addr) (n c : Nat) (l : List Int) (w : World) (h : Bs w A n l) (hn : n ≤ 1000000000) :
    Calls Tryd.prog 50 #[.slice A n c] w fun e w' => e = .returned (.slice (some ⟨w.heap.size, 0, none⟩) (padW l).length (padW l).length) ∧ Blk w' w.heap.size (padW l) ∧ Below w.heap.size w w' := by
  have Hn := Lib.hid h.len
  have hp : padL n = n + 9 + padN n := padL_eq n
  have hpn := padN_lt n
  have Hlen : Hid ((padW l).length = padL n) := by
    show (padW l).length = padL n
    rw [padW_len, Hn.out]; omega
  have Hone := Lib.hid (pad_one l n Hn.out)
  have Hall := Lib.hid (pad_all l n Hn.out hn)
  have hmk : ∀ W : World, (Instr.makeSlice 22 (.int .i64 (((n : Int) + 1 + 8 + 64 - 1) / 64 * 64)) (.int .i64 (((n : Int) + 1 + 8 + 64 - 1) / 64 * 64))).run Tryd.prog W = .ok (.slice (some ⟨W.heap.size, 0, none⟩) (padL n) (padL n)) (W.alloc (.cells (zeroB (padL n)) 5)) := by
    intro W
    have e : ((n : Int) + 1 + 8 + 64 - 1) / 64 * 64 = (padL n : Int) := by unfold padL; omega
    rw [e]
    exact run_make_bytes (padL n) (by omega) W
  rw [Hlen.out]
  go_enter Tryd.func50, Tryd.ntmps50
  generalize hL : padL n = L at *
  generalize padN n = p at *
  have HL := Lib.hid hL
  have HP := Lib.hid hp
  clear hL hp
  have hLn : n + 9 ≤ L := by have := HP.out; omega
  have Hlo := Lib.hid (laidOver_len (List.replicate L 0) l 0 (by rw [List.length_replicate, Hn.out]; omega))
  go_wp2_with (refine wpList_copyb rfl _ _ rfl _ w.heap.size 0 L L A n c (List.replicate L 0) l rfl rfl (Blk.zeroB w L) (h.alloc _) (by omega) (by rw [List.length_replicate]; omega) w.heap.size w (ab (Below.refl _ _) _) (Nat.le_refl _) ?_; intro w1 k1 b1; have c1 := k1.cell (i := n) (by rw [Hlo.out, List.length_replicate]; omega); have f1 := k1.frozen n)
  have k2 := k1.set_ n 128
  rw [Hone.out] at k2
  have b2 := b1.setCell (p := ⟨w.heap.size, n, none⟩) (Nat.le_refl _) (.int .u8 128)
  clear c1 f1 k1 b1
  generalize w1.setCell ⟨w.heap.size, n, none⟩ (.int .u8 128) = w2 at *
  have hs2 := k2.lt
  have hL8 : (L : Int) - 8 = ((L - 8 : Nat) : Int) := by omega
  have hw1 : IntKind.i64.wrap ((L - 8 : Nat) : Int) = ((L - 8 : Nat) : Int) := IntWalk.i64_in _ (by have := HP.out; omega)
  have hw2 : IntKind.i64.wrap (8 * (n : Int)) = 8 * (n : Int) := IntWalk.i64_in _ (by have := HP.out; omega)
  have hw3 : ((L - 8 : Nat) : Int) ≤ (L : Int) := by omega
  have hw4 : ¬ L = L - 8 := by omega
  have hw5 : L - (L - 8) = 8 := by omega
  have k2d : Blk w2.drew w.heap.size (l ++ [128] ++ List.replicate (p + 8) 0) := k2
  have b2d : Below w.heap.size w w2.drew := b2.drew
  have hs2d : w.heap.size < w2.drew.heap.size := hs2
  have hll : (l ++ [128] ++ List.replicate (p + 8) 0).length = L := by simp [Hn.out]; have := HP.out; omega
  have Hll := Lib.hid hll
  clear hll
  go_region_law (first | (refine step_copyb rfl _ _ rfl _ w.heap.size (L - 8) 8 8 (some ⟨w2.heap.size, 0, none⟩) 8 8 _ _ rfl rfl (k2d.below b3 hs2d) how.bs (by omega) (by rw [Hll.out]; omega) w.heap.size w (b2d.trans (b3.mono (Nat.le_of_lt hs2d))) (Nat.le_refl _) ?_; intro w4 k4 b4) | (go_simp; go_wp2_with (go_at_call 60; refine (spreadHigh_any (8 * (n : Int)) 8 _ (by omega)).mono ?_; rintro e w3 ⟨rfl, how, b3⟩)))
  rw [Hall.out] at k4
  go_wp2
  go_ret
  exact ⟨rfl, k4, b4⟩
end Go.Proofs.YtabhcolfkkfonaaDoor
