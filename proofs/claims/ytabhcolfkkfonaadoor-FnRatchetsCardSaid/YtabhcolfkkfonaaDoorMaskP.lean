/- A key, masked, of the program. -/
import Derived.Test.YtabhcolfkkfonaaDoorBase
import Derived.Test.YtabhcolfkkfonaaDoorMacC
namespace Go.Proofs.YtabhcolfkkfonaaDoor
open Go.RowKit

/-- 64 bytes, the first m of them xored with x -/
def masked (l : List Int) (x : Int) (m : Nat) : List Int := (List.range 64).map fun i => if i < m then bits BinOp.xor IntKind.u8 (l.getD i 0) x else l.getD i 0
theorem masked_len (l : List Int) (x : Int) (m : Nat) : (masked l x m).length = 64 := by simp [masked]
theorem masked_get? (l : List Int) (x : Int) (m i : Nat) (hi : i < 64) : (masked l x m)[i]? = some (if i < m then bits BinOp.xor IntKind.u8 (l.getD i 0) x else l.getD i 0) := by
  unfold masked
  rw [List.getElem?_map, List.getElem?_range hi]; rfl
theorem masked_get (l : List Int) (x : Int) (m : Nat) (h : m < 64) : (masked l x m).getD m 0 = l.getD m 0 := by
  rw [List.getD, masked_get? l x m m h, if_neg (by omega)]; rfl
theorem masked_zero (l : List Int) (x : Int) (h : l.length ≤ 64) : laidOver (List.replicate 64 0) 0 l = masked l x 0 := by
  apply List.ext_getElem?
  intro i
  rcases Nat.lt_or_ge i 64 with hi | hi
  · rw [masked_get? l x 0 i hi, if_neg (by omega)]
    unfold laidOver
    rw [List.take_zero, List.nil_append, Nat.zero_add, List.drop_replicate]
    rcases Nat.lt_or_ge i l.length with h1 | h1
    · rw [List.getElem?_append_left h1]
      simp [List.getD, List.getElem?_eq_getElem h1]
    · rw [List.getElem?_append_right h1, List.getElem?_replicate, if_pos (by omega)]
      simp [List.getD, List.getElem?_eq_none h1]
  · rw [List.getElem?_eq_none (by rw [laidOver_len _ _ _ (by simpa using h)]; simpa using hi), List.getElem?_eq_none (by rw [masked_len]; exact hi)]
theorem masked_set (l : List Int) (x : Int) (m : Nat) (h : m < 64) : (masked l x m).set m (bits BinOp.xor IntKind.u8 (l.getD m 0) x) = masked l x (m + 1) := by
  apply List.ext_getElem?
  intro i
  rcases Nat.lt_or_ge i 64 with hi | hi
  · rw [masked_get? l x (m + 1) i hi]
    by_cases e : m = i
    · subst e
      rw [List.getElem?_set_self (by rw [masked_len]; exact h), if_pos (by omega)]
    · rw [List.getElem?_set_ne e, masked_get? l x m i hi]
      by_cases hl : i < m
      · rw [if_pos hl, if_pos (by omega)]
      · rw [if_neg hl, if_neg (by omega)]
  · rw [List.getElem?_eq_none (by rw [List.length_set, masked_len]; exact hi), List.getElem?_eq_none (by rw [masked_len]; exact hi)]
theorem masked_all (l : List Int) (x : Int) : masked l x 64 = keyed l x 64 := by
  unfold masked keyed
  apply List.map_congr_left
  intro i hi
  have : i < 64 := by simpa using hi
  rw [if_pos this, if_pos this]

set_option maxHeartbeats 1000000 in
theorem maskedKey_any (A : Option Addr) (n c : Nat) (l : List Int) (x : Int) (w : World) (h : Bs w A n l) (hn : n ≤ 64) :
    Calls Tryd.prog 43 #[.slice A n c, .int .u8 x] w fun e w' => e = .returned (.slice (some ⟨w.heap.size, 0, none⟩) 64 64) ∧ Blk w' w.heap.size (keyed l x 64) ∧ Below w.heap.size w w' := by
  have HN := Shut.mk h.len
  have hmk : ∀ W : World, (Instr.makeSlice 22 (.int .i64 64) (.int .i64 64)).run Tryd.prog W = .ok (.slice (some ⟨W.heap.size, 0, none⟩) 64 64) (W.alloc (.cells (zeroB 64) 5)) := fun W => run_make_bytes 64 (by omega) W
  have Hz := Shut.mk (masked_zero l x (by rw [HN.out]; exact hn))
  have Hall := Shut.mk (masked_all l x)
  go_enter Tryd.func43, Tryd.ntmps43
  go_wp2_with (refine wpList_copyb rfl _ _ rfl _ w.heap.size 0 64 64 A n c (List.replicate 64 0) l rfl rfl (Blk.zeroB w 64) (h.alloc _) hn (by rw [List.length_replicate]; omega) w.heap.size w (ab (Below.refl _ _) _) (Nat.le_refl _) ?_; intro w1 k1 b1; clear hmk)
  rw [Hz.out] at k1
  go_loopw [13] (fun i wr => ∃ k : Nat, k ≤ 64 ∧ i = .int .i64 (k : Int) ∧ Blk wr w.heap.size (masked l x k) ∧ Below w.heap.size w wr) (fun i _ => 64 - (intOf i).toNat)
  case atStart => exact ⟨0, by omega, rfl, k1, b1⟩
  case round =>
    clear k1 b1
    obtain ⟨k, hk, rfl, k1, b1⟩ := hrel
    by_cases hlt : k < 64
    · have hc := k1.cell (i := k) (by rw [masked_len]; exact hlt)
      rw [masked_get l x k hlt] at hc
      have hf := k1.frozen k
      have Hs := Shut.mk (masked_set l x k hlt)
      generalize l.getD k 0 = Y at *
      have hki : (k : Int) < 64 := by omega
      go_wp2
      refine ⟨⟨k + 1, by omega, by go_num, ?_, b1.setCell (Nat.le_refl _) _⟩, by simp [intOf]; omega⟩
      rw [← Hs.out]
      exact k1.set_ k _
    · obtain rfl : k = 64 := by omega
      rw [Hall.out] at k1
      go_wp2
      go_ret
      exact ⟨rfl, k1, b1⟩
end Go.Proofs.YtabhcolfkkfonaaDoor
