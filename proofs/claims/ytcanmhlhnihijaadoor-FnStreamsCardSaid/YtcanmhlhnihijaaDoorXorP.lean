/- XorBytes of the program, where both have one length: its answer lies in a block of its own. -/
import Derived.Test.YtcanmhlhnihijaaDoorBase
namespace Go.Proofs.YtcanmhlhnihijaaDoor
open Go.RowKit

set_option maxHeartbeats 1000000 in
theorem xorOk_any (A B : Option Addr) (n c d : Nat) (l r : List Int) (w : World) (h : Bs w A n l) (h' : Bs w B n r) (h1000 : n ≤ 1000) :
    Calls Tryd.prog 57 #[.slice A n c, .slice B n d] w fun e w' => (∃ g, e = .returned (.agg #[.int .i64 0, .slice (some ⟨g, 0, none⟩) n n]) ∧ Bs w' (some ⟨g, 0, none⟩) n (xorL l r) ∧ w.heap.size ≤ g) ∧ Below w.heap.size w w' := by
  have Hl := Lib.hid h.len
  have Hr := Lib.hid h'.len
  have Hx : Hid ((xorL l r).length = n) := by
    show (xorL l r).length = n
    rw [xorL_len l r (by rw [Hl.out, Hr.out]), Hl.out]
  have hxb := xorL_byte l r h.byte h'.byte
  have hmk := run_make_bytes n (by omega)
  go_enter Tryd.func57, Tryd.ntmps57
  go_wp2
  clear hmk
  go_loopw [6, 23] (fun _ i wr => ∃ k : Nat, k ≤ n ∧ i = .int .i64 k ∧ Blk wr (w.heap.size + 1) (part (xorL l r) n k) ∧ Below (w.heap.size + 1) (w.alloc (.cells #[.int .i64 0, .slice none 0 0] 27)) wr) (fun _ i _ => n - (intOf i).toNat)
  case atStart =>
    refine ⟨0, Nat.zero_le _, rfl, ?_, (Below.refl _ _).alloc (by simp) _⟩
    rw [part_zero]
    have := zero_row (w.alloc (.cells #[.int .i64 0, .slice none 0 0] 27)) n
    simpa using this
  case round =>
    obtain ⟨k, hk, rfl, hblk, hbel⟩ := hrel
    by_cases hlt : k < n
    · obtain ⟨b, off, X, rfl, hbs, hX0, hX1, HX, hx⟩ := h.get hlt
      obtain ⟨b', off', Y, rfl, hbs', hY0, hY1, HY, hy⟩ := h'.get hlt
      have hB := (ab (Below.refl _ w) _).trans (hbel.mono (by omega))
      have hx' := (hB.cell (p := ⟨b, off + k, none⟩) hbs).trans hx
      have hy' := (hB.cell (p := ⟨b', off' + k, none⟩) hbs').trans hy
      clear hx hy
      have hpl := part_len (xorL l r) n k Hx.out hk
      have hz := hblk.cell (i := k) (by omega)
      have hfz := hblk.frozen k
      clear hpl
      have hkn : (k : Int) < (n : Int) := by omega
      have Hs : Hid (bits BinOp.xor IntKind.u8 X Y = (xorL l r).getD k 0) := by
        show xorB X Y = (xorL l r).getD k 0
        rw [xorL_get l r k (by rw [Hl.out]; exact hlt) (by rw [Hr.out]; exact hlt), HX.out, HY.out]
      go_wp2
      go_region
      all_goals
        go_wp2
        refine ⟨⟨k + 1, by omega, by go_num, ?_, (hbel.setCell (by simp) _).drew⟩, by simp [intOf]; omega⟩
        rw [Hs.out, ← part_set (xorL l r) n k Hx.out hlt]
        exact hblk.set_ k _
    · obtain rfl : k = n := by omega
      have t1 := (Two.new w 27 (.int .i64 0) (.slice none 0 0)).below hbel (by simp)
      obtain ⟨x0, x1, x2, x3⟩ := t1.cells
      rw [part_full _ _ Hx.out] at hblk
      have how := hblk.own hxb Hx.out
      go_wp2
      refine bodyPost_ret (v := .agg #[.int .i64 0, .slice (some ⟨w.heap.size + 1, 0, none⟩) k k]) (by simp [results, Tryd.results57, go_sem, x0, x1]) rfl ?_
      exact ⟨⟨_, rfl, ((how.far (p := ⟨w.heap.size, 0, none⟩) (by simp) _).far (p := ⟨w.heap.size, 1, none⟩) (by simp) _).bs, by omega⟩, ((ab (Below.refl _ w) _).trans (hbel.mono (by omega)) |>.setCell (by simp) _).setCell (by simp) _⟩
end Go.Proofs.YtcanmhlhnihijaaDoor
