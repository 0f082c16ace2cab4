/- XorBytes, of the program and of the model. -/
import Derived.Test.YtcanmhlhnihijaaDoorBytesC
namespace Go.Proofs.YtcanmhlhnihijaaDoor
open Go.RowKit

def xorB (x y : Int) : Int := bits BinOp.xor IntKind.u8 x y
theorem xorB_bd (x y : Int) (hx0 : 0 ≤ x) (hx1 : x < 256) (hy0 : 0 ≤ y) (hy1 : y < 256) : 0 ≤ xorB x y ∧ xorB x y < 256 := by
  unfold xorB
  rw [u8_xor x y hx0 hx1 hy0 hy1]
  have := Nat.xor_lt_two_pow (n := 8) (x := x.toNat) (y := y.toNat) (by omega) (by omega)
  omega
def xorL (l r : List Int) : List Int := List.zipWith xorB l r
theorem xorL_len (l r : List Int) (h : l.length = r.length) : (xorL l r).length = l.length := by simp [xorL, h]
theorem xorL_get (l r : List Int) (k : Nat) (h1 : k < l.length) (h2 : k < r.length) : (xorL l r).getD k 0 = xorB (l.getD k 0) (r.getD k 0) := by
  simp [xorL, List.getD, List.getElem?_eq_getElem h1, List.getElem?_eq_getElem h2, List.getElem?_zipWith]
theorem xorL_byte (l r : List Int) (hl : By l) (hr : By r) : By (xorL l r) := fun x hx => by
  unfold xorL at hx
  obtain ⟨i, hi, rfl⟩ := List.getElem_of_mem hx
  rw [List.getElem_zipWith]
  have h1 := hl _ (List.getElem_mem (l := l) (n := i) (by simp at hi; omega))
  have h2 := hr _ (List.getElem_mem (l := r) (n := i) (by simp at hi; omega))
  exact xorB_bd _ _ h1.1 h1.2 h2.1 h2.2
theorem take_getD (l : List Int) (k : Nat) (h : k < l.length) : l.take (k + 1) = l.take k ++ [l.getD k 0] := by
  rw [List.take_succ_eq_append_getElem h]
  simp [List.getD, List.getElem?_eq_getElem h]

def xcode (n m : Nat) : Int := if n = m ∧ n ≤ 1000 then 0 else 2
def xlen (n m : Nat) : Nat := if n = m ∧ n ≤ 1000 then n else 0
def xbytes (l r : List Int) : List Int := if l.length = r.length ∧ l.length ≤ 1000 then xorL l r else []

theorem implXorBytes_any (A B : Option Addr) (n m c d : Nat) (l r : List Int) (w : World) (h : Bs w A n l) (h' : Bs w B m r) (hn : n ≤ 140737488351232) (hm : m ≤ 140737488351232) :
    Calls Tryd.prog 57 #[.slice A n c, .slice B m d] w (BytesAns (xcode n m) (xlen n m) (xbytes l r) w) := by
  by_cases hok : n = m ∧ n ≤ 1000
  · have Hf : Hid (xcode n m = 0 ∧ xlen n m = n ∧ xbytes l r = xorL l r) := by
      refine ⟨by unfold xcode; rw [if_pos hok], by unfold xlen; rw [if_pos hok], ?_⟩
      unfold xbytes
      rw [if_pos (by rw [h.len, h'.len]; exact hok)]
    obtain ⟨rfl, h1000⟩ := hok
    have Hl := Lib.hid h.len
    have Hr := Lib.hid h'.len
    have Hx : Hid ((xorL l r).length = n) := by
      show (xorL l r).length = n
      rw [xorL_len l r (by rw [Hl.out, Hr.out]), Hl.out]
    have hxb := xorL_byte l r h.byte h'.byte
    have hmk := run_make_bytes n (by omega)
    go_enter Tryd.func57, Tryd.ntmps57
    go_wp2
    clear hmk
    go_loopw [6, 23] (fun _ i wr => ∃ k : Nat, k ≤ n ∧ i = .int .i64 k ∧ Blk wr (w.heap.size + 1) (part (xorL l r) n k) ∧ Below (w.heap.size + 1) (w.alloc (.cells #[.int .i64 0, .slice none 0 0] 27)) wr) (fun _ i _ => n - (intOf i).toNat)
    case atStart =>
      refine ⟨0, Nat.zero_le _, rfl, ?_, (Below.refl _ _).alloc (by simp) _⟩
      rw [part_zero]
      have := zero_row (w.alloc (.cells #[.int .i64 0, .slice none 0 0] 27)) n
      simpa using this
    case round =>
      obtain ⟨k, hk, rfl, hblk, hbel⟩ := hrel
      by_cases hlt : k < n
      · obtain ⟨b, off, X, rfl, hbs, hX0, hX1, HX, hx⟩ := h.get hlt
        obtain ⟨b', off', Y, rfl, hbs', hY0, hY1, HY, hy⟩ := h'.get hlt
        have hB := (ab (Below.refl _ w) _).trans (hbel.mono (by omega))
        have hx' := (hB.cell (p := ⟨b, off + k, none⟩) hbs).trans hx
        have hy' := (hB.cell (p := ⟨b', off' + k, none⟩) hbs').trans hy
        clear hx hy
        have hpl := part_len (xorL l r) n k Hx.out hk
        have hz := hblk.cell (i := k) (by omega)
        have hfz := hblk.frozen k
        clear hpl
        have hkn : (k : Int) < (n : Int) := by omega
        have Hs : Hid (bits BinOp.xor IntKind.u8 X Y = (xorL l r).getD k 0) := by
          show xorB X Y = (xorL l r).getD k 0
          rw [xorL_get l r k (by rw [Hl.out]; exact hlt) (by rw [Hr.out]; exact hlt), HX.out, HY.out]
        go_wp2
        go_region
        all_goals
          go_wp2
          refine ⟨⟨k + 1, by omega, by go_num, ?_, (hbel.setCell (by simp) _).drew⟩, by simp [intOf]; omega⟩
          rw [Hs.out, ← part_set (xorL l r) n k Hx.out hlt]
          exact hblk.set_ k _
      · obtain rfl : k = n := by omega
        have t1 := (Two.new w 27 (.int .i64 0) (.slice none 0 0)).below hbel (by simp)
        obtain ⟨x0, x1, x2, x3⟩ := t1.cells
        rw [part_full _ _ Hx.out] at hblk
        have how := hblk.own hxb Hx.out
        go_wp2
        refine bodyPost_ret (v := .agg #[.int .i64 0, .slice (some ⟨w.heap.size + 1, 0, none⟩) k k]) (by simp [results, Tryd.results57, go_sem, x0, x1]) rfl ?_
        rw [Hf.out.1, Hf.out.2.1, Hf.out.2.2]
        refine ⟨⟨_, _, rfl, ((how.far (p := ⟨w.heap.size, 0, none⟩) (by simp) _).far (p := ⟨w.heap.size, 1, none⟩) (by simp) _).mono (by omega)⟩, ?_⟩
        exact ((ab (Below.refl _ w) _).trans (hbel.mono (by omega)) |>.setCell (by simp) _).setCell (by simp) _
  · have Hf : Hid (xcode n m = 2 ∧ xlen n m = 0 ∧ xbytes l r = []) := by
      refine ⟨by unfold xcode; rw [if_neg hok], by unfold xlen; rw [if_neg hok], ?_⟩
      unfold xbytes
      rw [if_neg (by rw [h.len, h'.len]; exact hok)]
    by_cases hnm : n = m
    · subst hnm
      have h1000 : 1000 < n := by omega
      clear hok
      go_enter Tryd.func57, Tryd.ntmps57
      go_wp2
      go_returns
      rw [Hf.out.1, Hf.out.2.1, Hf.out.2.2]
      exact ⟨⟨none, 0, rfl, Ow.nil_ _ _⟩, by go_grown⟩
    · have hb : ((n : Int) != (m : Int)) = true := by rw [bne_iff_ne]; omega
      clear hok
      go_enter Tryd.func57, Tryd.ntmps57
      go_wp2
      go_returns
      rw [Hf.out.1, Hf.out.2.1, Hf.out.2.2]
      exact ⟨⟨none, 0, rfl, Ow.nil_ _ _⟩, by go_grown⟩

theorem xlen_le (n m : Nat) : xlen n m ≤ 1000 := by
  unfold xlen
  split
  · rename_i h; exact h.2
  · omega
end Go.Proofs.YtcanmhlhnihijaaDoor
