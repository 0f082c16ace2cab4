import Derived.Test.YtabhcolfkkfonaaGreatDoorHasX
import Derived.Test.YtabhcolfkkfonaaGreatDoorSymB

/-! MacC -/
/- The mac and the keys, of the model. -/
namespace Go.Proofs.YtabhcolfkkfonaaGreatDoor
open Go.RowKit

/-- the first m bytes of a key, of 64, each xored with x -/
def keyed (l : List Int) (x : Int) (m : Nat) : List Int := (List.range 64).map fun i => if i < m then bits BinOp.xor IntKind.u8 (l.getD i 0) x else 0
theorem keyed_len (l : List Int) (x : Int) (m : Nat) : (keyed l x m).length = 64 := by simp [keyed]
theorem keyed_get? (l : List Int) (x : Int) (m i : Nat) (hi : i < 64) : (keyed l x m)[i]? = some (if i < m then bits BinOp.xor IntKind.u8 (l.getD i 0) x else 0) := by
  unfold keyed
  rw [List.getElem?_map, List.getElem?_range hi]; rfl
theorem keyed_zero (l : List Int) (x : Int) : keyed l x 0 = List.replicate 64 0 := by
  apply List.ext_getElem?
  intro i
  rcases Nat.lt_or_ge i 64 with hi | hi
  · rw [keyed_get? l x 0 i hi, if_neg (by omega), List.getElem?_replicate, if_pos hi]
  · rw [List.getElem?_eq_none (by rw [keyed_len]; exact hi), List.getElem?_eq_none (by simpa using hi)]
theorem keyed_set (l : List Int) (x : Int) (m : Nat) (h : m < 64) : (keyed l x m).set m (bits BinOp.xor IntKind.u8 (l.getD m 0) x) = keyed l x (m + 1) := by
  apply List.ext_getElem?
  intro i
  rcases Nat.lt_or_ge i 64 with hi | hi
  · rw [keyed_get? l x (m + 1) i hi]
    by_cases e : m = i
    · subst e
      rw [List.getElem?_set_self (by rw [keyed_len]; exact h), if_pos (by omega)]
    · rw [List.getElem?_set_ne e, keyed_get? l x m i hi]
      by_cases hl : i < m
      · rw [if_pos hl, if_pos (by omega)]
      · rw [if_neg hl, if_neg (by omega)]
  · rw [List.getElem?_eq_none (by rw [List.length_set, keyed_len]; exact hi), List.getElem?_eq_none (by rw [keyed_len]; exact hi)]
theorem xor_bd (x y : Int) (h0 : 0 ≤ x) (h1 : x < 256) (k0 : 0 ≤ y) (k1 : y < 256) : 0 ≤ bits BinOp.xor IntKind.u8 x y ∧ bits BinOp.xor IntKind.u8 x y < 256 := by
  rw [u8_xor x y h0 h1 k0 k1]
  have := Nat.xor_lt_two_pow (n := 8) (x := x.toNat) (y := y.toNat) (by omega) (by omega)
  omega
theorem keyed_byte (l : List Int) (x : Int) (m : Nat) (h : By l) (k0 : 0 ≤ x) (k1 : x < 256) : By (keyed l x m) := by
  intro y hy
  simp only [keyed, List.mem_map] at hy
  obtain ⟨i, _, rfl⟩ := hy
  split
  · exact xor_bd _ _ (h.get i).1 (h.get i).2 k0 k1
  · omega
theorem Blk.row {w : World} {B b : Nat} {l : List Int} (h : Blk w b l) (hl : By l) (hB : B ≤ b) (n : Nat) (hn : l.length = n) (hm : n ≤ 1000000) : Row w B (.slice (some ⟨b, 0, none⟩) n n) l := by
  subst hn
  exact ⟨hl, ⟨by simp, .inr ⟨b, l.length, _, rfl, hB, h, Nat.le_refl _, by unfold maxLen; omega, by simp, by simp; exact List.take_of_length_le (by simp)⟩⟩⟩
/-- cells of n zero bytes -/
def zeroBytes (n : Nat) : Array Value := ((List.replicate n (0 : Int)).map (Value.int .u8)).toArray
def macW (key data : List Int) : List Int := hashW (keyed key 92 64 ++ hashW (keyed key 54 64 ++ data))
theorem macW_len (key data : List Int) : (macW key data).length = 32 := hashW_len _

theorem l2Mac_any (A C : Option Addr) (n c m d : Nat) (l r : List Int) (w : World) (h : Bs w A n l) (hr : Bs w C m r) (hd : C = none → d = 0) (hm : m ≤ 100000000) :
    Calls Tryz.prog 143 #[.slice A n c, .slice C m d] w fun e w' => (∃ A' c', e = .returned (.slice A' 32 c') ∧ Row w' w.heap.size (.slice A' 32 c') (macW l r)) ∧ Below w.heap.size w w' := by
  have Hn := Lib.hid h.len
  have hmk : ∀ W : World, (Instr.makeSlice 22 (.int .i64 64) (.int .i64 64)).run Tryz.prog W = .ok (.slice (some ⟨W.heap.size, 0, none⟩) 64 64) (W.alloc (.cells (zeroBytes 64) 5)) := fun W => run_make_bytes 64 (by omega) W
  go_enter Tryz.func143, Tryz.ntmps143
  go_wp2
  clear hmk
  have hz : ∀ x, keyed l x 0 = List.replicate 64 0 := keyed_zero l
  go_loopw [13] (fun i wr => ∃ k : Nat, k ≤ 64 ∧ i = .int .i64 (k : Int) ∧ Blk wr w.heap.size (keyed l 54 k) ∧ Blk wr (w.heap.size + 1) (keyed l 92 k) ∧ Below w.heap.size w wr) (fun i _ => 64 - (intOf i).toNat)
  case atStart =>
    refine ⟨0, by omega, rfl, ?_, ?_, ab (ab (Below.refl _ _) _) _⟩
    · rw [hz]; exact (Blk.made w _).alloc _
    · rw [hz]
      have := Blk.made (w.alloc (.cells (zeroBytes 64) 5)) (List.replicate 64 0)
      rw [World.size_alloc] at this
      exact this
  case round =>
    obtain ⟨k, hk, rfl, h1, h2, hbel⟩ := hrel
    have hsz := hbel.size
    have hlt1 := h1.lt
    have hlt2 := h2.lt
    by_cases hlt : k < 64
    · have f1 := h1.frozen k
      have f2 := h2.frozen k
      have c1 := h1.cell (i := k) (by rw [keyed_len]; exact hlt)
      have c2 := h2.cell (i := k) (by rw [keyed_len]; exact hlt)
      have Hs := Lib.hid (fun x => keyed_set l x k hlt)
      by_cases hin : k < n
      · obtain ⟨b, off, X, rfl, hb, hX0, hX1, HX, hcx⟩ := (h.below hbel).get hin
        rw [HX.out] at Hs
        go_wp2
        refine ⟨⟨k + 1, by omega, by go_num, ?_, ?_, (hbel.setCell (by simp) _).setCell (by simp) _⟩, by simp [intOf]; omega⟩
        · rw [← Hs.out 54]; exact (h1.set_ k _).far (by simp) _
        · rw [← Hs.out 92]; exact (h2.far (by simp) _).set_ k _
      · have Hz : Hid (l.getD k 0 = 0) := by
          show l.getD k 0 = 0
          simp [List.getD, List.getElem?_eq_none (show l.length ≤ k by rw [Hn.out]; omega)]
        rw [Hz.out] at Hs
        go_wp2
        refine ⟨⟨k + 1, by omega, by go_num, ?_, ?_, (hbel.setCell (by simp) _).setCell (by simp) _⟩, by simp [intOf]; omega⟩
        · rw [← Hs.out 54]; exact (h1.set_ k _).far (by simp) _
        · rw [← Hs.out 92]; exact (h2.far (by simp) _).set_ k _
    · obtain rfl : k = 64 := by omega
      have Hb := h.byte
      have r1 := h1.row (B := w.heap.size) (keyed_byte l 54 64 Hb (by omega) (by omega)) (Nat.le_refl _) 64 (keyed_len _ _ _) (by omega)
      have r2 := h2.row (B := w.heap.size + 1) (keyed_byte l 92 64 Hb (by omega) (by omega)) (Nat.le_refl _) 64 (keyed_len _ _ _) (by omega)
      have hrr := hr.below hbel
      have L1 := Lib.hid (keyed_len l 54 64)
      have L2 := Lib.hid (keyed_len l 92 64)
      have Hm : Hid (macW l r = hashW (keyed l 92 64 ++ hashW (keyed l 54 64 ++ r))) := rfl
      have Hml := Lib.hid hr.len
      clear h1 h2 h hr
      generalize keyed l 54 64 = K1 at *
      generalize keyed l 92 64 = K2 at *
      go_wp2_with (at_builtin; refine wpList_row_joinx rfl _ _ rfl _ w.heap.size (.slice (some ⟨w.heap.size, 0, none⟩) 64 64) _ _ rfl r1 (by omega) C m d rfl hrr hd (by rw [L1.out]; omega) ?_; intro v3 w3 hr3 hb3 hs3 ho3)
      have hl3 : (K1 ++ r).length = 64 + m := by rw [List.length_append, L1.out, Hml.out]
      obtain ⟨A3, c3, rfl, ow3⟩ := hr3.ow hl3
      have r23 := r2.keep (w' := w3) (fun g h1 h2 => ho3 g h2 (by intro e; simp [Value.ownBlock] at e; omega))
      refine (l2Hash_any A3 (64 + m) c3 _ w3 ow3.bs (ow3.bs.cap_ (by omega)) (by omega)).mono ?_
      rintro e w4 ⟨⟨A4, c4, rfl, r4⟩, hb4⟩
      have hs4 := hb4.size
      have r24 := r23.keep (w' := w4) (fun g _ h2 => hb4.block g h2)
      have ow4 := r4.ow' (hashW_len _)
      have Bw4 : Below w.heap.size w w4 := ac (hbel.trans hb3) hb4
      have hl5 : (K2 ++ hashW (K1 ++ r)).length = 96 := by rw [List.length_append, L2.out, hashW_len]
      have Hl5 := Lib.hid hl5
      generalize hashW (K1 ++ r) = M at *
      clear hl5
      go_wp2_with (at_builtin; refine wpList_row_join rfl _ _ rfl _ (w.heap.size + 1) (.slice (some ⟨w.heap.size + 1, 0, none⟩) 64 64) _ _ rfl r24 (by omega) A4 32 c4 rfl ow4.bs (ow4.bs.cap_ (by omega)) (by rw [L2.out]; omega) ?_; intro v5 w5 hr5 hb5 hs5)
      obtain ⟨A5, c5, rfl, ow5⟩ := hr5.ow Hl5.out
      refine (l2Hash_any A5 96 c5 _ w5 ow5.bs (ow5.bs.cap_ (by omega)) (by omega)).mono ?_
      rintro e w6 ⟨⟨A6, c6, rfl, r6⟩, hb6⟩
      have B6 := ac (Bw4.trans (hb5.mono (by omega))) hb6
      go_wp2
      go_ret
      rw [Hm.out]
      exact ⟨⟨A6, c6, rfl, r6.mono (by omega)⟩, B6⟩
end Go.Proofs.YtabhcolfkkfonaaGreatDoor

/-! KeysC -/
/- The keys, of the model. -/
namespace Go.Proofs.YtabhcolfkkfonaaGreatDoor
open Go.RowKit

def firstW (l r : List Int) : List Int := macW (macW l r) [1]
def otherW (l r : List Int) : List Int := macW (macW l r) (firstW l r ++ [2])

theorem l2Keys_any (A C : Option Addr) (n c m d : Nat) (l r : List Int) (w : World) (h : Bs w A n l) (hr : Bs w C m r) (hd : C = none → d = 0) (hm : m ≤ 100000000) :
    Calls Tryz.prog 86 #[.slice A n c, .slice C m d] w fun e w' => (∃ A1 c1 A2 c2, e = .returned (.tuple #[.slice A1 32 c1, .slice A2 32 c2]) ∧ Ow w' w.heap.size A1 32 (firstW l r) ∧ Ow w' w.heap.size A2 32 (otherW l r) ∧ Sunder 32 32 A1 A2) ∧ Below w.heap.size w w' := by
  have Hf : Hid (firstW l r = macW (macW l r) [1]) := rfl
  have Ho : Hid (otherW l r = macW (macW l r) (firstW l r ++ [2])) := rfl
  go_enter Tryz.func86, Tryz.ntmps86
  go_wp2_with fail
  refine (l2Mac_any _ _ _ _ _ _ _ _ _ h hr hd hm).mono ?_
  rintro e w1 ⟨⟨A1, c1, rfl, r1⟩, b1⟩
  have s1 := b1.size
  have o1 := r1.ow' (macW_len l r)
  clear h hr r1
  generalize macW l r = T at *
  go_wp2_with fail
  refine (l2Mac_any _ _ _ _ 1 _ _ [1] _ (o1.bs.alloc _) ((Blk.made w1 [1]).bsn (by intro x hx; simp at hx; omega) rfl) (fun e => by cases e) (by omega)).mono ?_
  rintro e w2 ⟨⟨A2, c2, rfl, r2⟩, b2⟩
  have s2 := b2.size
  rw [World.size_alloc] at s2
  rw [← Hf.out] at r2
  have hfl : (firstW l r).length = 32 := by rw [Hf.out]; exact macW_len _ _
  have B2 := ac (ab b1 (.cells #[.int .u8 1] 5)) b2
  have o12 := (o1.alloc (.cells #[.int .u8 1] 5)).below b2 (Nat.le_refl _)
  have o2 := r2.ow' hfl
  clear o1 r2
  go_wp2_with fail
  refine (copyb_any _ _ _ _ _ o2.bs (o2.bs.cap_ (by omega)) (by omega)).mono ?_
  rintro e w3 ⟨⟨A3, c3, rfl, r3⟩, b3⟩
  have s3 := b3.size
  have o13 := o12.below b3 (Nat.le_refl _)
  have o23 := o2.below b3 (Nat.le_refl _)
  have B3 := ac B2 b3
  go_wp2_with (at_builtin; refine wpList_row_append rfl _ _ rfl _ w2.heap.size (.slice A3 32 c3) (firstW l r) rfl (r3.alloc _) (by simp; omega) ⟨w3.heap.size, 0, none⟩ 1 2 rfl (cell_one _ _ _) (by omega) (by omega) (by rw [hfl]; omega) ?_; intro v4 w4 r4 b4 s4)
  obtain ⟨A4, c4, rfl, o4⟩ := r4.ow (n := 33) (by rw [List.length_append, hfl]; rfl)
  rw [World.size_alloc] at s4
  have o14 := (o13.alloc (.cells #[.int .u8 2] 5)).under b4 o12.top
  have o24 := (o23.alloc (.cells #[.int .u8 2] 5)).under b4 o2.top
  have B4 := (ab B3 (.cells #[.int .u8 2] 5)).trans (b4.mono (by omega))
  refine (l2Mac_any _ _ _ _ 33 _ _ _ _ o14.bs o4.bs (o4.bs.cap_ (by decide)) (by decide)).mono ?_
  rintro e w5 ⟨⟨A5, c5, rfl, r5⟩, b5⟩
  have s5 := b5.size
  rw [← Ho.out] at r5
  have o5 := r5.ow' (by rw [Ho.out]; exact macW_len _ _)
  have o25 := o24.below b5 (Nat.le_refl _)
  have B5 := ac B4 b5
  have p2 : Ow w5 w.heap.size A2 32 (firstW l r) := o25.mono (by rw [World.size_alloc]; omega)
  have p5 : Ow w5 w.heap.size A5 32 (otherW l r) := o5.mono (by omega)
  have ha : Sunder 32 32 A2 A5 := fun hn1 hm1 a b ea eb => by
    have h1 := o2.top hn1 a ea
    have h2 := o5.base hm1 b eb
    omega
  go_wp2
  go_ret2
  exact ⟨⟨A2, c2, A5, c5, rfl, p2, p5, ha⟩, B5⟩
end Go.Proofs.YtabhcolfkkfonaaGreatDoor
