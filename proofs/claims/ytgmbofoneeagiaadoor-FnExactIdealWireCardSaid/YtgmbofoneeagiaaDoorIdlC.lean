/- Sides, slots and the bytes of an ideal wire: what both answer; helpers; the model's. -/
import Derived.Test.YtgmbofoneeagiaaDoorAnwX
namespace Go.Proofs.YtgmbofoneeagiaaDoor
open Go.RowKit

def sideI (x : Int) : Bool := if x = 0 then true else x == 1
def slotI (x : Int) : Bool := inB x 0 400
def hiI (n : Int) : List Int := (lowOf n 4).reverse
theorem hiI_len (n : Int) : (hiI n).length = 4 := by simp [hiI, lowOf_len]
theorem hiI_by (n : Int) : By (hiI n) := fun x hx => lowOf_byte n 4 x (List.mem_reverse.1 hx)
def idealL (root : List Int) (side s : Int) : List Int := (hiI s ++ hashW ((root ++ [side, 0]) ++ hiI s)) ++ (hashW ((root ++ [side, 1]) ++ hiI s)).take 28
theorem idealL_len (root : List Int) (side s : Int) : (idealL root side s).length = 64 := by
  simp [idealL, hiI_len, hashW_len]
def idlC (n : Nat) (side s : Int) : Int := if n = 32 ∧ sideI side = true ∧ slotI s = true then 0 else 3
def idlN (C : Int) : Nat := if C = 0 then 64 else 0
def idlL (C : Int) (l : List Int) : List Int := if C = 0 then l else []
theorem idlN_le (C : Int) : idlN C ≤ 64 := by unfold idlN; split <;> omega

theorem isSide_any (x : Int) (w : World) : Calls Tryd.prog 15 #[.int .i64 x] w fun e w' => e = .returned (.bool (sideI x)) ∧ w = w' := by
  by_cases h0 : x = 0
  · subst h0
    go_enter Tryd.func15, Tryd.ntmps15
    go_wp2
    go_ret
    exact ⟨rfl, rfl⟩
  · have t : (x == 0) = false := by simpa using h0
    have e : sideI x = (x == 1) := by simp [sideI, h0]
    rw [e]
    go_enter Tryd.func15, Tryd.ntmps15
    go_wp2
    go_ret
    exact ⟨rfl, rfl⟩

theorem l10Side_any (x : Int) (w : World) : Calls Tryd.prog 12 #[.int .i64 x] w fun e w' => e = .returned (.bool (sideI x)) ∧ w = w' := by
  by_cases h0 : x = 0
  · subst h0
    go_enter Tryd.func12, Tryd.ntmps12
    go_wp2
    go_ret
    exact ⟨rfl, rfl⟩
  · have t : (x == 0) = false := by simpa using h0
    have e : sideI x = (x == 1) := by simp [sideI, h0]
    rw [e]
    go_enter Tryd.func12, Tryd.ntmps12
    go_wp2
    go_ret
    exact ⟨rfl, rfl⟩

theorem isSlot_any (n : Int) (w : World) :
    Calls Tryd.prog 16 #[.int .i64 n] w fun e w' => e = .returned (.bool (slotI n)) ∧ w = w' := by
  unfold slotI
  by_cases h0 : 0 ≤ n
  · by_cases h1 : n ≤ 400
    · have e : inB n 0 400 = true := by simp [inB, h0, h1]
      rw [e]
      go_enter Tryd.func16, Tryd.ntmps16
      go_wp2
      go_ret
      exact ⟨by simp, rfl⟩
    · have e : inB n 0 400 = false := by simp [inB, h1]
      rw [e]
      go_enter Tryd.func16, Tryd.ntmps16
      go_wp2
      go_ret
      exact ⟨by simp, rfl⟩
  · have e : inB n 0 400 = false := by simp [inB, h0]
    rw [e]
    go_enter Tryd.func16, Tryd.ntmps16
    go_wp2
    go_ret
    exact ⟨rfl, rfl⟩

theorem l7Slot_any (n : Int) (w : World) :
    Calls Tryd.prog 13 #[.int .i64 n] w fun e w' => e = .returned (.bool (slotI n)) ∧ w = w' := by
  have h := fun W => In_any n 0 400 W
  unfold slotI
  generalize inB n 0 400 = b at *
  go_enter Tryd.func13, Tryd.ntmps13
  go_wp2_with fail
  refine (h _).mono ?_
  rintro e w' ⟨rfl, rfl⟩
  go_wp2
  go_ret
  exact ⟨rfl, rfl⟩

/-- bytes put behind a row, as one step of a region that draws its order; no block but the row's own is turned -/
theorem step_row_joinI {ops : Array Oper} {o : Oper} {a : Act} {K : Act → World → Prop} {Q : Exit → Act → World → Prop} {E : Prop} (hgd : o.guard = none) (s x : Operand)
    (ho : o.op = .call { callee := .builtin .append, args := #[s, x], argTypes := #[22, 22] })
    (w : World) (B : Nat) (v : Value) (l r : List Int) (hs : a.eval s = v) (hrow : Row w B v l) (hB : B ≤ w.heap.size)
    (A : Option Addr) (n c : Nat) (hx : a.eval x = .slice A n c) (hbs : Bs w A n r) (hn0 : 0 < n) (hlen : l.length + n ≤ 140737488351232)
    (h : ∀ v' w', Row w' B v' (l ++ r) → Below B w w' → w.heap.size ≤ w'.heap.size → (∀ g, g < w.heap.size → v.ownBlock ≠ some g → w'.heap[g]? = w.heap[g]?) → K (a.put o.dst v') w') :
    if Region.wanted o (yielded ops a.tmps) = true then Oper.wp Tryd.prog o a w K Q else E := by
  have hw : Region.wanted o (yielded ops a.tmps) = true := by simp [Region.wanted, hgd]
  rw [if_pos hw]
  obtain ⟨i0, hi, hz0, hz1, hz2⟩ := info_parts info_u8
  have hrl := hbs.len
  obtain ⟨b, off, rfl, _, hc⟩ := hbs.at_ hn0
  have hcell : ∀ j u, (r.map (Value.int .u8))[j]? = some u → w.cell? ((⟨b, off, none⟩ : Addr).add j) = some u := by
    intro j u hu
    have hj : j < r.length := by
      rcases Nat.lt_or_ge j r.length with h1 | h1
      · exact h1
      · rw [List.getElem?_eq_none (by simpa using h1)] at hu; cases hu
    have hadd : (⟨b, off, none⟩ : Addr).add j = ⟨b, off + j, none⟩ := by unfold Addr.add; split <;> simp_all
    rw [hadd, hc j (by omega)]
    rw [List.getElem?_map, List.getElem?_eq_getElem hj] at hu
    simpa [List.getD, List.getElem?_eq_getElem hj] using hu
  refine wp_append_own w s x 22 ho B 5 i0 (.int .u8 0) 1 1 Tryd.underlying22 hi hz0 hz1 hz2 rfl (by decide) v l.length _ hs hrow.own ⟨b, off, none⟩ n c (r.map (Value.int .u8)) hx (by simp [hrl]) hcell
    (fun u hu => by obtain ⟨y, _, rfl⟩ := List.mem_map.1 hu; rfl) (by unfold maxLen; omega) (by omega) hB ?_
  intro v' w' hown hgrow _
  refine h v' w' ⟨hrow.byte.append hbs.byte, ?_⟩ ⟨hgrow.os, hgrow.tape, hgrow.output, hgrow.size, fun k hk => hgrow.block k (by omega) (fun e => ?_)⟩ hgrow.size (fun g hg hne => hgrow.block g hg (fun e => hne e.symm))
  · rw [List.length_append, List.map_append, hrl]; exact hown
  · have := (hrow.own.lt k e.symm).1
    omega

theorem l1BackR_any (A : Option Addr) (n c : Nat) (l : List Int) (w : World) (h : Bs w A n l) (hn : n ≤ 140737488351232) :
    Calls Tryd.prog 29 #[.slice A n c] w fun e w' => (∃ A' c', e = .returned (.slice A' n c') ∧ Row w' w.heap.size (.slice A' n c') l.reverse) ∧ Below w.heap.size w w' := by
  have Hl := Lib.hid h.len
  go_enter Tryd.func29, Tryd.ntmps29
  go_wp2
  go_loopw [3, 4] (fun v i wr => ∃ k : Nat, k ≤ n ∧ i = .int .i64 ((k : Int) - 1) ∧ Row wr w.heap.size v (l.drop k).reverse ∧ Below w.heap.size w wr) (fun _ i _ => (intOf i + 1).toNat)
  case atStart =>
    refine ⟨n, Nat.le_refl _, by go_num, ?_, ab (Below.refl _ _) _⟩
    rw [List.drop_of_length_le (by rw [Hl.out]; exact Nat.le_refl _)]
    exact Row.empty w _ (Nat.le_refl _) rfl
  case round =>
    obtain ⟨k, hk, rfl, hrow, hbel⟩ := hrel
    by_cases hz : 0 < k
    · obtain ⟨j, rfl⟩ : ∃ j, k = j + 1 := ⟨k - 1, by omega⟩
      obtain ⟨b, off, X, rfl, hbs, hX0, hX1, HX, hx⟩ := h.get (show j < n by omega)
      have hx' := (hbel.cell (p := ⟨b, off + j, none⟩) hbs).trans hx
      clear hx
      have Hs := Lib.hid (drop_rev l j (by rw [Hl.out]; omega))
      have hsz := hbel.size
      have hlen : (l.drop (j + 1)).reverse.length ≤ 140737488351232 := by rw [List.length_reverse, List.length_drop, Hl.out]; omega
      have hjj : ((j + 1 : Nat) : Int) - 1 = (j : Int) := by omega
      rw [hjj]
      clear hjj
      go_wp2_with (at_builtin; refine wpList_row_append rfl _ _ rfl _ w.heap.size _ _ rfl (hrow.alloc _) (by simp; omega) ⟨wr.heap.size, 0, none⟩ 1 X rfl (cell_one _ _ _) (by omega) (by omega) hlen ?_; intro v' w1 hr1 hb1 hs1)
      refine ⟨⟨j, by omega, by go_num, ?_, ?_⟩, by simp [intOf]⟩
      · rw [← Hs.out, HX.out]; assumption
      · exact (ab hbel _).trans (by assumption)
    · obtain rfl : k = 0 := by omega
      obtain ⟨A', c', rfl, how⟩ := hrow.ow (n := n) (by rw [List.drop_zero, List.length_reverse]; exact Hl.out)
      rw [List.drop_zero] at hrow
      go_wp2
      go_ret
      exact ⟨⟨A', c', rfl, hrow⟩, hbel⟩

theorem l1HighR_any (n : Int) (m : Nat) (w : World) (h0 : 0 ≤ n) (hn : n ≤ 9223372036854775807) (hm : m ≤ 1000) :
    Calls Tryd.prog 22 #[.int .i64 n, .int .i64 (m : Int)] w fun e w' => (∃ A c, e = .returned (.slice A m c) ∧ Row w' w.heap.size (.slice A m c) (lowOf n m).reverse) ∧ Below w.heap.size w w' := by
  go_enter Tryd.func22, Tryd.ntmps22
  go_wp2_with fail
  refine (l1Low_any _ _ _ h0 hn hm).mono ?_
  rintro e w1 ⟨⟨A, c, rfl, how⟩, hb⟩
  go_wp2_with fail
  refine (l1BackR_any _ _ _ _ _ how.bs (by omega)).mono ?_
  rintro e w2 ⟨⟨A2, c2, rfl, how2⟩, hb2⟩
  go_wp2
  go_ret
  exact ⟨⟨A2, c2, rfl, how2.mono hb.size⟩, ac hb hb2⟩

theorem bs_two (w : World) (a b : Int) (ha : 0 ≤ a ∧ a < 256) (hb : 0 ≤ b ∧ b < 256) : Bs (w.alloc (.cells #[.int .u8 a, .int .u8 b] 5)) (some ⟨w.heap.size, 0, none⟩) 2 [a, b] :=
  Blk.bsn (n := 2) (Blk.made w [a, b]) (fun x hx => by simp at hx; rcases hx with rfl | rfl <;> omega) rfl
end Go.Proofs.YtgmbofoneeagiaaDoor
