/- The draws of chapter 1, function by function. -/
import Derived.Test.YtbjcgdgebbiieaaDoorDrawC
import Derived.Laws.AppendOwnNone
namespace Go.Proofs.YtbjcgdgebbiieaaDoor
open Go.RowKit

theorem chance_any (p k c : Nat) (A : Option Addr) (at_ : Nat) (m : Int) (w : World) (hat : at_ ≤ 100000) (hm0 : 1 ≤ m) (hm1 : m ≤ 1000) (l : List Int) (hkm : k ≤ 1048576) (h : Src w p A k c l at_) :
    Calls Tryd.prog 42 #[.pointer (some ⟨p, 0, none⟩), .int .i64 m] w fun e w' => (∃ v : Bool, e = .returned (.bool v)) ∧ Src w' p A k c l (at_ + 1) ∧ (∀ B, But p B w w') ∧ w'.heap.size = w.heap.size := by
  go_enter Tryd.func42, Tryd.ntmps42
  go_wp2_with fail
  refine (next_any p k c A at_ m _ hat hm0 hm1 l hkm h).mono ?_
  rintro e w' ⟨⟨v, hv0, hv1, rfl⟩, hs, hb, hz⟩
  have hBut : Hid (∀ B, But p B w w') := hb
  have Hz := Lib.hid hz
  clear hb hz
  go_wp2
  go_ret
  exact ⟨⟨_, rfl⟩, hs, hBut.out, Hz.out⟩

/-- some bytes, in memory of their own -/
theorem some_any (p k c : Nat) (A : Option Addr) (at_ n : Nat) (w : World) (hat : at_ + n ≤ 100000) (l : List Int) (hkm : k ≤ 1048576) (h : Src w p A k c l at_) :
    Calls Tryd.prog 34 #[.pointer (some ⟨p, 0, none⟩), .int .i64 (n : Int)] w fun e w' => (∃ A' c' r, e = .returned (.slice A' n c') ∧ Row w' w.heap.size (.slice A' n c') r ∧ r.length = n) ∧ Src w' p A k c l (at_ + n) ∧ But p w.heap.size w w' := by
  go_enter Tryd.func34, Tryd.ntmps34
  go_wp2
  go_loopw [1, 5] (fun i v wr => ∃ (j : Nat) (r : List Int), j ≤ n ∧ r.length = j ∧ i = .int .i64 ((n : Int) - (j : Int)) ∧ Row wr w.heap.size v r ∧ Src wr p A k c l (at_ + j) ∧ But p w.heap.size w wr) (fun i _ _ => (intOf i).toNat)
  case atStart => exact ⟨0, [], Nat.zero_le _, rfl, by go_num, Row.empty w _ (Nat.le_refl _) rfl, h.but (ab (Below.refl _ _) _) (Nat.le_refl _), But.of_below (ab (Below.refl _ _) _)⟩
  case round =>
    obtain ⟨j, r, hj, hr, rfl, hrow, hsrc, hbut⟩ := hrel
    have Hr := Lib.hid hr
    have hlen : r.length ≤ 140737488351232 := by omega
    clear hr
    have hsz := hbut.size
    have hpl := h.lt
    by_cases hlt : j < n
    · go_wp2_with fail
      refine (next_any p k c A (at_ + j) 256 _ (by omega) (by omega) (by omega) l hkm hsrc).mono ?_
      rintro e w1 ⟨⟨X, hX0, hX1, rfl⟩, hs1, hb1, hz1⟩
      have hBut : Hid (∀ B, But p B wr w1) := hb1
      have Hz := Lib.hid hz1
      have hrow1 : Row w1 w.heap.size u5 r := hrow.keep (fun g h1 h2 => (hb1 (g + 1)).block g (by omega) (by omega))
      have hsz1 : w.heap.size ≤ w1.heap.size := by omega
      clear hb1 hz1
      go_wp2_with (at_builtin; refine wpList_row_append rfl _ _ rfl _ w.heap.size _ _ rfl (hrow1.alloc _) (by simp; omega) ⟨w1.heap.size, 0, none⟩ 1 X rfl (cell_one _ _ _) hX0 hX1 hlen ?_; intro v' w2 hr2 hb2 hs2)
      refine ⟨⟨j + 1, r ++ [X], by omega, by rw [List.length_append, Hr.out]; rfl, by go_num, hr2, ?_, ?_⟩, by simp [intOf]; omega⟩
      · exact ((hs1.but (ab (Below.refl _ _) _) (Nat.le_refl _)).under hb2 hpl)
      · exact (hbut.trans (hBut.out _)).trans ((But.of_below ((Below.refl _ _).alloc hsz1 _)).trans (But.of_below hb2))
    · obtain rfl : j = n := by omega
      obtain ⟨A', c', rfl, how⟩ := hrow.ow Hr.out
      go_wp2
      go_ret
      exact ⟨⟨A', c', r, rfl, hrow, Hr.out⟩, hsrc, hbut⟩

theorem IsRow.lenmax {k : IntKind} {w : World} {a : Option Addr} {len cap : Nat} {zs : List Int} (h : IsRow k w a len cap zs) : len ≤ 9223372036854775807 := by
  rcases h with ⟨_, rfl, _, _⟩ | ⟨x, _, hl, hm, _⟩
  · omega
  · unfold maxLen at hm; omega

theorem lwBig_any (A : Option Addr) (n c : Nat) (w : World) (hn : n ≤ 9223372036854775807) :
    Calls Tryd.prog 7 #[.slice A n c] w fun e w' => e = .returned (.bool (decide (1048576 < n))) ∧ w = w' := by
  go_enter Tryd.func7, Tryd.ntmps7
  go_wp2
  go_ret
  have e : decide ((1048576 : Int) < (n : Int)) = decide (1048576 < n) := by rw [decide_eq_decide]; omega
  refine ⟨?_, rfl⟩
  show Ending.returned (Value.bool (decide ((1048576 : Int) < (n : Int)))) = _
  rw [e]

/-- seven cells of numbers, as a list of choices stands in memory -/
theorem ints_cells (w : World) (vs : List Int) (t : TypeId) (cs : Array Value) (hcs : cs = (vs.map (Value.int .i64)).toArray) : ∀ i, i < vs.length → (w.alloc (.cells cs t)).cell? ⟨w.heap.size, i, none⟩ = some (.int .i64 (vs.getD i 0)) := by
  subst hcs
  intro i hi
  have e := heap_alloc_new w (.cells (vs.map (Value.int .i64)).toArray t)
  rw [cell_of_row _ w.heap.size i _ _ (0, 0) e]
  simp [List.getD, List.getElem?_eq_getElem hi]

def turnList : List Int := [0, 1, 2147483648, 4294967295, 4294967296, -1, 305419896]
def byList : List Int := [0, 1, 7, 16, 31, 32, -1]

/-- two draws of bytes: what both end with -/
def TwoBytes (w : World) (e : Ending) (w' : World) : Prop :=
  (∃ A1 c1 n1 r1 A2 c2 n2 r2, e = .returned (.tuple #[.slice A1 n1 c1, .slice A2 n2 c2]) ∧ Ow w' w.heap.size A1 n1 r1 ∧ Ow w' w.heap.size A2 n2 r2 ∧ n1 ≤ 1001 ∧ n2 ≤ 1002) ∧ Below w.heap.size w w'

def lenList : List Int := [0, 1, 9, 32, 1000, 1001]
theorem lenList_bd : ∀ v ∈ lenList, 0 ≤ v ∧ v ≤ 1001 := by decide

theorem copy_any (A : Option Addr) (n c B : Nat) (r : List Int) (w : World) (h : Row w B (.slice A n c) r) (hr : r.length = n) (hn : n ≤ 140737488351232) :
    Calls Tryd.prog 50 #[.slice A n c] w fun e w' => (∃ A' c', e = .returned (.slice A' n c') ∧ Row w' w.heap.size (.slice A' n c') r) ∧ Below w.heap.size w w' := by
  obtain ⟨i0, hi, hz0, hz1, hz2⟩ := info_parts info_u8
  have e0 := Row.empty (B := w.heap.size) w #[] (Nat.le_refl _) rfl
  have Hr := Lib.hid hr
  cases A with
  | none =>
    have hc : n = 0 ∧ c = 0 := by
      rcases h.own.2 with ⟨e, _⟩ | ⟨g, cap, cur, e, _⟩
      · injection e with _ e2 e3
        exact ⟨e2, e3⟩
      · injection e with e1 _ _
        cases e1
    obtain ⟨rfl, rfl⟩ := hc
    obtain rfl : r = [] := List.eq_nil_of_length_eq_zero Hr.out
    clear hr
    go_enter Tryd.func50, Tryd.ntmps50
    go_wp2_with (at_builtin; refine wpList_append_own_none rfl _ _ 22 rfl w.heap.size 5 i0 1 Tryd.underlying22 hi _ _ _ rfl e0.own rfl ?_)
    go_ret
    exact ⟨⟨_, _, rfl, e0⟩, ab (Below.refl _ _) _⟩
  | some ad =>
    have hcell : ∀ j u, (r.map (Value.int .u8))[j]? = some u → (w.alloc (.cells #[] 5)).cell? (ad.add j) = some u := by
      intro j u hj
      rcases h.own.2 with ⟨e, _⟩ | ⟨g, cap, cur, e, _⟩
      · injection e with e1 _ _
        cases e1
      · injection e with e1 _ _
        injection e1 with e1
        subst e1
        have := h.own.cells (g := g) rfl j u hj
        exact (World.cell?_of_block (Below.heap_alloc w _ _ (World.block_lt_of_cell? w _ this))).trans this
    have hone : ∀ u ∈ r.map (Value.int .u8), u.oneCell' = true := by
      intro u hu
      obtain ⟨x, _, rfl⟩ := List.mem_map.1 hu
      rfl
    have hb := h.byte
    clear hr
    go_enter Tryd.func50, Tryd.ntmps50
    go_wp2_with (at_builtin; refine wpList_append_own _ rfl _ _ 22 rfl w.heap.size 5 i0 (.int .u8 0) 1 1 Tryd.underlying22 hi hz0 hz1 hz2 rfl (by decide) _ _ _ rfl e0.own ad n c (r.map (Value.int .u8)) rfl (by rw [List.length_map, Hr.out, Nat.mul_one]) hcell hone (by unfold maxLen; simp; omega) (by simp; omega) (by simp) ?_; intro v' w1 hown hgrow hnil)
    clear hnil
    have row1 : Row w1 w.heap.size v' r := ⟨hb, by
      have hh := hown
      simp only [List.map_nil, List.nil_append, List.length_nil, Nat.zero_add] at hh
      rw [Hr.out]
      exact hh⟩
    have B1 : Below w.heap.size w w1 := (ab (Below.refl _ w) (.cells #[] 5)).trans ⟨hgrow.os, hgrow.tape, hgrow.output, hgrow.size, fun k hk => hgrow.block k (by simp; omega) (fun e => by have := (e0.own.lt k e.symm).1; omega)⟩
    clear hgrow hown
    obtain ⟨A', c', rfl, _⟩ := row1.ow Hr.out
    go_ret
    exact ⟨⟨A', c', rfl, row1⟩, B1⟩

theorem xor_one (x : Int) (h0 : 0 ≤ x) (h1 : x < 256) : 0 ≤ bits BinOp.xor IntKind.u8 x 1 ∧ bits BinOp.xor IntKind.u8 x 1 < 256 := by
  rw [u8_xor x 1 h0 h1 (by omega) (by omega)]
  have := Nat.xor_lt_two_pow (n := 8) (x := x.toNat) (y := (1 : Int).toNat) (by omega) (by decide)
  omega

end Go.Proofs.YtbjcgdgebbiieaaDoor
