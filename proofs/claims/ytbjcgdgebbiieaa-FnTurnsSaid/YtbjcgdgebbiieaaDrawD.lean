/- The draws of chapter 1, function by function. -/
import Derived.Test.YtbjcgdgebbiieaaDrawC
import Derived.Laws.AppendOwnNone
namespace Go.Proofs.Ytbjcgdgebbiieaa
open Go.RowKit

theorem chance_any (p k c : Nat) (A : Option Addr) (at_ : Nat) (m : Int) (w : World) (hat : at_ ≤ 100000) (hm0 : 1 ≤ m) (hm1 : m ≤ 1000) (l : List Int) (hkm : k ≤ 1048576) (h : Src w p A k c l at_) :
    Calls Try.prog 62 #[.pointer (some ⟨p, 0, none⟩), .int .i64 m] w fun e w' => (∃ v : Bool, e = .returned (.bool v)) ∧ Src w' p A k c l (at_ + 1) ∧ (∀ B, But p B w w') ∧ w'.heap.size = w.heap.size := by
  go_enter Try.func62, Try.ntmps62
  go_wp2_with fail
  refine (next_any p k c A at_ m _ hat hm0 hm1 l hkm h).mono ?_
  rintro e w' ⟨⟨v, hv0, hv1, rfl⟩, hs, hb, hz⟩
  have hBut : Hid (∀ B, But p B w w') := hb
  have Hz := Lib.hid hz
  clear hb hz
  go_wp2
  go_ret
  exact ⟨⟨_, rfl⟩, hs, hBut.out, Hz.out⟩

/-- some bytes, in memory of their own -/
theorem some_any (p k c : Nat) (A : Option Addr) (at_ n : Nat) (w : World) (hat : at_ + n ≤ 100000) (l : List Int) (hkm : k ≤ 1048576) (h : Src w p A k c l at_) :
    Calls Try.prog 61 #[.pointer (some ⟨p, 0, none⟩), .int .i64 (n : Int)] w fun e w' => (∃ A' c' r, e = .returned (.slice A' n c') ∧ Row w' w.heap.size (.slice A' n c') r ∧ r.length = n) ∧ Src w' p A k c l (at_ + n) ∧ But p w.heap.size w w' := by
  go_enter Try.func61, Try.ntmps61
  go_wp2
  go_loopw [1, 5] (fun i v wr => ∃ (j : Nat) (r : List Int), j ≤ n ∧ r.length = j ∧ i = .int .i64 ((n : Int) - (j : Int)) ∧ Row wr w.heap.size v r ∧ Src wr p A k c l (at_ + j) ∧ But p w.heap.size w wr) (fun i _ _ => (intOf i).toNat)
  case atStart => exact ⟨0, [], Nat.zero_le _, rfl, by go_num, Row.empty w _ (Nat.le_refl _) rfl, h.but (ab (Below.refl _ _) _) (Nat.le_refl _), But.of_below (ab (Below.refl _ _) _)⟩
  case round =>
    obtain ⟨j, r, hj, hr, rfl, hrow, hsrc, hbut⟩ := hrel
    have Hr := Lib.hid hr
    have hlen : r.length ≤ 140737488351232 := by omega
    clear hr
    have hsz := hbut.size
    have hpl := h.lt
    by_cases hlt : j < n
    · go_wp2_with fail
      refine (next_any p k c A (at_ + j) 256 _ (by omega) (by omega) (by omega) l hkm hsrc).mono ?_
      rintro e w1 ⟨⟨X, hX0, hX1, rfl⟩, hs1, hb1, hz1⟩
      have hBut : Hid (∀ B, But p B wr w1) := hb1
      have Hz := Lib.hid hz1
      have hrow1 : Row w1 w.heap.size u5 r := hrow.keep (fun g h1 h2 => (hb1 (g + 1)).block g (by omega) (by omega))
      have hsz1 : w.heap.size ≤ w1.heap.size := by omega
      clear hb1 hz1
      go_wp2_with (at_builtin; refine wpList_row_append rfl _ _ rfl _ w.heap.size _ _ rfl (hrow1.alloc _) (by simp; omega) ⟨w1.heap.size, 0, none⟩ 1 X rfl (cell_one _ _ _) hX0 hX1 hlen ?_; intro v' w2 hr2 hb2 hs2)
      refine ⟨⟨j + 1, r ++ [X], by omega, by rw [List.length_append, Hr.out]; rfl, by go_num, hr2, ?_, ?_⟩, by simp [intOf]; omega⟩
      · exact ((hs1.but (ab (Below.refl _ _) _) (Nat.le_refl _)).under hb2 hpl)
      · exact (hbut.trans (hBut.out _)).trans ((But.of_below ((Below.refl _ _).alloc hsz1 _)).trans (But.of_below hb2))
    · obtain rfl : j = n := by omega
      obtain ⟨A', c', rfl, how⟩ := hrow.ow Hr.out
      go_wp2
      go_ret
      exact ⟨⟨A', c', r, rfl, hrow, Hr.out⟩, hsrc, hbut⟩

theorem IsRow.lenmax {k : IntKind} {w : World} {a : Option Addr} {len cap : Nat} {zs : List Int} (h : IsRow k w a len cap zs) : len ≤ 9223372036854775807 := by
  rcases h with ⟨_, rfl, _, _⟩ | ⟨x, _, hl, hm, _⟩
  · omega
  · unfold maxLen at hm; omega

theorem lwBig_any (A : Option Addr) (n c : Nat) (w : World) (hn : n ≤ 9223372036854775807) :
    Calls Try.prog 13 #[.slice A n c] w fun e w' => e = .returned (.bool (decide (1048576 < n))) ∧ w = w' := by
  go_enter Try.func13, Try.ntmps13
  go_wp2
  go_ret
  have e : decide ((1048576 : Int) < (n : Int)) = decide (1048576 < n) := by rw [decide_eq_decide]; omega
  refine ⟨?_, rfl⟩
  show Ending.returned (Value.bool (decide ((1048576 : Int) < (n : Int)))) = _
  rw [e]

/-- seven cells of numbers, as a list of choices stands in memory -/
theorem ints_cells (w : World) (vs : List Int) (t : TypeId) (cs : Array Value) (hcs : cs = (vs.map (Value.int .i64)).toArray) : ∀ i, i < vs.length → (w.alloc (.cells cs t)).cell? ⟨w.heap.size, i, none⟩ = some (.int .i64 (vs.getD i 0)) := by
  subst hcs
  intro i hi
  have e := heap_alloc_new w (.cells (vs.map (Value.int .i64)).toArray t)
  rw [cell_of_row _ w.heap.size i _ _ (0, 0) e]
  simp [List.getD, List.getElem?_eq_getElem hi]

def turnList : List Int := [0, 1, 2147483648, 4294967295, 4294967296, -1, 305419896]
def byList : List Int := [0, 1, 7, 16, 31, 32, -1]

theorem drawTurnWord_any (A : Option Addr) (n c : Nat) (l : List Int) (w : World) (h : Bs w A n l) (hn : n ≤ 1048576) :
    Calls Try.prog 26 #[.slice A n c] w fun e w' => (∃ x b : Int, e = .returned (.tuple #[.int .i64 x, .int .i64 b])) ∧ Below w.heap.size w w' := by
  go_enter Try.func26, Try.ntmps26
  go_wp2_with fail
  refine (source_any _ _ _ _ _ h).mono ?_
  rintro e w1 ⟨rfl, s1, b1, z1⟩
  have z1' : w.heap.size < w1.heap.size := by omega
  clear z1
  go_wp2_with fail
  refine (pick_any w.heap.size n c A 0 w1.heap.size 7 7 turnList _ (by omega) (by omega) (by omega) l hn (s1.but (ab (Below.refl _ _) _) (Nat.le_refl _)) rfl (by omega) (ints_cells w1 turnList _ _ rfl)).mono ?_
  rintro e w2 ⟨⟨x, hx, rfl⟩, s2, b2, z2⟩
  have z2' : w.heap.size < w2.heap.size := by rw [z2]; simp; omega
  have B2 : Below w.heap.size w w2 := (ab b1 _).trans ((b2 w.heap.size).below (Nat.le_refl _) (Nat.le_refl _))
  have Z2 := Lib.hid z2
  clear z2 hx b2
  go_wp2_with fail
  refine (pick_any w.heap.size n c A 1 w2.heap.size 7 7 byList _ (by omega) (by omega) (by omega) l hn (s2.but (ab (Below.refl _ _) _) (Nat.le_refl _)) rfl (by omega) (ints_cells w2 byList _ _ rfl)).mono ?_
  rintro e w3 ⟨⟨y, hy, rfl⟩, s3, b3, z3⟩
  have B3 : Below w.heap.size w w3 := (ab B2 _).trans ((b3 w.heap.size).below (Nat.le_refl _) (Nat.le_refl _))
  clear z3 hy b3
  go_wp2
  go_ret2
  exact ⟨⟨x, y, rfl⟩, B3⟩

/-- two draws of bytes: what both end with -/
def TwoBytes (w : World) (e : Ending) (w' : World) : Prop :=
  (∃ A1 c1 n1 r1 A2 c2 n2 r2, e = .returned (.tuple #[.slice A1 n1 c1, .slice A2 n2 c2]) ∧ Ow w' w.heap.size A1 n1 r1 ∧ Ow w' w.heap.size A2 n2 r2 ∧ n1 ≤ 1001 ∧ n2 ≤ 1002) ∧ Below w.heap.size w w'

def lenList : List Int := [0, 1, 9, 32, 1000, 1001]
theorem lenList_bd : ∀ v ∈ lenList, 0 ≤ v ∧ v ≤ 1001 := by decide

theorem drawXorBytes_any (A : Option Addr) (n c : Nat) (l : List Int) (w : World) (h : Bs w A n l) (hn : n ≤ 1048576) :
    Calls Try.prog 28 #[.slice A n c] w (TwoBytes w) := by
  go_enter Try.func28, Try.ntmps28
  go_wp2_with fail
  refine (source_any _ _ _ _ _ h).mono ?_
  rintro e w1 ⟨rfl, s1, b1, z1⟩
  have z1' : w.heap.size < w1.heap.size := by omega
  clear z1
  go_wp2_with fail
  refine (pick_any w.heap.size n c A 0 w1.heap.size 6 6 lenList _ (by omega) (by omega) (by omega) l hn (s1.but (ab (Below.refl _ _) _) (Nat.le_refl _)) rfl (by omega) (ints_cells w1 lenList _ _ rfl)).mono ?_
  rintro e w2 ⟨⟨x, hx, rfl⟩, s2, b2, z2⟩
  have z2' : w.heap.size < w2.heap.size := by rw [z2]; simp; omega
  have B2 : Below w.heap.size w w2 := (ab b1 _).trans ((b2 w.heap.size).below (Nat.le_refl _) (Nat.le_refl _))
  obtain ⟨hx0, hx1⟩ := lenList_bd x hx
  obtain ⟨m, rfl⟩ := Int.eq_ofNat_of_zero_le hx0
  clear z2 hx b2
  go_wp2_with fail
  refine (some_any w.heap.size n c A (0 + 1) m _ (by omega) l hn s2).mono ?_
  rintro e w3 ⟨⟨A3, c3, r3, rfl, row3, hr3⟩, s3, b3⟩
  have hz3 := b3.size
  have B3 : Below w.heap.size w w3 := B2.trans (b3.below (by omega) (Nat.le_refl _))
  have Hr3 := Lib.hid hr3
  have row3' := row3.mono (show w.heap.size + 1 ≤ w2.heap.size by omega)
  clear hr3
  go_wp2_with fail
  refine (chance_any w.heap.size n c A (0 + 1 + m) 9 _ (by omega) (by omega) (by omega) l hn s3).mono ?_
  rintro e w4 ⟨⟨v, rfl⟩, s4, b4, z4⟩
  have row4 := row3'.keep (w' := w4) (fun g h1 h2 => (b4 (g + 1)).block g (by omega) (by omega))
  have B4 : Below w.heap.size w w4 := B3.trans ((b4 w.heap.size).below (Nat.le_refl _) (Nat.le_refl _))
  have hz4 : w3.heap.size ≤ w4.heap.size := by omega
  have hlen3 : r3.length ≤ 140737488351232 := by rw [Hr3.out]; omega
  clear z4 b4 row3 row3'
  cases v
  · go_wp2_with fail
    refine (some_any w.heap.size n c A (0 + 1 + m + 1) m _ (by omega) l hn s4).mono ?_
    rintro e w5 ⟨⟨A5, c5, r5, rfl, row5, hr5⟩, s5, b5⟩
    have row45 := row4.keep (w' := w5) (fun g h1 h2 => b5.block g h2 (by omega))
    have o5 := (row5.ow' hr5).mono (show w.heap.size ≤ w4.heap.size by omega)
    have o4 := (row45.ow' Hr3.out).mono (show w.heap.size ≤ w.heap.size + 1 by omega)
    have B5 := B4.trans (b5.below (show w.heap.size ≤ w4.heap.size by omega) (Nat.le_refl _))
    clear hr5
    go_wp2
    go_ret2
    exact ⟨⟨A5, c5, m, r5, A3, c3, m, r3, rfl, o5, o4, by omega, by omega⟩, B5⟩
  · go_wp2_with (at_builtin; refine wpList_row_append rfl _ _ rfl _ (w.heap.size + 1) _ _ rfl (row4.alloc _) (by simp; omega) ⟨w4.heap.size, 0, none⟩ 1 1 rfl (cell_one _ _ _) (by omega) (by omega) hlen3 ?_; intro v' w5 hr5 hb5 hs5)
    have s5 := (s4.but (ab (Below.refl _ _) _) (Nat.le_refl _)).under hb5 (by omega)
    have B5 := (ab B4 (.cells #[.int .u8 1] 5)).trans (hb5.mono (by omega))
    have z5 : w.heap.size < w5.heap.size := by simp at hs5; omega
    refine (some_any w.heap.size n c A (0 + 1 + m + 1) m _ (by omega) l hn s5).mono ?_
    rintro e w6 ⟨⟨A6, c6, r6, rfl, row6, hr6⟩, s6, b6⟩
    have row56 := hr5.keep (w' := w6) (fun g h1 h2 => b6.block g h2 (by omega))
    have o6 := (row6.ow' hr6).mono (show w.heap.size ≤ w5.heap.size by omega)
    obtain ⟨A5, c5, rfl, o5⟩ := row56.ow (n := m + 1) (by rw [List.length_append, Hr3.out]; rfl)
    have o5' := o5.mono (show w.heap.size ≤ w.heap.size + 1 by omega)
    have B6 := B5.trans (b6.below (show w.heap.size ≤ w5.heap.size by omega) (Nat.le_refl _))
    clear hr6
    go_wp2
    go_ret2
    exact ⟨⟨A6, c6, m, r6, A5, c5, m + 1, _, rfl, o6, o5', by omega, by omega⟩, B6⟩

theorem copy_any (A : Option Addr) (n c B : Nat) (r : List Int) (w : World) (h : Row w B (.slice A n c) r) (hr : r.length = n) (hn : n ≤ 140737488351232) :
    Calls Try.prog 64 #[.slice A n c] w fun e w' => (∃ A' c', e = .returned (.slice A' n c') ∧ Row w' w.heap.size (.slice A' n c') r) ∧ Below w.heap.size w w' := by
  obtain ⟨i0, hi, hz0, hz1, hz2⟩ := info_parts info_u8
  have e0 := Row.empty (B := w.heap.size) w #[] (Nat.le_refl _) rfl
  have Hr := Lib.hid hr
  cases A with
  | none =>
    have hc : n = 0 ∧ c = 0 := by
      rcases h.own.2 with ⟨e, _⟩ | ⟨g, cap, cur, e, _⟩
      · injection e with _ e2 e3
        exact ⟨e2, e3⟩
      · injection e with e1 _ _
        cases e1
    obtain ⟨rfl, rfl⟩ := hc
    obtain rfl : r = [] := List.eq_nil_of_length_eq_zero Hr.out
    clear hr
    go_enter Try.func64, Try.ntmps64
    go_wp2_with (at_builtin; refine wpList_append_own_none rfl _ _ 22 rfl w.heap.size 5 i0 1 Try.underlying22 hi _ _ _ rfl e0.own rfl ?_)
    go_ret
    exact ⟨⟨_, _, rfl, e0⟩, ab (Below.refl _ _) _⟩
  | some ad =>
    have hcell : ∀ j u, (r.map (Value.int .u8))[j]? = some u → (w.alloc (.cells #[] 5)).cell? (ad.add j) = some u := by
      intro j u hj
      rcases h.own.2 with ⟨e, _⟩ | ⟨g, cap, cur, e, _⟩
      · injection e with e1 _ _
        cases e1
      · injection e with e1 _ _
        injection e1 with e1
        subst e1
        have := h.own.cells (g := g) rfl j u hj
        exact (World.cell?_of_block (Below.heap_alloc w _ _ (World.block_lt_of_cell? w _ this))).trans this
    have hone : ∀ u ∈ r.map (Value.int .u8), u.oneCell' = true := by
      intro u hu
      obtain ⟨x, _, rfl⟩ := List.mem_map.1 hu
      rfl
    have hb := h.byte
    clear hr
    go_enter Try.func64, Try.ntmps64
    go_wp2_with (at_builtin; refine wpList_append_own _ rfl _ _ 22 rfl w.heap.size 5 i0 (.int .u8 0) 1 1 Try.underlying22 hi hz0 hz1 hz2 rfl (by decide) _ _ _ rfl e0.own ad n c (r.map (Value.int .u8)) rfl (by rw [List.length_map, Hr.out, Nat.mul_one]) hcell hone (by unfold maxLen; simp; omega) (by simp; omega) (by simp) ?_; intro v' w1 hown hgrow hnil)
    clear hnil
    have row1 : Row w1 w.heap.size v' r := ⟨hb, by
      have hh := hown
      simp only [List.map_nil, List.nil_append, List.length_nil, Nat.zero_add] at hh
      rw [Hr.out]
      exact hh⟩
    have B1 : Below w.heap.size w w1 := (ab (Below.refl _ w) (.cells #[] 5)).trans ⟨hgrow.os, hgrow.tape, hgrow.output, hgrow.size, fun k hk => hgrow.block k (by simp; omega) (fun e => by have := (e0.own.lt k e.symm).1; omega)⟩
    clear hgrow hown
    obtain ⟨A', c', rfl, _⟩ := row1.ow Hr.out
    go_ret
    exact ⟨⟨A', c', rfl, row1⟩, B1⟩

theorem xor_one (x : Int) (h0 : 0 ≤ x) (h1 : x < 256) : 0 ≤ bits BinOp.xor IntKind.u8 x 1 ∧ bits BinOp.xor IntKind.u8 x 1 < 256 := by
  rw [u8_xor x 1 h0 h1 (by omega) (by omega)]
  have := Nat.xor_lt_two_pow (n := 8) (x := x.toNat) (y := (1 : Int).toNat) (by omega) (by decide)
  omega

theorem drawSameBytes_any (A : Option Addr) (n c : Nat) (l : List Int) (w : World) (h : Bs w A n l) (hn : n ≤ 1048576) :
    Calls Try.prog 30 #[.slice A n c] w (TwoBytes w) := by
  go_enter Try.func30, Try.ntmps30
  go_wp2_with fail
  refine (source_any _ _ _ _ _ h).mono ?_
  rintro e w1 ⟨rfl, s1, b1, z1⟩
  have z1' : w.heap.size < w1.heap.size := by omega
  clear z1
  go_wp2_with fail
  refine (next_any w.heap.size n c A 0 9 _ (by omega) (by omega) (by omega) l hn s1).mono ?_
  rintro e w2 ⟨⟨x, hx0, hx1, rfl⟩, s2, b2, z2⟩
  have z2' : w.heap.size < w2.heap.size := by omega
  have B2 : Below w.heap.size w w2 := b1.trans ((b2 w.heap.size).below (Nat.le_refl _) (Nat.le_refl _))
  obtain ⟨m, rfl⟩ := Int.eq_ofNat_of_zero_le hx0
  have hm : m ≤ 8 := by omega
  clear z2 b2
  go_wp2_with fail
  refine (some_any w.heap.size n c A (0 + 1) m _ (by omega) l hn s2).mono ?_
  rintro e w3 ⟨⟨A3, c3, r3, rfl, row3, hr3⟩, s3, b3⟩
  have hz3 := b3.size
  have B3 : Below w.heap.size w w3 := B2.trans (b3.below (by omega) (Nat.le_refl _))
  have Hr3 := Lib.hid hr3
  go_wp2_with fail
  refine (copy_any A3 m c3 w2.heap.size r3 _ row3 hr3 (by omega)).mono ?_
  rintro e w4 ⟨⟨A4, c4, rfl, row4⟩, b4⟩
  have hz4 := b4.size
  have B4 := ac B3 b4
  have s4 := s3.but b4 (Nat.le_refl _)
  have row34 := row3.keep (w' := w4) (fun g h1 h2 => b4.block g h2)
  have o3 := (row34.ow' hr3).mono (show w.heap.size + 1 ≤ w2.heap.size by omega)
  have o4 := row4.ow' hr3
  have fin : ∀ w', Below w.heap.size w w' → Ow w' (w.heap.size + 1) A3 m r3 → (∃ r, Ow w' w3.heap.size A4 m r) → TwoBytes w (.returned (.tuple #[.slice A3 m c3, .slice A4 m c4])) w' := by
    rintro w' hb h1 ⟨r, h2⟩
    exact ⟨⟨A3, c3, m, r3, A4, c4, m, r, rfl, h1.mono (by omega), h2.mono (by omega), by omega, by omega⟩, hb⟩
  have Top : Hid (0 < m → ∀ a, A3 = some a → a.block < w3.heap.size) := (row3.ow' hr3).top
  have Fin : Hid (∀ w', Below w.heap.size w w' → Ow w' (w.heap.size + 1) A3 m r3 → (∃ r, Ow w' w3.heap.size A4 m r) → TwoBytes w (.returned (.tuple #[.slice A3 m c3, .slice A4 m c4])) w') := fin
  clear fin hr3 row3 row4 row34
  by_cases hpos : 0 < m
  · go_wp2_with fail
    refine (chance_any w.heap.size n c A (0 + 1 + m) 2 _ (by omega) (by omega) (by omega) l hn s4).mono ?_
    rintro e w5 ⟨⟨v, rfl⟩, s5, b5, z5⟩
    have B5 : Below w.heap.size w w5 := B4.trans ((b5 w.heap.size).below (Nat.le_refl _) (Nat.le_refl _))
    have o35 := o3.past (b5 w4.heap.size) (Nat.le_refl _) (by omega)
    have o45 := o4.past (b5 w4.heap.size) (Nat.le_refl _) (by omega)
    have z5' : w4.heap.size ≤ w5.heap.size := by omega
    clear z5 b5
    cases v
    · go_wp2
      go_ret2
      exact Fin.out _ B5 o35 ⟨_, o45⟩
    · go_wp2_with fail
      refine (next_any w.heap.size n c A (0 + 1 + m + 1) m _ (by omega) (by omega) (by omega) l hn s5).mono ?_
      rintro e w6 ⟨⟨y, hy0, hy1, rfl⟩, s6, b6, z6⟩
      obtain ⟨j, rfl⟩ := Int.eq_ofNat_of_zero_le hy0
      have hj : j < m := by omega
      have B6 : Below w.heap.size w w6 := B5.trans ((b6 w.heap.size).below (Nat.le_refl _) (Nat.le_refl _))
      have o36 := o35.past (b6 w5.heap.size) (Nat.le_refl _) (by omega)
      have o46 := o45.past (b6 w5.heap.size) (Nat.le_refl _) (by omega)
      clear z6 b6
      obtain ⟨g, rfl, hg, hgl, hc, hf⟩ := o46.at_ hpos
      obtain ⟨X, hX⟩ : ∃ X, X = r3.getD j 0 := ⟨_, rfl⟩
      have hXb := o46.byte.get j
      rw [← hX] at hXb
      have hcj := hc j hj
      rw [← hX] at hcj
      have hfj := hf j
      obtain ⟨hX0, hX1⟩ := hXb
      obtain ⟨q0, q1⟩ := xor_one X hX0 hX1
      clear hc hf hX
      go_wp2
      go_ret2
      exact Fin.out _ (B6.setCell (by simp; omega) _) (o36.under ((Below.refl w3.heap.size w6).setCell (p := ⟨g, j, none⟩) hg _) Top.out) ⟨_, o46.set_ hj q0 q1⟩
  · obtain rfl : m = 0 := by omega
    go_wp2
    go_ret2
    exact Fin.out _ B4 o3 ⟨_, o4⟩
end Go.Proofs.Ytbjcgdgebbiieaa
