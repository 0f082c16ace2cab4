/- What chapter 6's laws on sealed cells draw. -/
import Derived.Test.YtabhcolfkkfonaaGreatDoorCelE
import Derived.Test.YtabhcolfkkfonaaGreatDoorCipDrw
import Derived.Test.YtabhcolfkkfonaaGreatDoorSelX
namespace Go.Proofs.YtabhcolfkkfonaaGreatDoor
open Go.RowKit
set_option linter.unusedVariables false

def wirePick : List Int := [0, 1, 255, 400, 401]
theorem wirePick_bd : ∀ x ∈ wirePick, 0 ≤ x ∧ x ≤ 401 := by decide
def shortPick : List Int := [63, 4, 0]
theorem shortPick_bd : ∀ x ∈ shortPick, 0 ≤ x ∧ x ≤ 63 := by decide
def sealPick : List Int := [0, 1, 255, 256, 400, 401, -1, 17]
theorem sealPick_bd : ∀ x ∈ sealPick, -1 ≤ x ∧ x ≤ 401 := by decide

theorem l6Wire_no (p k c : Nat) (A : Option Addr) (at_ : Nat) (w : World) (hat : at_ ≤ 99000) (l : List Int) (hkm : k ≤ 1048576) (h : Src w p A k c l at_) (K : Option Addr) (n kc : Nat) (hn : ¬ n = 32) :
    Calls Tryz.prog 115 #[.pointer (some ⟨p, 0, none⟩), .slice K n kc] w fun e w' => (∃ A' m c' r, e = .returned (.slice A' m c') ∧ Bs w' A' m r ∧ m ≤ c' ∧ m ≤ 64) ∧ But p w.heap.size w w' := by
  have hb : ((n : Int) != 32) = true := by rw [bne_iff_ne]; omega
  have cs := some_any p k c A at_ 64 w (by omega) l hkm h
  clear hn
  go_enter Tryz.func115, Tryz.ntmps115
  go_wp2_with fail
  refine cs.mono ?_
  rintro e w1 ⟨⟨A1, c1, r, rfl, row, hr⟩, s1, b1⟩
  have o1 := row.ow' hr
  have k1 := row.capX.1
  clear hr row
  go_wp2
  go_ret
  exact ⟨⟨A1, 64, c1, r, rfl, o1.bs, k1, Nat.le_refl _⟩, b1⟩

set_option maxHeartbeats 4000000 in
theorem l6Wire_yes (p k c : Nat) (A : Option Addr) (at_ : Nat) (w : World) (hat : at_ ≤ 99000) (l : List Int) (hkm : k ≤ 1048576) (h : Src w p A k c l at_) (B : Nat) (K : Option Addr) (kc : Nat) (key : List Int) (hk : Ow w B K 32 key) (hpB : p < B) (hkc : 32 ≤ kc) :
    Calls Tryz.prog 115 #[.pointer (some ⟨p, 0, none⟩), .slice K 32 kc] w fun e w' => (∃ A' m c' r, e = .returned (.slice A' m c') ∧ Bs w' A' m r ∧ m ≤ c' ∧ m ≤ 64) ∧ But p w.heap.size w w' := by
  have hp := h.lt
  go_enter Tryz.func115, Tryz.ntmps115
  go_wp2_with fail
  refine (l6Draw_any p k c A at_ _ (by omega) l hkm h).mono ?_
  rintro e w2 ⟨⟨a, b, cc, d, v, A2, c2, m, r, rfl, row, hr, hm, hC⟩, ⟨q, s2, hq⟩, b2⟩
  have z2 := b2.size
  have hk2 := hk.past b2 (Nat.le_refl _) hpB
  have hcap := row.capX.2
  have S2 := Stc.new w2 52 [.int .i64 a, .int .i64 b, .int .i64 cc, .int .i64 d, .bool v, .slice A2 m c2] _ rfl
  have b2' : But p w.heap.size w (w2.alloc (.cells #[.int .i64 a, .int .i64 b, .int .i64 cc, .int .i64 d, .bool v, .slice A2 m c2] 52)) := b2.trans (But.of_below ((ab (Below.refl w2.heap.size w2) _).mono z2))
  have s2' := s2.but (ab (Below.refl w2.heap.size w2) (.cells #[.int .i64 a, .int .i64 b, .int .i64 cc, .int .i64 d, .bool v, .slice A2 m c2] 52)) (Nat.le_refl _)
  have o2 := (row.ow' hr).alloc (.cells #[.int .i64 a, .int .i64 b, .int .i64 cc, .int .i64 d, .bool v, .slice A2 m c2] 52)
  replace hk2 := hk2.alloc (.cells #[.int .i64 a, .int .i64 b, .int .i64 cc, .int .i64 d, .bool v, .slice A2 m c2] 52)
  have HLE := Shut.mk (cellL_len a b cc d v r (by omega))
  have zW : (w2.alloc (.cells #[.int .i64 a, .int .i64 b, .int .i64 cc, .int .i64 d, .bool v, .slice A2 m c2] 52)).heap.size = w2.heap.size + 1 := by simp
  obtain ⟨W3, hW3⟩ : ∃ W, W = w2.alloc (.cells #[.int .i64 a, .int .i64 b, .int .i64 cc, .int .i64 d, .bool v, .slice A2 m c2] 52) := ⟨_, rfl⟩
  rw [← hW3] at S2 b2' s2' o2 hk2 zW
  have z3 : w2.heap.size < W3.heap.size := by omega
  have z3w : w.heap.size < W3.heap.size := by omega
  clear b2 row hr s2 zW hk h
  go_upto_region 4 with (fail)
  rw [← hW3]
  clear hW3
  go_wp2_with fail
  refine (pick_any p k c A q W3.heap.size 5 5 wirePick _ (by omega) (by omega) (by omega) l hkm (s2'.but (ab (Below.refl _ _) _) (Nat.le_refl _)) rfl (by omega) (ints_cells W3 wirePick _ _ rfl)).mono ?_
  rintro e w4 ⟨⟨x, hx, rfl⟩, s4, b4, z4⟩
  obtain ⟨hx0, hx1⟩ := wirePick_bd x hx
  have z4g : W3.heap.size < w4.heap.size := by rw [z4]; simp
  have bb : But p W3.heap.size W3 w4 := (But.of_below (ab (Below.refl W3.heap.size W3) _)).trans (b4 W3.heap.size)
  have S4 : Stc w4 w2.heap.size [.int .i64 a, .int .i64 b, .int .i64 cc, .int .i64 d, .bool v, .slice A2 m c2] 52 := (bb.block _ z3 (by omega)).trans S2
  have o4 := o2.past bb (Nat.le_refl _) (by omega)
  have k4 := hk2.past bb (Nat.le_refl _) hpB
  have B4 := b2'.trans (bb.mono (by omega))
  clear hx z4 b4 bb S2 o2 hk2 b2' s2'
  go_wp2_with fail
  refine (l6Seal_any K kc key x w2.heap.size a b cc d v A2 m c2 r _ k4.bs hkc hx0 (by omega) S4 o4.bs hcap hC).mono ?_
  rintro e w5 ⟨⟨A5, c5, rfl, row5⟩, b5⟩
  have HL := Shut.mk (wireL_len key x (cellL a b cc d v r) HLE.out)
  generalize wireL key x (cellL a b cc d v r) = E at *
  have s5 := s4.but b5 (Nat.le_refl _)
  have B5 := B4.trans (But.of_below (b5.mono (by omega)))
  have z5 := b5.size
  have hcap5 := row5.capX.1
  obtain ⟨g, rfl, hgB, hgl, _⟩ := (row5.ow' HL.out).at_ (by omega)
  have hgp : p < g := by omega
  have hgw : w.heap.size < g := by omega
  clear S4 o4 k4 B4 s4 b5 hC HLE
  go_wp2_with fail
  refine (next_any p k c A (q + 1) 5 _ (by omega) (by omega) (by omega) l hkm s5).mono ?_
  rintro e w6 ⟨⟨y, hy0, hy1, rfl⟩, s6, b6, z6⟩
  have row6 := row5.keep (w' := w6) (fun i h1 h2 => (b6 w5.heap.size).block i h2 (by omega))
  have B6 := B5.trans (b6 w.heap.size)
  have z6g : w5.heap.size ≤ w6.heap.size := by omega
  clear b6 row5 s5 B5 z6
  rcases (show y = 0 ∨ y = 1 ∨ y = 2 ∨ y = 3 ∨ y = 4 by omega) with rfl | rfl | rfl | rfl | rfl
  · go_wp2_with fail
    have s6d : Src w6.drew p A k c l (q + 1 + 1) := ⟨s6.two, ⟨s6.bs.len, s6.bs.byte, s6.bs.at_⟩, s6.apart⟩
    have row6d := row6.drewR
    have B6d : But p w.heap.size w w6.drew := ⟨B6.os, B6.tape, B6.output, B6.size, B6.block⟩
    have z6d : w6.drew.heap.size = w6.heap.size := rfl
    go_region_law (first
      | (go_simp; go_at_call 71; refine (next_any p k c A (q + 1 + 1 + 1) 255 _ (by omega) (by omega) (by omega) l hkm s7).mono ?_; rintro e w8 ⟨⟨t, ht0, ht1, rfl⟩, s8, b8, z8⟩; have row8 := row7.keep (w' := w8) (fun i h1 h2 => (b8 w7.heap.size).block i h2 (by omega)); have B8 := B7.trans (b8 w.heap.size); have z8g : w7.heap.size ≤ w8.heap.size := (by omega); clear b8 z8; obtain ⟨g2, e2, _, _, hc, hf⟩ := (row8.ow' HL.out).at_ (by omega); injection e2 with e2; injection e2 with e2; subst e2; have q1 := hc j (by omega); have f1 := hf j; have wt : IntKind.i64.wrap (1 + t) = 1 + t := IntWalk.i64_in _ (by omega); have wu : IntKind.u8.wrap (1 + t) = 1 + t := IntWalk.u8_in _ (by omega); clear hc hf)
      | (go_simp; go_at_call 71; refine (next_any p k c A (q + 1 + 1) 64 w6.drew (by omega) (by omega) (by omega) l hkm s6d).mono ?_; rintro e w7 ⟨⟨jj, hj0, hj1, rfl⟩, s7, b7, z7⟩; obtain ⟨j, rfl⟩ := Int.eq_ofNat_of_zero_le hj0; have row7 := row6d.keep (w' := w7) (fun i h1 h2 => (b7 w6.heap.size).block i h2 (by omega)); have B7 := B6d.trans (b7 w.heap.size); have z7g : w6.heap.size ≤ w7.heap.size := (by omega); clear b7 z7; obtain ⟨g2, e2, _, _, hc, hf⟩ := (row7.ow' HL.out).at_ (by omega); injection e2 with e2; injection e2 with e2; subst e2; have q0 := hc j (by omega); have f0 := hf j; clear hc hf))
    all_goals
      have ub := row8.byte.get j
      obtain ⟨x0, x1⟩ := xorB_bd (E.getD j 0) (1 + t) ub.1 ub.2 (by omega) (by omega)
      have R := row8.set_ j x0 x1
      have B9 := B8.trans (But.of_below ((Below.refl w.heap.size w8).setCell (p := ⟨g, j, none⟩) (by show w.heap.size ≤ g; omega) (.int .u8 (xorB (E.getD j 0) (1 + t)))))
      have HL2 : (E.set j (xorB (E.getD j 0) (1 + t))).length = 64 := by rw [List.length_set]; exact HL.out
      unfold xorB at R B9 HL2
      go_wp2
      go_ret
      exact ⟨⟨_, 64, c5, rfl, ⟨_, (R.ow' HL2).bs⟩, hcap5, Nat.le_refl _⟩, B9⟩
  · go_wp2_with fail
    refine (pick_any p k c A (q + 1 + 1) w6.heap.size 3 3 shortPick _ (by omega) (by omega) (by omega) l hkm (s6.but (ab (Below.refl _ _) _) (Nat.le_refl _)) rfl (by omega) (ints_cells w6 shortPick _ _ rfl)).mono ?_
    rintro e w7 ⟨⟨y, hy, rfl⟩, s7, b7, z7⟩
    have bb : But p w6.heap.size w6 w7 := (But.of_below (ab (Below.refl w6.heap.size w6) _)).trans (b7 w6.heap.size)
    have row7 := row6.keep (w' := w7) (fun i h1 h2 => bb.block i h2 (by omega))
    have B7 := B6.trans (bb.mono (by omega))
    obtain ⟨hy0, hy1⟩ := shortPick_bd y hy
    obtain ⟨j, rfl⟩ := Int.eq_ofNat_of_zero_le hy0
    have hp7 := (row7.ow' HL.out).bs.part_ 0 j (by omega)
    rw [Nat.add_zero, List.drop_zero] at hp7
    have hc0 : ¬ c5 = 0 := by omega
    have hjc : (j : Int) ≤ (c5 : Int) := by omega
    clear z7 hy b7 bb row6 B6 s6
    go_wp2
    go_ret
    exact ⟨⟨_, j, c5, _, rfl, hp7, by omega, by omega⟩, B7⟩
  · go_wp2
    go_ret
    exact ⟨⟨_, 64, c5, _, rfl, (row6.ow' HL.out).bs, hcap5, Nat.le_refl _⟩, B6⟩
  · go_wp2
    go_ret
    exact ⟨⟨_, 64, c5, _, rfl, (row6.ow' HL.out).bs, hcap5, Nat.le_refl _⟩, B6⟩
  · go_wp2
    go_ret
    exact ⟨⟨_, 64, c5, _, rfl, (row6.ow' HL.out).bs, hcap5, Nat.le_refl _⟩, B6⟩

theorem l6Wire_any (p k c : Nat) (A : Option Addr) (at_ : Nat) (w : World) (hat : at_ ≤ 99000) (l : List Int) (hkm : k ≤ 1048576) (h : Src w p A k c l at_) (B : Nat) (K : Option Addr) (n kc : Nat) (key : List Int) (hk : Ow w B K n key) (hpB : p < B) (hkc : n ≤ kc) :
    Calls Tryz.prog 115 #[.pointer (some ⟨p, 0, none⟩), .slice K n kc] w fun e w' => (∃ A' m c' r, e = .returned (.slice A' m c') ∧ Bs w' A' m r ∧ m ≤ c' ∧ m ≤ 64) ∧ But p w.heap.size w w' := by
  by_cases hn : n = 32
  · subst hn
    exact l6Wire_yes p k c A at_ w hat l hkm h B K kc key hk hpB hkc
  · exact l6Wire_no p k c A at_ w hat l hkm h K n kc hn

set_option maxHeartbeats 1000000 in
theorem drawSlotOf_any (A : Option Addr) (n c : Nat) (l : List Int) (w : World) (h : Bs w A n l) (hn : n ≤ 1048576) :
    Calls Tryz.prog 38 #[.slice A n c] w fun e w' => (∃ A' m c' r, e = .returned (.slice A' m c') ∧ Bs w' A' m r ∧ m ≤ c' ∧ m ≤ 64) ∧ Below w.heap.size w w' := by
  go_enter Tryz.func38, Tryz.ntmps38
  go_wp2_with fail
  refine (source_any _ _ _ _ _ h).mono ?_
  rintro e w1 ⟨rfl, s1, b1, z1⟩
  have z1' : w.heap.size < w1.heap.size := by omega
  clear z1
  go_wp2_with fail
  refine (some_any w.heap.size n c A 0 32 _ (by omega) l hn s1).mono ?_
  rintro e w2 ⟨⟨A2, c2, r2, rfl, row2, hr2⟩, s2, b2⟩
  have B2 := b1.trans (b2.below (by omega) (Nat.le_refl _))
  have z2 := b2.size
  have o2 := row2.ow' hr2
  have k2 := row2.capX.1
  clear row2 hr2 b2 b1
  go_wp2_with fail
  refine (l6Wire_any w.heap.size n c A (0 + 32) _ (by omega) l hn s2 w1.heap.size A2 32 c2 r2 o2 z1' k2).mono ?_
  rintro e w3 ⟨⟨A3, m, c3, r3, rfl, q3, k3, hm⟩, b3⟩
  have B3 := B2.trans (b3.below (by omega) (Nat.le_refl _))
  clear b3 B2
  go_wp2
  go_ret
  exact ⟨⟨A3, m, c3, r3, rfl, q3, k3, hm⟩, B3⟩

set_option maxHeartbeats 1000000 in
theorem drawOpenCell_any (A : Option Addr) (n c : Nat) (l : List Int) (w : World) (h : Bs w A n l) (hn : n ≤ 1048576) :
    Calls Tryz.prog 39 #[.slice A n c] w fun e w' => (∃ A1 n1 c1 r1 A' m c' r, e = .returned (.tuple #[.slice A1 n1 c1, .slice A' m c']) ∧ Bs w' A1 n1 r1 ∧ n1 ≤ c1 ∧ n1 ≤ 33 ∧ Bs w' A' m r ∧ m ≤ c' ∧ m ≤ 64) ∧ Below w.heap.size w w' := by
  go_enter Tryz.func39, Tryz.ntmps39
  go_wp2_with fail
  refine (source_any _ _ _ _ _ h).mono ?_
  rintro e w1 ⟨rfl, s1, b1, z1⟩
  have z1' : w.heap.size < w1.heap.size := by omega
  clear z1
  go_wp2_with fail
  refine (l3Key_any w.heap.size n c A 0 _ (by omega) l hn s1).mono ?_
  rintro e w2 ⟨⟨A2, c2, n2, r2, rfl, row2, hr2, hn2⟩, ⟨q, s2, hq⟩, b2⟩
  have B2 := b1.trans (b2.below (by omega) (Nat.le_refl _))
  have z2 := b2.size
  have o2 := row2.ow' hr2
  have k2 := row2.capX.1
  clear row2 hr2 b2 b1
  go_wp2_with fail
  refine (l6Wire_any w.heap.size n c A q _ (by omega) l hn s2 w1.heap.size A2 n2 c2 r2 o2 z1' k2).mono ?_
  rintro e w3 ⟨⟨A3, m, c3, r3, rfl, q3, k3, hm⟩, b3⟩
  have B3 := B2.trans (b3.below (by omega) (Nat.le_refl _))
  have o3 := o2.past b3 (Nat.le_refl _) z1'
  clear b3 B2 o2
  go_wp2
  go_ret2
  exact ⟨⟨A2, n2, c2, r2, A3, m, c3, r3, rfl, o3.bs, k2, hn2, q3, k3, hm⟩, B3⟩

set_option maxHeartbeats 2000000 in
theorem drawSealCell_any (A : Option Addr) (n c : Nat) (l : List Int) (w : World) (h : Bs w A n l) (hn : n ≤ 1048576) :
    Calls Tryz.prog 36 #[.slice A n c] w fun e w' => (∃ A1 n1 c1 r1 s a b cc d v A' m c' r, e = .returned (.tuple #[.slice A1 n1 c1, .int .i64 s, .agg #[.int .i64 a, .int .i64 b, .int .i64 cc, .int .i64 d, .bool v, .slice A' m c']]) ∧ Bs w' A1 n1 r1 ∧ n1 ≤ c1 ∧ n1 ≤ 33 ∧ -1 ≤ s ∧ s ≤ 401 ∧ Bs w' A' m r ∧ (A' = none → c' = 0) ∧ m ≤ 33) ∧ Below w.heap.size w w' := by
  have D0 := Stc.new w 52 [.int .i64 0, .int .i64 0, .int .i64 0, .int .i64 0, .bool false, .slice none 0 0] _ rfl
  have B0 := ab (Below.refl _ w) (.cells #[.int .i64 0, .int .i64 0, .int .i64 0, .int .i64 0, .bool false, .slice none 0 0] 52)
  have zW : (w.alloc (.cells #[.int .i64 0, .int .i64 0, .int .i64 0, .int .i64 0, .bool false, .slice none 0 0] 52)).heap.size = w.heap.size + 1 := by simp
  obtain ⟨W0, hW0⟩ : ∃ W, W = w.alloc (.cells #[.int .i64 0, .int .i64 0, .int .i64 0, .int .i64 0, .bool false, .slice none 0 0] 52) := ⟨_, rfl⟩
  rw [← hW0] at D0 B0 zW
  go_enter Tryz.func36, Tryz.ntmps36
  go_upto_region 1 with (fail)
  rw [← hW0]
  clear hW0
  go_wp2_with fail
  refine (source_any A n c l _ (h.below B0)).mono ?_
  rintro e w1 ⟨rfl, s1, b1, z1⟩
  obtain ⟨p, hp⟩ : ∃ p, p = W0.heap.size := ⟨_, rfl⟩
  rw [← hp] at s1
  try rw [← hp]
  have D1 := D0.below b1 D0.lt
  have B1 := ac B0 b1
  have hpw : w.heap.size < p := by omega
  have hp1 : p < w1.heap.size := by omega
  clear z1 zW hp b1 B0 D0
  go_wp2_with fail
  refine (l3Key_any p n c A 0 _ (by omega) l hn s1).mono ?_
  rintro e w2 ⟨⟨A2, c2, n2, r2, rfl, row2, hr2, hn2⟩, ⟨q, s2, hq⟩, b2⟩
  have B2 := B1.trans (b2.below (by omega) (by omega))
  have D2 : Stc w2 w.heap.size [.int .i64 0, .int .i64 0, .int .i64 0, .int .i64 0, .bool false, .slice none 0 0] 52 := (b2.block _ (by omega) (by omega)).trans D1
  have z2 := b2.size
  have o2 := row2.ow' hr2
  have k2 := row2.capX.1
  clear row2 hr2 b2 B1 D1 s1
  go_wp2_with fail
  refine (pick_any p n c A q w2.heap.size 8 8 sealPick _ (by omega) (by omega) (by omega) l hn (s2.but (ab (Below.refl _ _) _) (Nat.le_refl _)) rfl (by omega) (ints_cells w2 sealPick _ _ rfl)).mono ?_
  rintro e w3 ⟨⟨x, hx, rfl⟩, s3, b3, z3⟩
  obtain ⟨hx0, hx1⟩ := sealPick_bd x hx
  have bb : But p w2.heap.size w2 w3 := (But.of_below (ab (Below.refl w2.heap.size w2) _)).trans (b3 w2.heap.size)
  have z3g : w2.heap.size < w3.heap.size := by rw [z3]; simp
  have o3 := o2.past bb (Nat.le_refl _) hp1
  have B3 := B2.trans (bb.below (by omega) (by omega))
  have D3 : Stc w3 w.heap.size [.int .i64 0, .int .i64 0, .int .i64 0, .int .i64 0, .bool false, .slice none 0 0] 52 := (bb.block _ (by omega) (by omega)).trans D2
  clear z3 hx b3 bb B2 D2 o2 s2
  go_wp2_with fail
  refine (l6Bent_any p n c A (q + 1) _ (by omega) l hn s3).mono ?_
  rintro e w4 ⟨⟨a, b, cc, d, v, A4, c4, m, r, rfl, row4, hr4, hm4⟩, _, b4⟩
  have o4 := row4.ow' hr4
  have k4 := row4.capX.2
  have o34 := o3.past b4 (Nat.le_refl _) hp1
  have B4 := B3.trans (b4.below (by omega) (by omega))
  have D4 : Stc w4 w.heap.size [.int .i64 0, .int .i64 0, .int .i64 0, .int .i64 0, .bool false, .slice none 0 0] 52 := (b4.block _ (by omega) (by omega)).trans D3
  have z4 := b4.size
  have hw1 : w.heap.size < w1.heap.size := by omega
  have hw3 : w.heap.size < w3.heap.size := by omega
  clear row4 hr4 b4 B3 D3 o3 s3
  have t0 := D4.cell (i := 0) rfl
  have t1 := D4.cell (i := 1) rfl
  have t2 := D4.cell (i := 2) rfl
  have t3 := D4.cell (i := 3) rfl
  have t4 := D4.cell (i := 4) rfl
  have t5 := D4.cell (i := 5) rfl
  have tf := D4.frozen
  go_wp2
  refine bodyPost_ret (v := .tuple #[.slice A2 n2 c2, .int .i64 x, .agg #[.int .i64 a, .int .i64 b, .int .i64 cc, .int .i64 d, .bool v, .slice A4 m c4]]) (by simp [results, Tryz.results36, go_sem, t0, t1, t2, t3, t4, t5]) rfl ?_
  have R2 := ((((((o34.far (p := ⟨w.heap.size, 0, none⟩) hw1 (.int .i64 a)).far (p := ⟨w.heap.size, 1, none⟩) hw1 (.int .i64 b)).far (p := ⟨w.heap.size, 2, none⟩) hw1 (.int .i64 cc)).far (p := ⟨w.heap.size, 3, none⟩) hw1 (.int .i64 d)).far (p := ⟨w.heap.size, 4, none⟩) hw1 (.bool v)).far (p := ⟨w.heap.size, 5, none⟩) hw1 (.slice A4 m c4))
  have R4 := ((((((o4.far (p := ⟨w.heap.size, 0, none⟩) hw3 (.int .i64 a)).far (p := ⟨w.heap.size, 1, none⟩) hw3 (.int .i64 b)).far (p := ⟨w.heap.size, 2, none⟩) hw3 (.int .i64 cc)).far (p := ⟨w.heap.size, 3, none⟩) hw3 (.int .i64 d)).far (p := ⟨w.heap.size, 4, none⟩) hw3 (.bool v)).far (p := ⟨w.heap.size, 5, none⟩) hw3 (.slice A4 m c4))
  have HB := ((((((B4.setCell (p := ⟨w.heap.size, 0, none⟩) (Nat.le_refl _) (.int .i64 a)).setCell (p := ⟨w.heap.size, 1, none⟩) (Nat.le_refl _) (.int .i64 b)).setCell (p := ⟨w.heap.size, 2, none⟩) (Nat.le_refl _) (.int .i64 cc)).setCell (p := ⟨w.heap.size, 3, none⟩) (Nat.le_refl _) (.int .i64 d)).setCell (p := ⟨w.heap.size, 4, none⟩) (Nat.le_refl _) (.bool v)).setCell (p := ⟨w.heap.size, 5, none⟩) (Nat.le_refl _) (.slice A4 m c4))
  exact ⟨⟨A2, n2, c2, r2, x, a, b, cc, d, v, A4, m, c4, r, rfl, R2.bs, k2, hn2, hx0, hx1, R4.bs, k4, hm4⟩, HB⟩
end Go.Proofs.YtabhcolfkkfonaaGreatDoor
