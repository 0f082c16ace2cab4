/- The draws of chapter 3: keys, nonces, data. -/
import Derived.Test.YtcanmhlhnihijaaDoorBase
namespace Go.Proofs.YtcanmhlhnihijaaDoor
open Go.RowKit

/-- a byte of a row written over -/
theorem Row.set_ {w : World} {B g n c : Nat} {l : List Int} (h : Row w B (.slice (some ⟨g, 0, none⟩) n c) l) (i : Nat) {x : Int} (h0 : 0 ≤ x) (h1 : x < 256) :
    Row (w.setCell ⟨g, i, none⟩ (.int .u8 x)) B (.slice (some ⟨g, 0, none⟩) n c) (l.set i x) := by
  refine ⟨fun y hy => ?_, ?_⟩
  · rcases List.mem_or_eq_of_mem_set hy with h2 | rfl
    · exact h.byte y h2
    · exact ⟨h0, h1⟩
  rcases h.own.2 with ⟨e, _⟩ | ⟨g', cap, cur, e, hB, hg, h3, h4, h5, h6⟩
  · injection e with e1; cases e1
  · injection e with e1 e2 e3
    injection e1 with e1
    injection e1 with e1
    subst e1 e2 e3
    refine ⟨by simp, .inr ⟨g, c, cur.setIfInBounds i (.int .u8 x), by rw [List.length_set], hB, ?_, by rw [List.length_set]; exact h3, h4, by simpa using h5, ?_⟩⟩
    · simp [World.setCell, Array.getElem?_modify, hg]
    · rw [Nat.mul_one] at h6 ⊢
      rw [List.length_set, Array.toList_setIfInBounds, List.take_set, h6, List.map_set]

def noncePick : List Int := [11, 13]
theorem noncePick_bd : ∀ x ∈ noncePick, 0 ≤ x ∧ x ≤ 13 := by decide

theorem l3Nonce_any (p k c : Nat) (A : Option Addr) (at_ : Nat) (w : World) (hat : at_ ≤ 99000) (l : List Int) (hkm : k ≤ 1048576) (h : Src w p A k c l at_) :
    Calls Tryd.prog 35 #[.pointer (some ⟨p, 0, none⟩)] w fun e w' => (∃ A' c' n r, e = .returned (.slice A' n c') ∧ Row w' w.heap.size (.slice A' n c') r ∧ r.length = n ∧ n ≤ 13) ∧ (∃ q, Src w' p A k c l q ∧ q ≤ at_ + 20) ∧ But p w.heap.size w w' := by
  have hp := h.lt
  go_enter Tryd.func35, Tryd.ntmps35
  go_wp2_with fail
  refine (chance_any p k c A at_ 14 _ (by omega) (by omega) (by omega) l hkm h).mono ?_
  rintro e w3 ⟨⟨v, rfl⟩, s3, b3, z3⟩
  have B3 : But p w.heap.size w w3 := b3 w.heap.size
  have z3' : w.heap.size ≤ w3.heap.size := by omega
  clear z3 b3
  cases v
  · go_wp2_with fail
    refine (some_any p k c A (at_ + 1) 12 _ (by omega) l hkm s3).mono ?_
    rintro e w4 ⟨⟨A4, c4, r4, rfl, row4, hr4⟩, s4, b4⟩
    have B4 := B3.trans (b4.mono (by omega))
    have row4' := row4.mono (show w.heap.size ≤ w3.heap.size by omega)
    have Hr4 := Lib.hid hr4
    clear hr4 row4
    go_wp2
    go_ret
    exact ⟨⟨A4, c4, 12, r4, rfl, row4', Hr4.out, by omega⟩, ⟨_, s4, by omega⟩, B4⟩
  · go_wp2_with fail
    refine (pick_any p k c A (at_ + 1) w3.heap.size 2 2 noncePick _ (by omega) (by omega) (by omega) l hkm (s3.but (ab (Below.refl _ _) _) (Nat.le_refl _)) rfl (by omega) (ints_cells w3 noncePick _ _ rfl)).mono ?_
    rintro e w4 ⟨⟨y, hy, rfl⟩, s4, b4, z4⟩
    have z4' : w3.heap.size < w4.heap.size := by rw [z4]; simp
    have B4 : But p w.heap.size w w4 := B3.trans ((But.of_below (ab (Below.refl _ w3) _)).trans (b4 w3.heap.size) |>.mono (by omega))
    obtain ⟨hy0, hy1⟩ := noncePick_bd y hy
    obtain ⟨m', rfl⟩ := Int.eq_ofNat_of_zero_le hy0
    clear z4 hy b4
    go_wp2_with fail
    refine (some_any p k c A (at_ + 1 + 1) m' _ (by omega) l hkm s4).mono ?_
    rintro e w5 ⟨⟨A5, c5, r5, rfl, row5, hr5⟩, s5, b5⟩
    have B5 := B4.trans (b5.mono (by omega))
    have row5' := row5.mono (show w.heap.size ≤ w4.heap.size by omega)
    have Hr5 := Lib.hid hr5
    clear hr5 row5
    go_wp2
    go_ret
    exact ⟨⟨A5, c5, m', r5, rfl, row5', Hr5.out, by omega⟩, ⟨_, s5, by omega⟩, B5⟩

def keyPick : List Int := [31, 33, 0]
theorem keyPick_bd : ∀ x ∈ keyPick, 0 ≤ x ∧ x ≤ 33 := by decide

set_option maxHeartbeats 1000000 in
theorem l3Key_any (p k c : Nat) (A : Option Addr) (at_ : Nat) (w : World) (hat : at_ ≤ 99000) (l : List Int) (hkm : k ≤ 1048576) (h : Src w p A k c l at_) :
    Calls Tryd.prog 34 #[.pointer (some ⟨p, 0, none⟩)] w fun e w' => (∃ A' c' n r, e = .returned (.slice A' n c') ∧ Row w' w.heap.size (.slice A' n c') r ∧ r.length = n ∧ n ≤ 33) ∧ (∃ q, Src w' p A k c l q ∧ q ≤ at_ + 40) ∧ But p w.heap.size w w' := by
  have hp := h.lt
  go_enter Tryd.func34, Tryd.ntmps34
  go_wp2_with fail
  refine (chance_any p k c A at_ 14 _ (by omega) (by omega) (by omega) l hkm h).mono ?_
  rintro e w3 ⟨⟨v, rfl⟩, s3, b3, z3⟩
  have B3 : But p w.heap.size w w3 := b3 w.heap.size
  have z3' : w.heap.size ≤ w3.heap.size := by omega
  clear z3 b3
  cases v
  · go_wp2_with fail
    refine (some_any p k c A (at_ + 1) 32 _ (by omega) l hkm s3).mono ?_
    rintro e w4 ⟨⟨A4, c4, r4, rfl, row4, hr4⟩, s4, b4⟩
    have B4 := B3.trans (b4.mono (by omega))
    have row4' := row4.mono (show w.heap.size ≤ w3.heap.size by omega)
    have z4 := b4.size
    have Hr4 := Lib.hid hr4
    clear hr4 row4 b4
    go_wp2_with fail
    refine (chance_any p k c A (at_ + 1 + 32) 9 _ (by omega) (by omega) (by omega) l hkm s4).mono ?_
    rintro e w5 ⟨⟨v, rfl⟩, s5, b5, z5⟩
    have B5 : But p w.heap.size w w5 := B4.trans ((b5 w4.heap.size).mono (by omega))
    have row5 := row4'.keep (w' := w5) (fun g h1 h2 => (b5 w4.heap.size).block g h2 (by omega))
    clear b5 row4' s4
    cases v
    · go_wp2
      go_ret
      exact ⟨⟨A4, c4, 32, r4, rfl, row5, Hr4.out, by omega⟩, ⟨_, s5, by omega⟩, B5⟩
    · obtain ⟨g, rfl, hgB, hgl, _⟩ := (row5.ow' Hr4.out).at_ (by omega)
      have hgp : p < g := by omega
      have hws : w.heap.size ≤ w5.heap.size := by omega
      go_wp2
      go_loopw [18] (fun i wr => ∃ (j : Nat) (r : List Int), j ≤ 32 ∧ i = .int .i64 (j : Int) ∧ r.length = 32 ∧ Row wr w.heap.size (.slice (some ⟨g, 0, none⟩) 32 c4) r ∧ But g w5.heap.size w5 wr) (fun i _ => 32 - (intOf i).toNat)
      case atStart => exact ⟨0, r4, by omega, rfl, Hr4.out, row5, But.refl _ _ _⟩
      case round =>
        obtain ⟨j, r, hj, rfl, hr, hrow, hbut⟩ := hrel
        by_cases hlt : j < 32
        · obtain ⟨g2, e, _, _, hc, hf⟩ := (hrow.ow' hr).at_ (by omega)
          injection e with e
          injection e with e
          subst e
          have q0 := hc j hlt
          have f0 := hf j
          have Hr := Lib.hid hr
          clear hc hf hr
          go_wp2
          exact ⟨⟨j + 1, r.set j 255, by omega, by go_num, by rw [List.length_set]; exact Hr.out, hrow.set_ j (by omega) (by omega), hbut.setCell _ _⟩, by simp [intOf]; omega⟩
        · obtain rfl : j = 32 := by omega
          have s6 := s5.under (hbut.below hws hgB) (by omega)
          have B6 := B5.trans (But.of_below (hbut.below hws hgB))
          have Hr := Lib.hid hr
          clear hr
          go_wp2
          go_ret
          exact ⟨⟨_, c4, 32, r, rfl, hrow, Hr.out, by omega⟩, ⟨_, s6, by omega⟩, B6⟩
  · go_wp2_with fail
    refine (pick_any p k c A (at_ + 1) w3.heap.size 3 3 keyPick _ (by omega) (by omega) (by omega) l hkm (s3.but (ab (Below.refl _ _) _) (Nat.le_refl _)) rfl (by omega) (ints_cells w3 keyPick _ _ rfl)).mono ?_
    rintro e w4 ⟨⟨y, hy, rfl⟩, s4, b4, z4⟩
    have z4' : w3.heap.size < w4.heap.size := by rw [z4]; simp
    have B4 : But p w.heap.size w w4 := B3.trans ((But.of_below (ab (Below.refl _ w3) _)).trans (b4 w3.heap.size) |>.mono (by omega))
    obtain ⟨hy0, hy1⟩ := keyPick_bd y hy
    obtain ⟨m', rfl⟩ := Int.eq_ofNat_of_zero_le hy0
    clear z4 hy b4
    go_wp2_with fail
    refine (some_any p k c A (at_ + 1 + 1) m' _ (by omega) l hkm s4).mono ?_
    rintro e w5 ⟨⟨A5, c5, r5, rfl, row5, hr5⟩, s5, b5⟩
    have B5 := B4.trans (b5.mono (by omega))
    have row5' := row5.mono (show w.heap.size ≤ w4.heap.size by omega)
    have Hr5 := Lib.hid hr5
    clear hr5 row5
    go_wp2
    go_ret
    exact ⟨⟨A5, c5, m', r5, rfl, row5', Hr5.out, by omega⟩, ⟨_, s5, by omega⟩, B5⟩

def dataPick : List Int := [0, 1, 15, 16, 17, 40, 63, 64, 65, 130]
theorem dataPick_bd : ∀ x ∈ dataPick, 0 ≤ x ∧ x ≤ 1001 := by decide
def bigPick : List Int := [1000, 1001]
theorem bigPick_bd : ∀ x ∈ bigPick, 0 ≤ x ∧ x ≤ 1001 := by decide

set_option maxHeartbeats 2000000 in
theorem l3Data_any (p k c : Nat) (A : Option Addr) (at_ : Nat) (w : World) (hat : at_ ≤ 90000) (l : List Int) (hkm : k ≤ 1048576) (h : Src w p A k c l at_) :
    Calls Tryd.prog 37 #[.pointer (some ⟨p, 0, none⟩)] w fun e w' => (∃ A' c' n r, e = .returned (.slice A' n c') ∧ Row w' w.heap.size (.slice A' n c') r ∧ r.length = n ∧ n ≤ 1001) ∧ (∃ q, Src w' p A k c l q ∧ q ≤ at_ + 2000) ∧ But p w.heap.size w w' := by
  have hp := h.lt
  go_enter Tryd.func37, Tryd.ntmps37
  go_wp2_with fail
  refine (pick_any p k c A at_ w.heap.size 10 10 dataPick _ (by omega) (by omega) (by omega) l hkm (h.but (ab (Below.refl _ _) _) (Nat.le_refl _)) rfl (by omega) (ints_cells w dataPick _ _ rfl)).mono ?_
  rintro e w2 ⟨⟨x, hx, rfl⟩, s2, b2, z2⟩
  have z2' : w.heap.size < w2.heap.size := by rw [z2]; simp
  have B2 : But p w.heap.size w w2 := (But.of_below (ab (Below.refl _ w) _)).trans (b2 w.heap.size)
  obtain ⟨hx0, hx1⟩ := dataPick_bd x hx
  obtain ⟨m, rfl⟩ := Int.eq_ofNat_of_zero_le hx0
  clear z2 hx b2
  go_wp2_with fail
  refine (chance_any p k c A (at_ + 1) 50 _ (by omega) (by omega) (by omega) l hkm s2).mono ?_
  rintro e w3 ⟨⟨v, rfl⟩, s3, b3, z3⟩
  have B3 : But p w.heap.size w w3 := B2.trans (b3 w.heap.size)
  have z3' : w.heap.size < w3.heap.size := by omega
  clear z3 b3
  cases v
  · go_wp2_with fail
    refine (some_any p k c A (at_ + 1 + 1) m _ (by omega) l hkm s3).mono ?_
    rintro e w4 ⟨⟨A4, c4, r4, rfl, row4, hr4⟩, s4, b4⟩
    have B4 := B3.trans (b4.mono (by omega))
    have row4' := row4.mono (show w.heap.size ≤ w3.heap.size by omega)
    have z4 := b4.size
    have Hr4 := Lib.hid hr4
    clear hr4 row4 b4
    go_wp2_with fail
    refine (chance_any p k c A (at_ + 1 + 1 + m) 6 _ (by omega) (by omega) (by omega) l hkm s4).mono ?_
    rintro e w5 ⟨⟨v, rfl⟩, s5, b5, z5⟩
    have B5 : But p w.heap.size w w5 := B4.trans ((b5 w4.heap.size).mono (by omega))
    have row5 := row4'.keep (w' := w5) (fun g h1 h2 => (b5 w4.heap.size).block g h2 (by omega))
    clear b5 row4' s4
    cases v
    · go_wp2
      go_ret
      exact ⟨⟨A4, c4, m, r4, rfl, row5, Hr4.out, by omega⟩, ⟨_, s5, by omega⟩, B5⟩
    · have hws : w.heap.size ≤ w5.heap.size := by omega
      go_wp2
      go_loopw [21] (fun i wr => ∃ (j : Nat) (r : List Int), j ≤ m ∧ i = .int .i64 (j : Int) ∧ r.length = m ∧ Row wr w.heap.size (.slice A4 m c4) r ∧ Below w.heap.size w5 wr) (fun i _ => m - (intOf i).toNat)
      case atStart => exact ⟨0, r4, by omega, rfl, Hr4.out, row5, Below.refl _ _⟩
      case round =>
        obtain ⟨j, r, hj, rfl, hr, hrow, hbel⟩ := hrel
        by_cases hlt : j < m
        · obtain ⟨g2, rfl, hgB, _, hc, hf⟩ := (hrow.ow' hr).at_ (by omega)
          have q0 := hc j hlt
          have f0 := hf j
          have Hr := Lib.hid hr
          have hlt' : (j : Int) < (m : Int) := by omega
          clear hc hf hr
          go_wp2
          exact ⟨⟨j + 1, r.set j 255, by omega, by go_num, by rw [List.length_set]; exact Hr.out, hrow.set_ j (by omega) (by omega), hbel.setCell hgB _⟩, by simp [intOf]; omega⟩
        · obtain rfl : j = m := by omega
          have s6 := s5.under hbel (by omega)
          have B6 := B5.trans (But.of_below hbel)
          have Hr := Lib.hid hr
          clear hr
          go_wp2
          go_ret
          exact ⟨⟨_, c4, _, r, rfl, hrow, Hr.out, by omega⟩, ⟨_, s6, by omega⟩, B6⟩
  · go_wp2_with fail
    refine (pick_any p k c A (at_ + 1 + 1) w3.heap.size 2 2 bigPick _ (by omega) (by omega) (by omega) l hkm (s3.but (ab (Below.refl _ _) _) (Nat.le_refl _)) rfl (by omega) (ints_cells w3 bigPick _ _ rfl)).mono ?_
    rintro e w9 ⟨⟨y, hy, rfl⟩, s9, b9, z9⟩
    have z9' : w3.heap.size < w9.heap.size := by rw [z9]; simp
    replace B3 : But p w.heap.size w w9 := B3.trans ((But.of_below (ab (Below.refl _ w3) _)).trans (b9 w3.heap.size) |>.mono (by omega))
    obtain ⟨hy0, hy1⟩ := bigPick_bd y hy
    obtain ⟨m', rfl⟩ := Int.eq_ofNat_of_zero_le hy0
    clear z9 hy b9
    go_wp2_with fail
    refine (some_any p k c A (at_ + 1 + 1 + 1) m' _ (by omega) l hkm s9).mono ?_
    rintro e w4 ⟨⟨A4, c4, r4, rfl, row4, hr4⟩, s4, b4⟩
    have B4 := B3.trans (b4.mono (by omega))
    have row4' := row4.mono (show w.heap.size ≤ w9.heap.size by omega)
    have z4 := b4.size
    have Hr4 := Lib.hid hr4
    clear hr4 row4 b4
    go_wp2_with fail
    refine (chance_any p k c A (at_ + 1 + 1 + 1 + m') 6 _ (by omega) (by omega) (by omega) l hkm s4).mono ?_
    rintro e w5 ⟨⟨v, rfl⟩, s5, b5, z5⟩
    have B5 : But p w.heap.size w w5 := B4.trans ((b5 w4.heap.size).mono (by omega))
    have row5 := row4'.keep (w' := w5) (fun g h1 h2 => (b5 w4.heap.size).block g h2 (by omega))
    clear b5 row4' s4
    cases v
    · go_wp2
      go_ret
      exact ⟨⟨A4, c4, m', r4, rfl, row5, Hr4.out, by omega⟩, ⟨_, s5, by omega⟩, B5⟩
    · have hws : w.heap.size ≤ w5.heap.size := by omega
      go_wp2
      go_loopw [21] (fun i wr => ∃ (j : Nat) (r : List Int), j ≤ m' ∧ i = .int .i64 (j : Int) ∧ r.length = m' ∧ Row wr w.heap.size (.slice A4 m' c4) r ∧ Below w.heap.size w5 wr) (fun i _ => m' - (intOf i).toNat)
      case atStart => exact ⟨0, r4, by omega, rfl, Hr4.out, row5, Below.refl _ _⟩
      case round =>
        obtain ⟨j, r, hj, rfl, hr, hrow, hbel⟩ := hrel
        by_cases hlt : j < m'
        · obtain ⟨g2, rfl, hgB, _, hc, hf⟩ := (hrow.ow' hr).at_ (by omega)
          have q0 := hc j hlt
          have f0 := hf j
          have Hr := Lib.hid hr
          have hlt' : (j : Int) < (m' : Int) := by omega
          clear hc hf hr
          go_wp2
          exact ⟨⟨j + 1, r.set j 255, by omega, by go_num, by rw [List.length_set]; exact Hr.out, hrow.set_ j (by omega) (by omega), hbel.setCell hgB _⟩, by simp [intOf]; omega⟩
        · obtain rfl : j = m' := by omega
          have s6 := s5.under hbel (by omega)
          have B6 := B5.trans (But.of_below hbel)
          have Hr := Lib.hid hr
          clear hr
          go_wp2
          go_ret
          exact ⟨⟨_, c4, _, r, rfl, hrow, Hr.out, by omega⟩, ⟨_, s6, by omega⟩, B6⟩
end Go.Proofs.YtcanmhlhnihijaaDoor
