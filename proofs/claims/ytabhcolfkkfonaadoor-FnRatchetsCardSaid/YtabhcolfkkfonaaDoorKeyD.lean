/- What chapter 7's laws draw of a code. -/
import Derived.Test.YtabhcolfkkfonaaDoorBase
namespace Go.Proofs.YtabhcolfkkfonaaDoor
open Go.RowKit

def rootPick : List Int := [31, 33]
theorem rootPick_bd : ∀ x ∈ rootPick, 0 ≤ x ∧ x ≤ 33 := by decide
def slotPick : List Int := [0, 15, 16, 33, 100, 400, 401, -1]
theorem slotPick_bd : ∀ x ∈ slotPick, -1 ≤ x ∧ x ≤ 401 := by decide
def epochPick : List Int := [0, 15, 16, 31, 32, 400, 401, -1]
theorem epochPick_bd : ∀ x ∈ epochPick, -1 ≤ x ∧ x ≤ 401 := by decide

set_option maxHeartbeats 1000000 in
theorem l7Root_any (p k c : Nat) (A : Option Addr) (at_ : Nat) (w : World) (hat : at_ ≤ 99000) (l : List Int) (hkm : k ≤ 1048576) (h : Src w p A k c l at_) :
    Calls Tryd.prog 24 #[.pointer (some ⟨p, 0, none⟩)] w fun e w' => (∃ A' c' n r, e = .returned (.slice A' n c') ∧ Row w' w.heap.size (.slice A' n c') r ∧ r.length = n ∧ n ≤ 33) ∧ (∃ q, Src w' p A k c l q ∧ q ≤ at_ + 40) ∧ But p w.heap.size w w' := by
  have hp := h.lt
  go_enter Tryd.func24, Tryd.ntmps24
  go_wp2_with fail
  refine (chance_any p k c A at_ 12 _ (by omega) (by omega) (by omega) l hkm h).mono ?_
  rintro e w3 ⟨⟨v, rfl⟩, s3, b3, z3⟩
  have B3 : But p w.heap.size w w3 := b3 w.heap.size
  have z3' : w.heap.size ≤ w3.heap.size := by omega
  clear z3 b3
  cases v
  · go_wp2_with fail
    refine (some_any p k c A (at_ + 1) 32 _ (by omega) l hkm s3).mono ?_
    rintro e w4 ⟨⟨A4, c4, r4, rfl, row4, hr4⟩, s4, b4⟩
    have B4 := B3.trans (b4.mono (by omega))
    have row4' := row4.mono (show w.heap.size ≤ w3.heap.size by omega)
    have Hr4 := Lib.hid hr4
    clear hr4 row4 b4
    go_wp2
    go_ret
    exact ⟨⟨A4, c4, 32, r4, rfl, row4', Hr4.out, by omega⟩, ⟨_, s4, by omega⟩, B4⟩
  · go_wp2_with fail
    refine (pick_any p k c A (at_ + 1) w3.heap.size 2 2 rootPick _ (by omega) (by omega) (by omega) l hkm (s3.but (ab (Below.refl _ _) _) (Nat.le_refl _)) rfl (by omega) (ints_cells w3 rootPick _ _ rfl)).mono ?_
    rintro e w4 ⟨⟨y, hy, rfl⟩, s4, b4, z4⟩
    have z4' : w3.heap.size < w4.heap.size := by rw [z4]; simp
    have B4 : But p w.heap.size w w4 := B3.trans ((But.of_below (ab (Below.refl _ w3) _)).trans (b4 w3.heap.size) |>.mono (by omega))
    obtain ⟨hy0, hy1⟩ := rootPick_bd y hy
    obtain ⟨m', rfl⟩ := Int.eq_ofNat_of_zero_le hy0
    clear z4 hy b4
    go_wp2_with fail
    refine (some_any p k c A (at_ + 1 + 1) m' _ (by omega) l hkm s4).mono ?_
    rintro e w5 ⟨⟨A5, c5, r5, rfl, row5, hr5⟩, s5, b5⟩
    have B5 := B4.trans (b5.mono (by omega))
    have row5' := row5.mono (show w.heap.size ≤ w4.heap.size by omega)
    have Hr5 := Lib.hid hr5
    clear hr5 row5
    go_wp2
    go_ret
    exact ⟨⟨A5, c5, m', r5, rfl, row5', Hr5.out, by omega⟩, ⟨_, s5, by omega⟩, B5⟩

theorem drawEpochOf_any (A : Option Addr) (n c : Nat) (l : List Int) (w : World) (h : Bs w A n l) (hn : n ≤ 1048576) :
    Calls Tryd.prog 9 #[.slice A n c] w fun e w' => (∃ s : Int, e = .returned (.int .i64 s) ∧ -1 ≤ s ∧ s ≤ 401) ∧ Below w.heap.size w w' := by
  go_enter Tryd.func9, Tryd.ntmps9
  go_wp2_with fail
  refine (source_any _ _ _ _ _ h).mono ?_
  rintro e w1 ⟨rfl, s1, b1, z1⟩
  have z1' : w.heap.size < w1.heap.size := by omega
  clear z1
  go_wp2_with fail
  refine (pick_any w.heap.size n c A 0 w1.heap.size 8 8 epochPick _ (by omega) (by omega) (by omega) l hn (s1.but (ab (Below.refl _ _) _) (Nat.le_refl _)) rfl (by omega) (ints_cells w1 epochPick _ _ rfl)).mono ?_
  rintro e w2 ⟨⟨x, hx, rfl⟩, s2, b2, z2⟩
  have B2 : Below w.heap.size w w2 := (ab b1 _).trans ((b2 w.heap.size).below (Nat.le_refl _) (Nat.le_refl _))
  obtain ⟨hx0, hx1⟩ := epochPick_bd x hx
  clear z2 hx b2
  go_wp2
  go_ret
  exact ⟨⟨x, rfl, hx0, hx1⟩, B2⟩

theorem drawNextChain_any (A : Option Addr) (n c : Nat) (l : List Int) (w : World) (h : Bs w A n l) (hn : n ≤ 1048576) :
    Calls Tryd.prog 10 #[.slice A n c] w fun e w' => (∃ A1 c1 m r, e = .returned (.slice A1 m c1) ∧ Bs w' A1 m r ∧ m ≤ 33) ∧ Below w.heap.size w w' := by
  go_enter Tryd.func10, Tryd.ntmps10
  go_wp2_with fail
  refine (source_any _ _ _ _ _ h).mono ?_
  rintro e w1 ⟨rfl, s1, b1, z1⟩
  have z1' : w.heap.size < w1.heap.size := by omega
  clear z1
  go_wp2_with fail
  refine (l7Root_any w.heap.size n c A 0 _ (by omega) l hn s1).mono ?_
  rintro e w2 ⟨⟨A2, c2, m, r, rfl, row2, hr2, hm⟩, _, b2⟩
  have B2 := b1.trans (b2.below (by omega) (Nat.le_refl _))
  have o2 := (row2.ow' hr2).bs
  clear hr2 row2 b2
  go_wp2
  go_ret
  exact ⟨⟨A2, c2, m, r, rfl, o2, hm⟩, B2⟩

theorem drawKeyAt_any (A : Option Addr) (n c : Nat) (l : List Int) (w : World) (h : Bs w A n l) (hn : n ≤ 1048576) :
    Calls Tryd.prog 7 #[.slice A n c] w fun e w' => (∃ A1 c1 m r s, e = .returned (.tuple #[.slice A1 m c1, .int .i64 s]) ∧ Bs w' A1 m r ∧ m ≤ 33 ∧ -1 ≤ s ∧ s ≤ 401) ∧ Below w.heap.size w w' := by
  go_enter Tryd.func7, Tryd.ntmps7
  go_wp2_with fail
  refine (source_any _ _ _ _ _ h).mono ?_
  rintro e w1 ⟨rfl, s1, b1, z1⟩
  have z1' : w.heap.size < w1.heap.size := by omega
  clear z1
  go_wp2_with fail
  refine (l7Root_any w.heap.size n c A 0 _ (by omega) l hn s1).mono ?_
  rintro e w2 ⟨⟨A2, c2, m, r, rfl, row2, hr2, hm⟩, ⟨q, s2, hq⟩, b2⟩
  have z2 := b2.size
  have B2 := b1.trans (b2.below (by omega) (Nat.le_refl _))
  have o2 := (row2.ow' hr2)
  clear hr2 row2 b2
  go_wp2_with fail
  refine (pick_any w.heap.size n c A q w2.heap.size 8 8 slotPick _ (by omega) (by omega) (by omega) l hn (s2.but (ab (Below.refl _ _) _) (Nat.le_refl _)) rfl (by omega) (ints_cells w2 slotPick _ _ rfl)).mono ?_
  rintro e w3 ⟨⟨x, hx, rfl⟩, s3, b3, z3⟩
  have o3 := (o2.alloc (.cells ((slotPick.map (Value.int .i64)).toArray) 2)).past (b3 (w2.heap.size + 1)) (by simp) (by omega)
  have B3 : Below w.heap.size w w3 := (ab B2 _).trans ((b3 w.heap.size).below (Nat.le_refl _) (Nat.le_refl _))
  obtain ⟨hx0, hx1⟩ := slotPick_bd x hx
  clear z3 hx b3
  go_wp2
  go_ret2
  exact ⟨⟨A2, c2, m, r, x, rfl, o3.bs, hm, hx0, hx1⟩, B3⟩
end Go.Proofs.YtabhcolfkkfonaaDoor
