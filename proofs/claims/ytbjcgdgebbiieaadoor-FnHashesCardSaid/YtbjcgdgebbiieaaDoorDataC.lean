/- The draws of chapter 2. -/
import Derived.Test.YtbjcgdgebbiieaaDoorDrawD
namespace Go.Proofs.YtbjcgdgebbiieaaDoor
open Go.RowKit

def dataList : List Int := [0, 1, 3, 55, 56, 63, 64, 65, 119, 120]
def bigList : List Int := [1000, 1001]
theorem dataList_bd : ∀ x ∈ dataList, 0 ≤ x ∧ x ≤ 1001 := by decide
theorem bigList_bd : ∀ x ∈ bigList, 0 ≤ x ∧ x ≤ 1001 := by decide

theorem data_any (p k c : Nat) (A : Option Addr) (at_ : Nat) (w : World) (hat : at_ ≤ 90000) (l : List Int) (hkm : k ≤ 1048576) (h : Src w p A k c l at_) :
    Calls Tryd.prog 30 #[.pointer (some ⟨p, 0, none⟩)] w fun e w' => (∃ A' c' n r, e = .returned (.slice A' n c') ∧ Row w' w.heap.size (.slice A' n c') r ∧ r.length = n ∧ n ≤ 1001) ∧ (∃ q, Src w' p A k c l q ∧ q ≤ at_ + 2000) ∧ But p w.heap.size w w' := by
  have hp := h.lt
  go_enter Tryd.func30, Tryd.ntmps30
  go_wp2_with fail
  refine (pick_any p k c A at_ w.heap.size 10 10 dataList _ (by omega) (by omega) (by omega) l hkm (h.but (ab (Below.refl _ _) _) (Nat.le_refl _)) rfl (by omega) (ints_cells w dataList _ _ rfl)).mono ?_
  rintro e w2 ⟨⟨x, hx, rfl⟩, s2, b2, z2⟩
  have z2' : w.heap.size < w2.heap.size := by rw [z2]; simp
  have B2 : But p w.heap.size w w2 := (But.of_below (ab (Below.refl _ w) _)).trans (b2 w.heap.size)
  obtain ⟨hx0, hx1⟩ := dataList_bd x hx
  obtain ⟨m, rfl⟩ := Int.eq_ofNat_of_zero_le hx0
  clear z2 hx b2
  go_wp2_with fail
  refine (chance_any p k c A (at_ + 1) 40 _ (by omega) (by omega) (by omega) l hkm s2).mono ?_
  rintro e w3 ⟨⟨v, rfl⟩, s3, b3, z3⟩
  have B3 : But p w.heap.size w w3 := B2.trans (b3 w.heap.size)
  have z3' : w.heap.size < w3.heap.size := by omega
  clear z3 b3
  cases v
  · go_wp2_with fail
    refine (some_any p k c A (at_ + 1 + 1) m _ (by omega) l hkm s3).mono ?_
    rintro e w4 ⟨⟨A4, c4, r4, rfl, row4, hr4⟩, s4, b4⟩
    have B4 := B3.trans (b4.mono (by omega))
    have row4' := row4.mono (show w.heap.size ≤ w3.heap.size by omega)
    have Hr4 := Lib.hid hr4
    clear hr4 row4
    go_wp2
    go_ret
    exact ⟨⟨A4, c4, m, r4, rfl, row4', Hr4.out, by omega⟩, ⟨_, s4, by omega⟩, B4⟩
  · go_wp2_with fail
    refine (pick_any p k c A (at_ + 1 + 1) w3.heap.size 2 2 bigList _ (by omega) (by omega) (by omega) l hkm (s3.but (ab (Below.refl _ _) _) (Nat.le_refl _)) rfl (by omega) (ints_cells w3 bigList _ _ rfl)).mono ?_
    rintro e w4 ⟨⟨y, hy, rfl⟩, s4, b4, z4⟩
    have z4' : w3.heap.size < w4.heap.size := by rw [z4]; simp
    have B4 : But p w.heap.size w w4 := B3.trans ((But.of_below (ab (Below.refl _ w3) _)).trans (b4 w3.heap.size) |>.mono (by omega))
    obtain ⟨hy0, hy1⟩ := bigList_bd y hy
    obtain ⟨m', rfl⟩ := Int.eq_ofNat_of_zero_le hy0
    clear z4 hy b4
    go_wp2_with fail
    refine (some_any p k c A (at_ + 1 + 1 + 1) m' _ (by omega) l hkm s4).mono ?_
    rintro e w5 ⟨⟨A5, c5, r5, rfl, row5, hr5⟩, s5, b5⟩
    have B5 := B4.trans (b5.mono (by omega))
    have row5' := row5.mono (show w.heap.size ≤ w4.heap.size by omega)
    have Hr5 := Lib.hid hr5
    clear hr5 row5
    go_wp2
    go_ret
    exact ⟨⟨A5, c5, m', r5, rfl, row5', Hr5.out, by omega⟩, ⟨_, s5, by omega⟩, B5⟩

/-- a drawn run of bytes -/
theorem Row.capd {w : World} {B n c : Nat} {A : Option Addr} {l : List Int} (h : Row w B (.slice A n c) l) : A = none → c = 0 := by
  intro e
  subst e
  rcases h.own.2 with ⟨e, _⟩ | ⟨g, cap, cur, e, _⟩
  · injection e with _ _ e3
  · injection e with e1
    cases e1

theorem drawPadMessage_any (A : Option Addr) (n c : Nat) (l : List Int) (w : World) (h : Bs w A n l) (hn : n ≤ 1048576) :
    Calls Tryd.prog 8 #[.slice A n c] w fun e w' => (∃ A' c' m r, e = .returned (.slice A' m c') ∧ Ow w' w.heap.size A' m r ∧ m ≤ 1001 ∧ (A' = none → c' = 0)) ∧ Below w.heap.size w w' := by
  go_enter Tryd.func8, Tryd.ntmps8
  go_wp2_with fail
  refine (source_any _ _ _ _ _ h).mono ?_
  rintro e w1 ⟨rfl, s1, b1, z1⟩
  have z1' : w.heap.size < w1.heap.size := by omega
  clear z1
  go_wp2_with fail
  refine (data_any w.heap.size n c A 0 _ (by omega) l hn s1).mono ?_
  rintro e w2 ⟨⟨A2, c2, m, r, rfl, row, hr, hm⟩, s2, b2⟩
  have o2 := (row.ow' hr).mono (show w.heap.size ≤ w1.heap.size by omega)
  have B2 := b1.trans (b2.below (by omega) (Nat.le_refl _))
  have hcap := row.capd
  clear hr row
  go_wp2
  go_ret
  exact ⟨⟨A2, c2, m, r, rfl, o2, hm, hcap⟩, B2⟩

def keyList : List Int := [0, 1, 32, 64, 65]
theorem keyList_bd : ∀ x ∈ keyList, 0 ≤ x ∧ x ≤ 65 := by decide

/-- a drawn key and a drawn run of bytes -/
theorem drawMacOf_any (A : Option Addr) (n c : Nat) (l : List Int) (w : World) (h : Bs w A n l) (hn : n ≤ 1048576) :
    Calls Tryd.prog 11 #[.slice A n c] w fun e w' => (∃ A1 c1 m1 r1 A2 c2 m2 r2, e = .returned (.tuple #[.slice A1 m1 c1, .slice A2 m2 c2]) ∧ Ow w' w.heap.size A1 m1 r1 ∧ Ow w' w.heap.size A2 m2 r2 ∧ m1 ≤ 1001 ∧ m2 ≤ 1001 ∧ (A2 = none → c2 = 0)) ∧ Below w.heap.size w w' := by
  go_enter Tryd.func11, Tryd.ntmps11
  go_wp2_with fail
  refine (source_any _ _ _ _ _ h).mono ?_
  rintro e w1 ⟨rfl, s1, b1, z1⟩
  have z1' : w.heap.size < w1.heap.size := by omega
  clear z1
  go_wp2_with fail
  refine (pick_any w.heap.size n c A 0 w1.heap.size 5 5 keyList _ (by omega) (by omega) (by omega) l hn (s1.but (ab (Below.refl _ _) _) (Nat.le_refl _)) rfl (by omega) (ints_cells w1 keyList _ _ rfl)).mono ?_
  rintro e w2 ⟨⟨x, hx, rfl⟩, s2, b2, z2⟩
  have z2' : w1.heap.size < w2.heap.size := by rw [z2]; simp
  have B2 : Below w.heap.size w w2 := (ab b1 _).trans ((b2 w.heap.size).below (Nat.le_refl _) (Nat.le_refl _))
  obtain ⟨hx0, hx1⟩ := keyList_bd x hx
  obtain ⟨m, rfl⟩ := Int.eq_ofNat_of_zero_le hx0
  clear z2 hx b2
  go_wp2_with fail
  refine (some_any w.heap.size n c A (0 + 1) m _ (by omega) l hn s2).mono ?_
  rintro e w3 ⟨⟨A3, c3, r3, rfl, row3, hr3⟩, s3, b3⟩
  have z3 := b3.size
  have B3 : Below w.heap.size w w3 := B2.trans (b3.below (by omega) (Nat.le_refl _))
  have o3 := (row3.ow' hr3).mono (show w.heap.size + 1 ≤ w2.heap.size by omega)
  clear hr3 row3 b3
  go_wp2_with fail
  refine (data_any w.heap.size n c A (0 + 1 + m) _ (by omega) l hn s3).mono ?_
  rintro e w4 ⟨⟨A4, c4, m4, r4, rfl, row4, hr4, hm4⟩, s4, b4⟩
  have o34 := (o3.past b4 (Nat.le_refl _) (by omega)).mono (show w.heap.size ≤ w.heap.size + 1 by omega)
  have o4 := (row4.ow' hr4).mono (show w.heap.size ≤ w3.heap.size by omega)
  have B4 := B3.trans (b4.below (by omega) (Nat.le_refl _))
  have hcap := row4.capd
  clear hr4 row4 b4 s4
  go_wp2
  go_ret2
  exact ⟨⟨A3, c3, m, r3, A4, c4, m4, r4, rfl, o34, o4, by omega, by omega, hcap⟩, B4⟩

def chainList : List Int := [32, 32, 32, 32, 31, 33]
theorem chainList_bd : ∀ x ∈ chainList, 0 ≤ x ∧ x ≤ 65 := by decide

/-- a drawn chain and a drawn run of bytes -/
theorem drawKeysOf_any (A : Option Addr) (n c : Nat) (l : List Int) (w : World) (h : Bs w A n l) (hn : n ≤ 1048576) :
    Calls Tryd.prog 13 #[.slice A n c] w fun e w' => (∃ A1 c1 m1 r1 A2 c2 m2 r2, e = .returned (.tuple #[.slice A1 m1 c1, .slice A2 m2 c2]) ∧ Ow w' w.heap.size A1 m1 r1 ∧ Ow w' w.heap.size A2 m2 r2 ∧ m1 ≤ 1001 ∧ m2 ≤ 1001 ∧ (A2 = none → c2 = 0)) ∧ Below w.heap.size w w' := by
  go_enter Tryd.func13, Tryd.ntmps13
  go_wp2_with fail
  refine (source_any _ _ _ _ _ h).mono ?_
  rintro e w1 ⟨rfl, s1, b1, z1⟩
  have z1' : w.heap.size < w1.heap.size := by omega
  clear z1
  go_wp2_with fail
  refine (pick_any w.heap.size n c A 0 w1.heap.size 6 6 chainList _ (by omega) (by omega) (by omega) l hn (s1.but (ab (Below.refl _ _) _) (Nat.le_refl _)) rfl (by omega) (ints_cells w1 chainList _ _ rfl)).mono ?_
  rintro e w2 ⟨⟨x, hx, rfl⟩, s2, b2, z2⟩
  have z2' : w1.heap.size < w2.heap.size := by rw [z2]; simp
  have B2 : Below w.heap.size w w2 := (ab b1 _).trans ((b2 w.heap.size).below (Nat.le_refl _) (Nat.le_refl _))
  obtain ⟨hx0, hx1⟩ := chainList_bd x hx
  obtain ⟨m, rfl⟩ := Int.eq_ofNat_of_zero_le hx0
  clear z2 hx b2
  go_wp2_with fail
  refine (some_any w.heap.size n c A (0 + 1) m _ (by omega) l hn s2).mono ?_
  rintro e w3 ⟨⟨A3, c3, r3, rfl, row3, hr3⟩, s3, b3⟩
  have z3 := b3.size
  have B3 : Below w.heap.size w w3 := B2.trans (b3.below (by omega) (Nat.le_refl _))
  have o3 := (row3.ow' hr3).mono (show w.heap.size + 1 ≤ w2.heap.size by omega)
  clear hr3 row3 b3
  go_wp2_with fail
  refine (data_any w.heap.size n c A (0 + 1 + m) _ (by omega) l hn s3).mono ?_
  rintro e w4 ⟨⟨A4, c4, m4, r4, rfl, row4, hr4, hm4⟩, s4, b4⟩
  have o34 := (o3.past b4 (Nat.le_refl _) (by omega)).mono (show w.heap.size ≤ w.heap.size + 1 by omega)
  have o4 := (row4.ow' hr4).mono (show w.heap.size ≤ w3.heap.size by omega)
  have B4 := B3.trans (b4.below (by omega) (Nat.le_refl _))
  have hcap := row4.capd
  clear hr4 row4 b4 s4
  go_wp2
  go_ret2
  exact ⟨⟨A3, c3, m, r3, A4, c4, m4, r4, rfl, o34, o4, by omega, by omega, hcap⟩, B4⟩
end Go.Proofs.YtbjcgdgebbiieaaDoor
