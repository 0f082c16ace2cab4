/- The draws of chapter 4. -/
import Derived.Test.YtgmmoilgmaklgaaPubC
namespace Go.Proofs.Ytgmmoilgmaklgaa
open Go.RowKit

theorem next_zero2 (p c : Nat) (A : Option Addr) (at_ : Nat) (m : Int) (w : World) (hat : at_ ≤ 100000) (hm0 : 60000 < m) (hm1 : m ≤ 2000000000) (l : List Int) (h : Src w p A 0 c l at_) :
    Calls Try.prog 38 #[.pointer (some ⟨p, 0, none⟩), .int .i64 m] w fun e w' => (∃ v : Int, 0 ≤ v ∧ v < m ∧ e = .returned (.int .i64 v)) ∧ ∃ q, w' = (w.setCell ⟨p, 1, none⟩ (.int .i64 ((at_ : Int) + 1))).drewN q := by
  obtain ⟨x0, x1, x2, x3⟩ := h.two.cells
  go_enter Try.func38, Try.ntmps38
  go_wp2
  go_ret
  exact ⟨⟨_, emod_nn _ _ (by omega), emod_lt' _ _ (by omega), rfl⟩, 0, rfl⟩

theorem next_some2 (p k c : Nat) (A : Option Addr) (at_ : Nat) (m : Int) (w : World) (hat : at_ ≤ 100000) (hm0 : 60000 < m) (hm1 : m ≤ 2000000000) (l : List Int) (hk : 0 < k) (hkm : k ≤ 1048576) (h : Src w p A k c l at_) :
    Calls Try.prog 38 #[.pointer (some ⟨p, 0, none⟩), .int .i64 m] w fun e w' => (∃ v : Int, 0 ≤ v ∧ v < m ∧ e = .returned (.int .i64 v)) ∧ ∃ q, w' = (w.setCell ⟨p, 1, none⟩ (.int .i64 ((at_ : Int) + 1))).drewN q := by
  obtain ⟨x0, x1, x2, x3⟩ := h.two.cells
  have hlt : at_ % k < k := Nat.mod_lt _ hk
  have hlt2 : (at_ + 1) % k < k := Nat.mod_lt _ hk
  have hlt3 : (at_ + 2) % k < k := Nat.mod_lt _ hk
  obtain ⟨b, off, X, rfl, hbs, hX0, hX1, HX, hx⟩ := h.bs.get hlt
  obtain ⟨b2, off2, Y, e2, _, hY0, hY1, HY, hy⟩ := h.bs.get hlt2
  injection e2 with e2
  injection e2 with e2 e3
  subst e2 e3
  obtain ⟨b3, off3, Z, e2, _, hZ0, hZ1, HZ, hz⟩ := h.bs.get hlt3
  injection e2 with e2
  injection e2 with e2 e3
  subst e2 e3
  have hbp := h.apart b off rfl hk
  have hd0 : 0 ≤ at_ / k := Nat.zero_le _
  have hd1 : at_ / k ≤ at_ := Nat.div_le_self _ _
  generalize hD : at_ / k = D at *
  generalize hR : at_ % k = R at *
  generalize hS : (at_ + 1) % k = S at *
  generalize hU : (at_ + 2) % k = U at *
  have hne : ((k : Int) == 0) = false := by simp; omega
  have c1 : ((at_ : Int)) / (k : Int) = (D : Int) := by rw [← hD]; rfl
  have c2 : ((at_ : Int)) % (k : Int) = (R : Int) := by rw [← hR]; rfl
  have c3 : ((at_ : Int) + 1) % (k : Int) = (S : Int) := by rw [← hS]; rfl
  have c4 : ((at_ : Int) + 2) % (k : Int) = (U : Int) := by rw [← hU]; rfl
  have hkk : (0 : Int) < (k : Int) := by omega
  have i1 : (R : Int) < (k : Int) := by omega
  have i2 : (S : Int) < (k : Int) := by omega
  have i3 : (U : Int) < (k : Int) := by omega
  clear hD hR hS hU
  have h2 : 200 < m := by omega
  have hm1' : 1 ≤ m := by omega
  go_enter Try.func38, Try.ntmps38
  go_wp2
  go_quiet (fail)
  go_wp2
  go_quiet (fail)
  go_wp2
  go_quiet (fail)
  go_wp2
  go_ret
  exact ⟨⟨_, emod_nn _ _ hm1', emod_lt' _ _ hm1', rfl⟩, _, by first | rfl | (rw [World.drewN_drewN, World.drewN_drewN]) | (rw [World.drewN_drewN])⟩

/-- a draw of a big number -/
theorem next_big (p k c : Nat) (A : Option Addr) (at_ : Nat) (m : Int) (w : World) (hat : at_ ≤ 100000) (hm0 : 60000 < m) (hm1 : m ≤ 2000000000) (l : List Int) (hkm : k ≤ 1048576) (h : Src w p A k c l at_) :
    Calls Try.prog 38 #[.pointer (some ⟨p, 0, none⟩), .int .i64 m] w fun e w' => (∃ v : Int, 0 ≤ v ∧ v < m ∧ e = .returned (.int .i64 v)) ∧ Src w' p A k c l (at_ + 1) ∧ (∀ B, But p B w w') ∧ w'.heap.size = w.heap.size := by
  have fin : ∀ (e : Ending) (w' : World), ((∃ v : Int, 0 ≤ v ∧ v < m ∧ e = .returned (.int .i64 v)) ∧ ∃ q, w' = (w.setCell ⟨p, 1, none⟩ (.int .i64 ((at_ : Int) + 1))).drewN q) →
      ((∃ v : Int, 0 ≤ v ∧ v < m ∧ e = .returned (.int .i64 v)) ∧ Src w' p A k c l (at_ + 1) ∧ (∀ B, But p B w w') ∧ w'.heap.size = w.heap.size) := by
    rintro e w' ⟨hv, q, rfl⟩
    exact ⟨hv, h.next q, fun B => ((But.refl p B w).setCell 1 _).drewN q, by simp⟩
  rcases Nat.eq_zero_or_pos k with hk | hk
  · subst hk
    exact (next_zero2 p c A at_ m w hat hm0 hm1 l h).mono fin
  · exact (next_some2 p k c A at_ m w hat hm0 hm1 l hk hkm h).mono fin

def grpList (v1 v2 : Int) : List Int := [0, 1, 2, 3, 2305843009213693950, 2305843009213693949, 2305843009213693951, -1, v1 * 2000003, v2 * 1000000007]

/-- a number of chapter 4 -/
theorem l4Number_any (p k c : Nat) (A : Option Addr) (at_ : Nat) (l : List Int) (w : World) (hat : at_ ≤ 90000) (hkm : k ≤ 1048576) (h : Src w p A k c l at_) :
    Calls Try.prog 34 #[.pointer (some ⟨p, 0, none⟩)] w fun e w' => (∃ x : Int, e = .returned (.int .i64 x)) ∧ Src w' p A k c l (at_ + 3) ∧ But p w.heap.size w w' := by
  have hp := h.lt
  go_enter Try.func34, Try.ntmps34
  go_wp2_with fail
  refine (next_big p k c A at_ 1000000 w (by omega) (by omega) (by omega) l hkm h).mono ?_
  rintro e w1 ⟨⟨v1, hv0, hv1, rfl⟩, s1, b1, z1⟩
  have B1 := b1 w.heap.size
  clear b1
  go_wp2_with fail
  refine (next_big p k c A (at_ + 1) 2000000000 w1 (by omega) (by omega) (by omega) l hkm s1).mono ?_
  rintro e w2 ⟨⟨v2, hu0, hu1, rfl⟩, s2, b2, z2⟩
  have B2 := B1.trans (b2 w.heap.size)
  have z2' : w.heap.size ≤ w2.heap.size := by omega
  have hp2 : p < w2.heap.size := by omega
  clear b2 z1 z2
  go_wp2_with fail
  refine (pick_any p k c A (at_ + 1 + 1) w2.heap.size 10 10 (grpList v1 v2) _ (by omega) (by omega) (by omega) l hkm (s2.but (ab (Below.refl _ _) _) (Nat.le_refl _)) rfl (by omega) (ints_cells w2 (grpList v1 v2) _ _ rfl)).mono ?_
  rintro e w3 ⟨⟨x, _, rfl⟩, s3, b3, z3⟩
  have B3 := (B2.trans (But.of_below ((Below.refl w.heap.size w2).alloc z2' _))).trans (b3 w.heap.size)
  clear z3 b3
  go_wp2
  go_ret
  exact ⟨⟨x, rfl⟩, s3, B3⟩

theorem Row.room {w : World} {B n c : Nat} {A : Option Addr} {l : List Int} (h : Row w B (.slice A n c) l) (hn : l.length = n) : n ≤ c := by
  rcases h.own.2 with ⟨e, hn0⟩ | ⟨g, cap, cur, e, _, _, hle, _⟩
  · injection e with _ e2 _
    omega
  · injection e with _ e2 e3
    omega

theorem l4BytesRow_any (n : Nat) (hn : n < PR) (w : World) :
    Calls Try.prog 60 #[.int .u64 n] w fun e w' => (∃ A c, e = .returned (.slice A 8 c) ∧ Row w' w.heap.size (.slice A 8 c) (lowOf (n : Int) 8)) ∧ Below w.heap.size w w' := by
  unfold PR at hn
  have c := l1LowRow_any n 7 w (by omega) (by omega) (by omega)
  have hlen : (lowOf (n : Int) 7).length ≤ 140737488351232 := by rw [lowOf_len]; omega
  have hs := lowOf_succ (n : Int) 7
  have ht : (n : Int) / 72057594037927936 = ((n / 72057594037927936 : Nat) : Int) := by omega
  have hb : (n : Int) / 256 ^ 7 % 256 = ((n / 72057594037927936 : Nat) : Int) := by show (n : Int) / 72057594037927936 % 256 = _; omega
  rw [hb] at hs
  have hq : n / 72057594037927936 < 256 := by omega
  obtain ⟨t, e⟩ : ∃ t, t = n / 72057594037927936 := ⟨_, rfl⟩
  rw [← e] at hs ht hq
  have Hl8 := Shut.mk (lowOf_len (n : Int) 8)
  have Hs := Shut.mk hs
  clear e hs hb
  generalize lowOf (n : Int) 8 = L8 at *
  generalize lowOf (n : Int) 7 = L7 at *
  go_enter Try.func60, Try.ntmps60
  go_wp2_with fail
  refine c.mono ?_
  rintro e w1 ⟨⟨v, rfl, hrow⟩, hb1⟩
  have s1 := hb1.size
  go_wp2_with (at_builtin; refine wpList_row_append rfl _ _ rfl _ w.heap.size _ _ rfl (hrow.alloc _) (by simp; omega) ⟨w1.heap.size, 0, none⟩ 1 t rfl (cell_one _ _ _) (by omega) (by omega) hlen ?_; intro v2 w2 hr2 hb2 hs2)
  rw [← Hs.out] at hr2
  obtain ⟨A, d, rfl, how⟩ := hr2.ow Hl8.out
  go_wp2
  go_ret
  exact ⟨⟨A, d, rfl, hr2⟩, (ab hb1 _).trans hb2⟩

theorem l4PublicRow_any (n : Nat) (hn : n ≤ 9223372036854775807) (w : World) :
    Calls Try.prog 50 #[.int .i64 n] w fun e w' => (∃ A c r, e = .returned (.slice A 8 c) ∧ Row w' w.heap.size (.slice A 8 c) r ∧ r.length = 8) ∧ Below w.heap.size w w' := by
  have c1 := l4Pow_any 3 n (by decide) hn
  have c2 := l4BytesRow_any (3 ^ n % PR) (Nat.mod_lt _ (by decide))
  have hl := Shut.mk (lowOf_len ((3 ^ n % PR : Nat) : Int) 8)
  generalize lowOf ((3 ^ n % PR : Nat) : Int) 8 = L at *
  obtain ⟨z, hz⟩ : ∃ z, z = 3 ^ n % PR := ⟨_, rfl⟩
  rw [← hz] at c1 c2
  clear hz
  go_enter Try.func50, Try.ntmps50
  go_wp2_with fail
  refine (c1 _).mono ?_
  rintro e w' ⟨rfl, rfl⟩
  go_wp2_with fail
  refine (c2 _).mono ?_
  rintro e w1 ⟨⟨A, c, rfl, how⟩, hb⟩
  go_wp2
  go_ret
  exact ⟨⟨A, c, L, rfl, how, hl.out⟩, hb⟩

def secList : List Int := [0, 2305843009213693950, -1]

/-- a secret, mostly -/
theorem l4DrawSecret_any (p k c : Nat) (A : Option Addr) (at_ : Nat) (l : List Int) (w : World) (hat : at_ ≤ 90000) (hkm : k ≤ 1048576) (h : Src w p A k c l at_) :
    Calls Try.prog 40 #[.pointer (some ⟨p, 0, none⟩)] w fun e w' => (∃ x : Int, e = .returned (.int .i64 x)) ∧ Src w' p A k c l (at_ + 2) ∧ But p w.heap.size w w' := by
  have hp := h.lt
  go_enter Try.func40, Try.ntmps40
  go_wp2_with fail
  refine (chance_any p k c A at_ 20 w (by omega) (by omega) (by omega) l hkm h).mono ?_
  rintro e w1 ⟨⟨v, rfl⟩, s1, b1, z1⟩
  have B1 := b1 w.heap.size
  have z1' : w.heap.size ≤ w1.heap.size := by omega
  have hp1 : p < w1.heap.size := by omega
  clear b1 z1
  cases v
  · go_wp2_with fail
    refine (next_big p k c A (at_ + 1) 2000000000 w1 (by omega) (by omega) (by omega) l hkm s1).mono ?_
    rintro e w2 ⟨⟨v2, hu0, hu1, rfl⟩, s2, b2, z2⟩
    have B2 := B1.trans (b2 w.heap.size)
    clear b2 z2
    go_wp2
    go_ret
    exact ⟨⟨_, rfl⟩, s2, B2⟩
  · go_wp2_with fail
    refine (pick_any p k c A (at_ + 1) w1.heap.size 3 3 secList _ (by omega) (by omega) (by omega) l hkm (s1.but (ab (Below.refl _ _) _) (Nat.le_refl _)) rfl (by omega) (ints_cells w1 secList _ _ rfl)).mono ?_
    rintro e w3 ⟨⟨x, _, rfl⟩, s3, b3, z3⟩
    have B3 := (B1.trans (But.of_below ((Below.refl w.heap.size w1).alloc z1' _))).trans (b3 w.heap.size)
    clear z3 b3
    go_wp2
    go_ret
    exact ⟨⟨x, rfl⟩, s3, B3⟩

def sizList : List Int := [7, 8, 9]
theorem sizList_bd : ∀ v ∈ sizList, 0 ≤ v ∧ v ≤ 9 := by decide
def edgeList : List Int := [0, 1, 2, 2305843009213693949, 2305843009213693950]
theorem edgeList_bd : ∀ v ∈ edgeList, 0 ≤ v ∧ v < 2305843009213693951 := by decide

/-- bytes that may be a public -/
theorem l4DrawPublic_any (p k c : Nat) (A : Option Addr) (at_ : Nat) (l : List Int) (w : World) (hat : at_ ≤ 90000) (hkm : k ≤ 1048576) (h : Src w p A k c l at_) :
    Calls Try.prog 43 #[.pointer (some ⟨p, 0, none⟩)] w fun e w' => (∃ A' c' n r, e = .returned (.slice A' n c') ∧ Row w' w.heap.size (.slice A' n c') r ∧ r.length = n ∧ n ≤ 9) ∧ But p w.heap.size w w' := by
  have hp := h.lt
  go_enter Try.func43, Try.ntmps43
  go_wp2_with fail
  refine (chance_any p k c A at_ 10 w (by omega) (by omega) (by omega) l hkm h).mono ?_
  rintro e w1 ⟨⟨v, rfl⟩, s1, b1, z1⟩
  have B1 := b1 w.heap.size
  have z1' : w.heap.size ≤ w1.heap.size := by omega
  have hp1 : p < w1.heap.size := by omega
  clear b1 z1
  cases v
  · go_wp2_with fail
    refine (chance_any p k c A (at_ + 1) 10 w1 (by omega) (by omega) (by omega) l hkm s1).mono ?_
    rintro e w2 ⟨⟨v, rfl⟩, s2, b2, z2⟩
    have B2 := B1.trans (b2 w.heap.size)
    have z2' : w.heap.size ≤ w2.heap.size := by omega
    have hp2 : p < w2.heap.size := by omega
    clear b2 z2
    cases v
    · go_wp2_with fail
      refine (next_big p k c A (at_ + 1 + 1) 2000000000 w2 (by omega) (by omega) (by omega) l hkm s2).mono ?_
      rintro e w3 ⟨⟨v3, hu0, hu1, rfl⟩, s3, b3, z3⟩
      have B3 := B2.trans (b3 w.heap.size)
      have z3' : w.heap.size ≤ w3.heap.size := by omega
      clear b3 z3
      obtain ⟨m, rfl⟩ := Int.eq_ofNat_of_zero_le hu0
      have cp := l4PublicRow_any (1 + m) (by omega) w3
      have ep : (1 : Int) + (m : Int) = ((1 + m : Nat) : Int) := by omega
      rw [← ep] at cp
      clear ep
      go_wp2_with fail
      refine cp.mono ?_
      rintro e w4 ⟨⟨A4, c4, r4, rfl, row4, hr4⟩, b4⟩
      have B4 := B3.trans (But.of_below (b4.mono z3'))
      have row4' := row4.mono z3'
      have Hr4 := Lib.hid hr4
      clear hr4 row4 b4
      go_wp2
      go_ret
      exact ⟨⟨A4, c4, 8, r4, rfl, row4', Hr4.out, by omega⟩, B4⟩
    · go_wp2_with fail
      refine (pick_any p k c A (at_ + 1 + 1) w2.heap.size 5 5 edgeList _ (by omega) (by omega) (by omega) l hkm (s2.but (ab (Below.refl _ _) _) (Nat.le_refl _)) rfl (by omega) (ints_cells w2 edgeList _ _ rfl)).mono ?_
      rintro e w3 ⟨⟨x, hx, rfl⟩, s3, b3, z3⟩
      have B3 := (B2.trans (But.of_below ((Below.refl w.heap.size w2).alloc z2' _))).trans (b3 w.heap.size)
      have z3' : w.heap.size ≤ w3.heap.size := by rw [z3]; simp; omega
      obtain ⟨hx0, hx1⟩ := edgeList_bd x hx
      obtain ⟨m, rfl⟩ := Int.eq_ofNat_of_zero_le hx0
      have cb := l4BytesRow_any m (by unfold PR; omega) w3
      have hl := Shut.mk (lowOf_len (m : Int) 8)
      generalize lowOf (m : Int) 8 = L at *
      clear z3 hx b3
      go_wp2_with fail
      refine cb.mono ?_
      rintro e w4 ⟨⟨A4, c4, rfl, row4⟩, b4⟩
      have B4 := B3.trans (But.of_below (b4.mono z3'))
      have row4' := row4.mono z3'
      clear row4 b4
      go_wp2
      go_ret
      exact ⟨⟨A4, c4, 8, L, rfl, row4', hl.out, by omega⟩, B4⟩
  · go_wp2_with fail
    refine (pick_any p k c A (at_ + 1) w1.heap.size 3 3 sizList _ (by omega) (by omega) (by omega) l hkm (s1.but (ab (Below.refl _ _) _) (Nat.le_refl _)) rfl (by omega) (ints_cells w1 sizList _ _ rfl)).mono ?_
    rintro e w3 ⟨⟨x, hx, rfl⟩, s3, b3, z3⟩
    have B3 := (B1.trans (But.of_below ((Below.refl w.heap.size w1).alloc z1' _))).trans (b3 w.heap.size)
    have z3' : w.heap.size ≤ w3.heap.size := by rw [z3]; simp; omega
    obtain ⟨hx0, hx1⟩ := sizList_bd x hx
    obtain ⟨m, rfl⟩ := Int.eq_ofNat_of_zero_le hx0
    clear z3 hx b3
    go_wp2_with fail
    refine (some_any p k c A (at_ + 1 + 1) m _ (by omega) l hkm s3).mono ?_
    rintro e w4 ⟨⟨A4, c4, r4, rfl, row4, hr4⟩, s4, b4⟩
    have B4 := B3.trans (b4.mono z3')
    have row4' := row4.mono z3'
    have Hr4 := Lib.hid hr4
    clear hr4 row4 b4
    go_wp2
    go_ret
    exact ⟨⟨A4, c4, m, r4, rfl, row4', Hr4.out, by omega⟩, B4⟩
end Go.Proofs.Ytgmmoilgmaklgaa
