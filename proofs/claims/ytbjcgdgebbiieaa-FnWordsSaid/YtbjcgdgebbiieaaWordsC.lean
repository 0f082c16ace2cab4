/- What FnWords's law asks besides: its draws; numbers are read back from their bytes. -/
import Derived.Test.YtbjcgdgebbiieaaDrawD
import Derived.Test.YtbjcgdgebbiieaaPackD
import Derived.Test.YtbjcgdgebbiieaaJoinLow
import Derived.Test.YtbjcgdgebbiieaaTurnsC
namespace Go.Proofs.Ytbjcgdgebbiieaa
open Go.RowKit

def numList : List Int := [0, 1, 255, 256, 65535, 4294967295, 72057594037927935, 72057594037927936, -1]
def sizeList : List Int := [1, 2, 4, 7, 0, 8]
theorem numList_bd : ∀ v ∈ numList, v ≤ 72057594037927936 := by decide
theorem sizeList_bd : ∀ v ∈ sizeList, 0 ≤ v ∧ v ≤ 8 := by decide

theorem number_any (p k c : Nat) (A : Option Addr) (at_ : Nat) (l : List Int) (w : World) (hat : at_ ≤ 90000) (hkm : k ≤ 1048576) (h : Src w p A k c l at_) :
    Calls Try.prog 44 #[.pointer (some ⟨p, 0, none⟩)] w fun e w' => (∃ x b : Int, x ≤ 72057594037927936 ∧ e = .returned (.tuple #[.int .i64 x, .int .i64 b])) ∧ But p w.heap.size w w' := by
  have hp := h.lt
  go_enter Try.func44, Try.ntmps44
  go_wp2_with fail
  refine (pick_any p k c A at_ w.heap.size 9 9 numList _ (by omega) (by omega) (by omega) l hkm (h.but (ab (Below.refl _ _) _) (Nat.le_refl _)) rfl (by omega) (ints_cells w numList _ _ rfl)).mono ?_
  rintro e w2 ⟨⟨x, hx, rfl⟩, s2, b2, z2⟩
  have z2' : p < w2.heap.size := by rw [z2]; simp; omega
  have z2'' : w.heap.size ≤ w2.heap.size := by rw [z2]; simp
  have B2 : But p w.heap.size w w2 := (But.of_below (ab (Below.refl _ w) _)).trans (b2 w.heap.size)
  have hxb := numList_bd x hx
  clear z2 hx b2
  go_wp2_with fail
  refine (pick_any p k c A (at_ + 1) w2.heap.size 6 6 sizeList _ (by omega) (by omega) (by omega) l hkm (s2.but (ab (Below.refl _ _) _) (Nat.le_refl _)) rfl (by omega) (ints_cells w2 sizeList _ _ rfl)).mono ?_
  rintro e w3 ⟨⟨y, hy, rfl⟩, s3, b3, z3⟩
  have B3 : But p w.heap.size w w3 := (B2.trans ((But.of_below ((Below.refl _ w2).alloc z2'' _)))).trans (b3 w.heap.size)
  clear z3 hy b3
  go_wp2
  go_ret2
  exact ⟨⟨x, y, hxb, rfl⟩, B3⟩

theorem drawPackLow_any (A : Option Addr) (n c : Nat) (l : List Int) (w : World) (h : Bs w A n l) (hn : n ≤ 1048576) :
    Calls Try.prog 14 #[.slice A n c] w fun e w' => (∃ x b : Int, x ≤ 72057594037927936 ∧ e = .returned (.tuple #[.int .i64 x, .int .i64 b])) ∧ Below w.heap.size w w' := by
  go_enter Try.func14, Try.ntmps14
  go_wp2_with fail
  refine (source_any _ _ _ _ _ h).mono ?_
  rintro e w1 ⟨rfl, s1, b1, z1⟩
  have z1' : w.heap.size ≤ w1.heap.size := by omega
  clear z1
  go_wp2_with fail
  refine (number_any _ _ _ _ _ _ _ (by omega) hn s1).mono ?_
  rintro e w2 ⟨⟨x, b, hx, rfl⟩, b2⟩
  go_wp2
  go_ret2
  exact ⟨⟨x, b, hx, rfl⟩, b1.trans (b2.below z1' (Nat.le_refl _))⟩

theorem drawReadLow_any (A : Option Addr) (n c : Nat) (l : List Int) (w : World) (h : Bs w A n l) (hn : n ≤ 1048576) :
    Calls Try.prog 49 #[.slice A n c] w fun e w' => (∃ A' c' m r, e = .returned (.slice A' m c') ∧ Ow w' w.heap.size A' m r ∧ m ≤ 8) ∧ Below w.heap.size w w' := by
  go_enter Try.func49, Try.ntmps49
  go_wp2_with fail
  refine (source_any _ _ _ _ _ h).mono ?_
  rintro e w1 ⟨rfl, s1, b1, z1⟩
  have z1' : w.heap.size < w1.heap.size := by omega
  clear z1
  go_wp2_with fail
  refine (pick_any w.heap.size n c A 0 w1.heap.size 6 6 sizeList _ (by omega) (by omega) (by omega) l hn (s1.but (ab (Below.refl _ _) _) (Nat.le_refl _)) rfl (by omega) (ints_cells w1 sizeList _ _ rfl)).mono ?_
  rintro e w2 ⟨⟨x, hx, rfl⟩, s2, b2, z2⟩
  have z2' : w.heap.size < w2.heap.size := by rw [z2]; simp; omega
  have B2 : Below w.heap.size w w2 := (ab b1 _).trans ((b2 w.heap.size).below (Nat.le_refl _) (Nat.le_refl _))
  obtain ⟨hx0, hx1⟩ := sizeList_bd x hx
  obtain ⟨m, rfl⟩ := Int.eq_ofNat_of_zero_le hx0
  clear z2 hx b2
  go_wp2_with fail
  refine (some_any w.heap.size n c A (0 + 1) m _ (by omega) l hn s2).mono ?_
  rintro e w3 ⟨⟨A3, c3, r3, rfl, row3, hr3⟩, s3, b3⟩
  have o3 := (row3.ow' hr3).mono (show w.heap.size ≤ w2.heap.size by omega)
  have B3 : Below w.heap.size w w3 := B2.trans (b3.below (by omega) (Nat.le_refl _))
  clear hr3
  go_wp2
  go_ret
  exact ⟨⟨A3, c3, m, r3, rfl, o3, by omega⟩, B3⟩

theorem drawReadHigh_any (A : Option Addr) (n c : Nat) (l : List Int) (w : World) (h : Bs w A n l) (hn : n ≤ 1048576) :
    Calls Try.prog 17 #[.slice A n c] w fun e w' => (∃ A' c' m r, e = .returned (.slice A' m c') ∧ Ow w' w.heap.size A' m r ∧ m ≤ 8) ∧ Below w.heap.size w w' := by
  go_enter Try.func17, Try.ntmps17
  go_wp2_with fail
  refine (drawReadLow_any _ _ _ _ _ h hn).mono ?_
  rintro e w1 ⟨⟨A', c', m, r, rfl, o, hm⟩, b1⟩
  go_wp2
  go_ret
  exact ⟨⟨A', c', m, r, rfl, o, hm⟩, b1⟩

theorem lowOf_cons (n : Int) (k : Nat) : lowOf n (k + 1) = n % 256 :: lowOf (n / 256) k := by
  unfold lowOf
  rw [List.range_succ_eq_map, List.map_cons, List.map_map]
  simp only [Int.pow_zero, Int.ediv_one]
  congr 1
  apply List.map_congr_left
  intro i _
  simp only [Function.comp]
  rw [Int.ediv_ediv_of_nonneg (by omega), Int.pow_succ, Int.mul_comm]

/-- a number is read back from its bytes -/
theorem hi_lowOf (n : Int) (m : Nat) (h0 : 0 ≤ n) (h1 : n < 256 ^ m) : hi (lowOf n m).reverse = n := by
  induction m generalizing n with
  | zero =>
    simp at h1
    have : n = 0 := by omega
    subst this
    rfl
  | succ m ih =>
    rw [lowOf_cons, List.reverse_cons, hi_snoc, ih (n / 256) (by omega) (by rw [Int.pow_succ] at h1; omega)]
    omega

/-- bytes are read back from their number -/
theorem lowOf_hi (l : List Int) (h : By l) : lowOf (hi l) l.length = l.reverse := by
  have key : ∀ r : List Int, By r → lowOf (hi r.reverse) r.length = r := by
    intro r
    induction r with
    | nil => intro _; rfl
    | cons x r ih =>
      intro hb
      have hx := hb x (by simp)
      have hr : By r := fun y hy => hb y (by simp [hy])
      rw [List.reverse_cons, hi_snoc, List.length_cons, lowOf_cons, show (hi r.reverse * 256 + x) % 256 = x by omega, show (hi r.reverse * 256 + x) / 256 = hi r.reverse by omega, ih hr]
  have := key l.reverse (fun x hx => h x (by simpa using hx))
  simpa using this

theorem fit_of (n : Int) (size : Int) (h : fitB n size = true) : 1 ≤ size.toNat ∧ size.toNat ≤ 7 ∧ hi (lowOf n size.toNat).reverse = n := by
  simp [fitB] at h
  exact ⟨by omega, by omega, hi_lowOf n _ h.2.2.1 h.2.2.2⟩

theorem fit_hi (l : List Int) (h : By l) (h1 : 1 ≤ l.length) (h7 : l.length ≤ 7) : fitB (hi l) (l.length : Int) = true := by
  have hb := hi_bd l h
  simp [fitB]
  omega
theorem phigh_hi (l : List Int) (h : By l) (h1 : 1 ≤ l.length) (h7 : l.length ≤ 7) : phigh (hi l) (l.length : Int) = l ∧ plen (hi l) (l.length : Int) = l.length := by
  have hf := fit_hi l h h1 h7
  unfold phigh plow plen
  rw [if_pos hf, if_pos hf, Int.toNat_natCast, lowOf_hi l h, List.reverse_reverse]
  exact ⟨rfl, rfl⟩
theorem plow_lo (l : List Int) (h : By l) (h1 : 1 ≤ l.length) (h7 : l.length ≤ 7) : plow (lo l) (l.length : Int) = l ∧ plen (lo l) (l.length : Int) = l.length := by
  have hr : By l.reverse := fun x hx => h x (by simpa using hx)
  have e : l.reverse.length = l.length := List.length_reverse
  have hf := fit_hi l.reverse hr (by omega) (by omega)
  rw [e] at hf
  unfold plow plen lo
  rw [if_pos hf, if_pos hf, Int.toNat_natCast]
  have hl := lowOf_hi l.reverse hr
  rw [e] at hl
  rw [hl, List.reverse_reverse]
  exact ⟨rfl, rfl⟩
end Go.Proofs.Ytbjcgdgebbiieaa
