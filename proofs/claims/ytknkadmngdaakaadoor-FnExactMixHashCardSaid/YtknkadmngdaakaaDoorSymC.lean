/- The laws' helpers for a state of a handshake. -/
import Derived.Test.YtknkadmngdaakaaDoorRowsC
namespace Go.Proofs.YtknkadmngdaakaaDoor
open Go.RowKit

theorem szByteS_any (A : Option Addr) (n c : Nat) (x : Int) (w : World) (h0 : 0 ≤ x) (h1 : x ≤ 1048576) (hn : n ≤ 9223372036854775807) :
    Calls Tryd.prog 29 #[.slice A n c, .int .i64 x] w fun e w' => e = .returned (.int .i64 (if x - (n : Int) < 0 then -1 else x - (n : Int))) ∧ w' = w := by
  by_cases hx : x - (n : Int) < 0
  · rw [if_pos hx]
    go_enter Tryd.func29, Tryd.ntmps29
    go_wp2
    go_ret
    exact ⟨rfl, rfl⟩
  · rw [if_neg hx]
    go_enter Tryd.func29, Tryd.ntmps29
    go_wp2
    go_ret
    exact ⟨rfl, rfl⟩

theorem toSym_any (a0 a1 a2 : Option Addr) (n0 c0 n1 c1 n2 c2 : Nat) (l0 l1 l2 : List Int) (k : Int) (w : World) (h0 : Bs w a0 n0 l0) (h1 : Bs w a1 n1 l1) (h2 : Bs w a2 n2 l2) (hn0 : n0 ≤ 140737488351232) (hn1 : n1 ≤ 140737488351232) (hn2 : n2 ≤ 140737488351232) :
    Calls Tryd.prog 9 #[.agg #[.slice a0 n0 c0, .slice a1 n1 c1, .slice a2 n2 c2, .int .i64 k]] w fun e w' => (∃ g0 g1 g2, e = .returned (.agg #[.slice (some ⟨g0, 0, none⟩) n0 n0, .slice (some ⟨g1, 0, none⟩) n1 n1, .slice (some ⟨g2, 0, none⟩) n2 n2, .int .i64 k]) ∧
      Rs w' w.heap.size [(some ⟨g0, 0, none⟩, n0, l0), (some ⟨g1, 0, none⟩, n1, l1), (some ⟨g2, 0, none⟩, n2, l2)]) ∧ Below w.heap.size w w' := by
  have S0 := (((Stc.new w 24 [.slice a0 n0 c0, .slice a1 n1 c1, .slice a2 n2 c2, .int .i64 k] _ rfl).alloc (.cells #[.slice none 0 0, .slice none 0 0, .slice none 0 0, .int .i64 0] 26)).alloc (.cells #[.slice none 0 0, .slice none 0 0, .slice none 0 0, .int .i64 0] 26))
  have S1 := ((Stc.new (w.alloc (.cells #[.slice a0 n0 c0, .slice a1 n1 c1, .slice a2 n2 c2, .int .i64 k] 24)) 26 [.slice none 0 0, .slice none 0 0, .slice none 0 0, .int .i64 0] _ rfl).alloc (.cells #[.slice none 0 0, .slice none 0 0, .slice none 0 0, .int .i64 0] 26))
  have S2 := (Stc.new ((w.alloc (.cells #[.slice a0 n0 c0, .slice a1 n1 c1, .slice a2 n2 c2, .int .i64 k] 24)).alloc (.cells #[.slice none 0 0, .slice none 0 0, .slice none 0 0, .int .i64 0] 26)) 26 [.slice none 0 0, .slice none 0 0, .slice none 0 0, .int .i64 0] _ rfl)
  have B0 := ab (ab (ab (Below.refl _ w) (.cells #[.slice a0 n0 c0, .slice a1 n1 c1, .slice a2 n2 c2, .int .i64 k] 24)) (.cells #[.slice none 0 0, .slice none 0 0, .slice none 0 0, .int .i64 0] 26)) (.cells #[.slice none 0 0, .slice none 0 0, .slice none 0 0, .int .i64 0] 26)
  simp only [World.size_alloc] at S1 S2
  go_enter Tryd.func9, Tryd.ntmps9
  go_wp2_with fail
  refine (toByteS_any _ _ _ _ _ (h0.below B0) hn0).mono ?_
  rintro e w1 ⟨rfl, k1, b1⟩
  have z1 := b1.size
  simp only [World.size_alloc] at k1 z1 ⊢
  have u1 := k1.lt
  have B1 := ac B0 b1
  replace S0 := S0.below b1 (by simp; omega)
  replace S1 := S1.below b1 (by simp)
  replace S2 := S2.below b1 (by simp)
  clear b1 B0
  have x1 := S0.cell (i := 1) rfl
  have x2 := S2.cell (i := 0) rfl
  have x3 := S2.frozen 0
  go_wp2_with fail
  replace B1 := B1.setCell (p := ⟨w.heap.size + 1 + 1, 0, none⟩) (by simp; omega) (.slice (some ⟨w.heap.size + 1 + 1 + 1, 0, none⟩) n0 n0)
  refine (toByteS_any _ _ _ _ _ (h1.below B1) hn1).mono ?_
  rintro e w2 ⟨rfl, k2, b2⟩
  have z2 := b2.size
  simp only [World.size_setCell] at k2 z2 ⊢
  have u2 := k2.lt
  have B2 := ac B1 b2
  replace k1 := (k1.far (p := ⟨w.heap.size + 1 + 1, 0, none⟩) (by simp; try omega) (.slice (some ⟨w.heap.size + 1 + 1 + 1, 0, none⟩) n0 n0)).below b2 (by simp; omega)
  replace S0 := (S0.far (p := ⟨w.heap.size + 1 + 1, 0, none⟩) (by simp; try omega) (.slice (some ⟨w.heap.size + 1 + 1 + 1, 0, none⟩) n0 n0)).below b2 (by simp; omega)
  replace S1 := (S1.far (p := ⟨w.heap.size + 1 + 1, 0, none⟩) (by simp; try omega) (.slice (some ⟨w.heap.size + 1 + 1 + 1, 0, none⟩) n0 n0)).below b2 (by simp; omega)
  replace S2 := (S2.set_ (i := 0) (.slice (some ⟨w.heap.size + 1 + 1 + 1, 0, none⟩) n0 n0)).below b2 (by simp; omega)
  simp only [List.set_cons_zero] at S2
  clear b2 B1 x1 x2 x3
  have x1 := S0.cell (i := 2) rfl
  have x2 := S2.cell (i := 1) rfl
  have x3 := S2.frozen 1
  go_wp2_with fail
  replace B2 := B2.setCell (p := ⟨w.heap.size + 1 + 1, 1, none⟩) (by simp; omega) (.slice (some ⟨w1.heap.size, 0, none⟩) n1 n1)
  refine (toByteS_any _ _ _ _ _ (h2.below B2) hn2).mono ?_
  rintro e w3 ⟨rfl, k3, b3⟩
  have z3 := b3.size
  simp only [World.size_setCell] at k3 z3 ⊢
  have u3 := k3.lt
  have B3 := ac B2 b3
  replace k1 := (k1.far (p := ⟨w.heap.size + 1 + 1, 1, none⟩) (by simp; try omega) (.slice (some ⟨w1.heap.size, 0, none⟩) n1 n1)).below b3 (by simp; omega)
  replace k2 := (k2.far (p := ⟨w.heap.size + 1 + 1, 1, none⟩) (by simp; try omega) (.slice (some ⟨w1.heap.size, 0, none⟩) n1 n1)).below b3 (by simp; omega)
  replace S0 := (S0.far (p := ⟨w.heap.size + 1 + 1, 1, none⟩) (by simp; try omega) (.slice (some ⟨w1.heap.size, 0, none⟩) n1 n1)).below b3 (by simp; omega)
  replace S1 := (S1.far (p := ⟨w.heap.size + 1 + 1, 1, none⟩) (by simp; try omega) (.slice (some ⟨w1.heap.size, 0, none⟩) n1 n1)).below b3 (by simp; omega)
  replace S2 := (S2.set_ (i := 1) (.slice (some ⟨w1.heap.size, 0, none⟩) n1 n1)).below b3 (by simp; omega)
  simp only [List.set_cons_zero, List.set_cons_succ] at S2
  clear b3 B2 x1 x2 x3
  have x1 := S0.cell (i := 3) rfl
  have x4 := S1.cell (i := 0) rfl
  have x5 := S1.cell (i := 1) rfl
  have x6 := S1.cell (i := 2) rfl
  have x7 := S1.cell (i := 3) rfl
  have x9 := S2.cell (i := 0) rfl
  have y1 := S2.cell (i := 1) rfl
  have x2 := S2.cell (i := 2) rfl
  have y2 := S2.cell (i := 3) rfl
  have y3 := S2.frozen
  have y4 := S1.frozen
  go_wp2
  refine bodyPost_ret (v := .agg #[.slice (some ⟨w.heap.size + 1 + 1 + 1, 0, none⟩) n0 n0, .slice (some ⟨w1.heap.size, 0, none⟩) n1 n1, .slice (some ⟨w2.heap.size, 0, none⟩) n2 n2, .int .i64 k]) (by simp [results, Tryd.results9, go_sem, x4, x5, x6, x7]) rfl ?_
  have q1 : Ow w3 (w.heap.size + 1 + 1 + 1) (some ⟨w.heap.size + 1 + 1 + 1, 0, none⟩) n0 l0 := k1.own h0.byte h0.len
  have q2 : Ow w3 (w.heap.size + 1 + 1 + 1) (some ⟨w1.heap.size, 0, none⟩) n1 l1 := (k2.own h1.byte h1.len).mono (by omega)
  have q3 : Ow w3 (w.heap.size + 1 + 1 + 1) (some ⟨w2.heap.size, 0, none⟩) n2 l2 := (k3.own h2.byte h2.len).mono (by omega)
  have R : Rs w3 (w.heap.size + 1 + 1 + 1) [(some ⟨w.heap.size + 1 + 1 + 1, 0, none⟩, n0, l0), (some ⟨w1.heap.size, 0, none⟩, n1, l1), (some ⟨w2.heap.size, 0, none⟩, n2, l2)] := by
    refine Rs.cons q1 ?_ (Rs.cons q2 ?_ (Rs.cons q3 ?_ (Rs.nil _ _)))
    · intro y hy
      simp only [List.mem_cons, List.not_mem_nil, or_false] at hy
      rcases hy with rfl | rfl
      · intro _ _ a b ea eb; injection ea with ea; injection eb with eb; subst ea; subst eb; simp; omega
      · intro _ _ a b ea eb; injection ea with ea; injection eb with eb; subst ea; subst eb; simp; omega
    · intro y hy
      simp only [List.mem_cons, List.not_mem_nil, or_false] at hy
      subst hy
      intro _ _ a b ea eb; injection ea with ea; injection eb with eb; subst ea; subst eb; simp; omega
    · intro y hy; cases hy
  refine ⟨⟨_, _, _, rfl, ((((((R.far ?_ _).far ?_ _).far ?_ _).far ?_ _).far ?_ _).far ?_ _).mono (by omega)⟩, ?_⟩
  · simp
  · simp
  · simp
  · simp
  · simp
  · simp
  · exact (((((B3.setCell (by simp; omega) _).setCell (by simp; omega) _).setCell (by simp) _).setCell (by simp) _).setCell (by simp) _).setCell (by simp) _

/-- what is left of a bound behind three runs -/
def leftS (n0 n1 n2 : Nat) : Int := if 1048576 - (n0 : Int) < 0 then -1 else if 1048576 - (n0 : Int) - n1 < 0 then -1 else if 1048576 - (n0 : Int) - n1 - n2 < 0 then -1 else 1048576 - (n0 : Int) - n1 - n2

/-- what is left when three runs fit -/
theorem leftS_fit {n m q : Nat} (h : n + m + q ≤ 1048576) : leftS n m q = 1048576 - (n : Int) - m - q := by unfold leftS; rw [if_neg (by omega), if_neg (by omega), if_neg (by omega)]
theorem leftS_not {n m q : Nat} (h : ¬ n + m + q ≤ 1048576) : leftS n m q = -1 := by unfold leftS; repeat' split <;> first | rfl | omega

theorem szSym_any (a0 a1 a2 : Option Addr) (n0 c0 n1 c1 n2 c2 : Nat) (k : Int) (w : World) (hn0 : n0 ≤ 9223372036854775807) (hn1 : n1 ≤ 9223372036854775807) (hn2 : n2 ≤ 9223372036854775807) :
    Calls Tryd.prog 7 #[.agg #[.slice a0 n0 c0, .slice a1 n1 c1, .slice a2 n2 c2, .int .i64 k], .int .i64 1048576] w fun e w' => e = .returned (.int .i64 (leftS n0 n1 n2)) ∧ Below w.heap.size w w' := by
  unfold leftS
  have e1 := fun w => szByteS_any a0 n0 c0 1048576 w (by omega) (by omega) hn0
  by_cases h1 : 1048576 - (n0 : Int) < 0
  · simp only [if_pos h1] at e1 ⊢
    clear h1
    go_enter Tryd.func7, Tryd.ntmps7
    go_wp2_with fail
    refine (e1 _).mono ?_
    rintro e w' ⟨rfl, rfl⟩
    go_wp2
    go_ret
    exact ⟨rfl, ab (Below.refl _ _) _⟩
  · simp only [if_neg h1] at e1 ⊢
    obtain ⟨x, hx⟩ : ∃ x, x = 1048576 - (n0 : Int) := ⟨_, rfl⟩
    rw [← hx] at e1 h1 ⊢
    have e2 := fun w => szByteS_any a1 n1 c1 x w (by omega) (by omega) hn1
    by_cases h2 : x - (n1 : Int) < 0
    · simp only [if_pos h2] at e2 ⊢
      clear h2 hx
      go_enter Tryd.func7, Tryd.ntmps7
      go_wp2_with fail
      refine (e1 _).mono ?_
      rintro e w' ⟨rfl, rfl⟩
      go_wp2_with fail
      refine (e2 _).mono ?_
      rintro e w' ⟨rfl, rfl⟩
      go_wp2
      go_ret
      exact ⟨rfl, ab (Below.refl _ _) _⟩
    · simp only [if_neg h2] at e2 ⊢
      obtain ⟨y, hy⟩ : ∃ y, y = x - (n1 : Int) := ⟨_, rfl⟩
      rw [← hy] at e2 h2 ⊢
      have e3 := fun w => szByteS_any a2 n2 c2 y w (by omega) (by omega) hn2
      by_cases h3 : y - (n2 : Int) < 0
      · simp only [if_pos h3] at e3 ⊢
        clear h3 hx hy
        go_enter Tryd.func7, Tryd.ntmps7
        go_wp2_with fail
        refine (e1 _).mono ?_
        rintro e w' ⟨rfl, rfl⟩
        go_wp2_with fail
        refine (e2 _).mono ?_
        rintro e w' ⟨rfl, rfl⟩
        go_wp2_with fail
        refine (e3 _).mono ?_
        rintro e w' ⟨rfl, rfl⟩
        go_wp2
        go_ret
        exact ⟨rfl, ab (Below.refl _ _) _⟩
      · simp only [if_neg h3] at e3 ⊢
        obtain ⟨z, hz⟩ : ∃ z, z = y - (n2 : Int) := ⟨_, rfl⟩
        rw [← hz] at e3 h3 ⊢
        clear hx hy hz
        go_enter Tryd.func7, Tryd.ntmps7
        go_wp2_with fail
        refine (e1 _).mono ?_
        rintro e w' ⟨rfl, rfl⟩
        go_wp2_with fail
        refine (e2 _).mono ?_
        rintro e w' ⟨rfl, rfl⟩
        go_wp2_with fail
        refine (e3 _).mono ?_
        rintro e w' ⟨rfl, rfl⟩
        go_wp2
        go_ret
        exact ⟨rfl, ab (Below.refl _ _) _⟩

/-- two states that hold the same -/
theorem eqSym_any (A B C A' B' C' : Option Addr) (n m q c d f c' d' f' : Nat) (l r s : List Int) (k : Int) (w : World) (h1 : Bs w A n l) (h2 : Bs w B m r) (h3 : Bs w C q s) (h1' : Bs w A' n l) (h2' : Bs w B' m r) (h3' : Bs w C' q s) (hn : n ≤ 140737488351232) (hm : m ≤ 140737488351232) (hq : q ≤ 140737488351232) :
    Calls Tryd.prog 13 #[.agg #[.slice A n c, .slice B m d, .slice C q f, .int .i64 k], .agg #[.slice A' n c', .slice B' m d', .slice C' q f', .int .i64 k]] w fun e w' => e = .returned (.bool true) ∧ Below w.heap.size w w' := by
  have e1 := fun W a b => eqByteS_any A A' n c n c' l l W a b hn hn
  have e2 := fun W a b => eqByteS_any B B' m d m d' r r W a b hm hm
  have e3 := fun W a b => eqByteS_any C C' q f q f' s s W a b hq hq
  simp only [decide_true] at e1 e2 e3
  go_enter Tryd.func13, Tryd.ntmps13
  go_wp2_with fail
  refine (e1 _ ((h1.alloc _).alloc _) ((h1'.alloc _).alloc _)).mono ?_
  rintro e w' ⟨rfl, q1, rfl⟩
  go_wp2_with fail
  refine (e2 _ (((h2.alloc _).alloc _).drewN q1) (((h2'.alloc _).alloc _).drewN q1)).mono ?_
  rintro e w' ⟨rfl, q2, rfl⟩
  go_wp2_with fail
  refine (e3 _ (((h3.alloc _).alloc _).drewN _) (((h3'.alloc _).alloc _).drewN _)).mono ?_
  rintro e w' ⟨rfl, q3, rfl⟩
  go_wp2
  go_returns
  exact ⟨rfl, ad (ab (ab (Below.refl _ _) _) _) _⟩

theorem markSym_any (A B C : Option Addr) (n m q c d f X : Nat) (l r s : List Int) (z k : Int) (w : World) (h : Rs w X [(A, n, l), (B, m, r), (C, q, s)]) (hk0 : 0 ≤ k) (hk : k ≤ 14073748835123) (hn : n ≤ 14073748835123) (hm : m ≤ 14073748835123) (hq : q ≤ 14073748835123) :
    Calls Tryd.prog 15 #[.agg #[.slice A n c, .slice B m d, .slice C q f, .int .i64 z], .int .i64 k] w fun e w' => e = .returned (.int .i64 (k + (n : Int) + (m : Int) + (q : Int))) ∧
      Rs w' X [(A, n, marks k n), (B, m, marks (k + (n : Int)) m), (C, q, marks (k + (n : Int) + (m : Int)) q)] ∧ Touch [(A, n, l), (B, m, r), (C, q, s)] w w' := by
  have hA := h.tops
  have t0 : Touch [(A, n, l), (B, m, r), (C, q, s)] w (w.alloc (.cells #[.slice A n c, .slice B m d, .slice C q f, .int .i64 z] 26)) := Touch.ofBelow (ab (Below.refl _ w) _)
  have S0 := Stc.new w 26 [.slice A n c, .slice B m d, .slice C q f, .int .i64 z] _ rfl
  obtain ⟨o1, s1, o2, s2, o3, _⟩ := h
  have s12 := s1 (B, m, r) (by simp)
  have s13 := s1 (C, q, s) (by simp)
  have s23 := s2 (C, q, s) (by simp)
  clear s1 s2
  have hA : ∀ x ∈ [(A, n, l), (B, m, r), (C, q, s)], 0 < x.2.1 → ∀ a, x.1 = some a → a.block ≠ w.heap.size := fun x hx h0 a ha => Nat.ne_of_lt (hA x hx h0 a ha)
  go_enter Tryd.func15, Tryd.ntmps15
  go_wp2_with fail
  refine (markByteS_any _ _ _ _ _ _ _ (o1.alloc _) hk0 (by omega) (by omega)).mono ?_
  rintro e w1 ⟨rfl, m1, on1⟩
  have t1 := t0.trans (Touch.ofOnly (L := [(A, n, l), (B, m, r), (C, q, s)]) (l := l) on1 (by simp))
  replace S0 := S0.touch (Touch.ofOnly (L := [(A, n, l), (B, m, r), (C, q, s)]) (l := l) on1 (by simp)) hA
  replace o2 := (o2.alloc _).only' on1 s12
  replace o3 := (o3.alloc _).only' on1 s13
  have x1 := S0.cell (i := 1) rfl
  go_wp2_with fail
  refine (markByteS_any _ _ _ _ _ _ _ o2 (by omega) (by omega) (by omega)).mono ?_
  rintro e w2 ⟨rfl, m2, on2⟩
  have t2 := t1.trans (Touch.ofOnly (L := [(A, n, l), (B, m, r), (C, q, s)]) (l := r) on2 (by simp))
  replace S0 := S0.touch (Touch.ofOnly (L := [(A, n, l), (B, m, r), (C, q, s)]) (l := r) on2 (by simp)) hA
  replace m1 := m1.only' on2 s12.symm
  replace o3 := o3.only' on2 s23
  clear x1
  have x2 := S0.cell (i := 2) rfl
  go_wp2_with fail
  refine (markByteS_any _ _ _ _ _ _ _ o3 (by omega) (by omega) (by omega)).mono ?_
  rintro e w3 ⟨rfl, m3, on3⟩
  have t3 := t2.trans (Touch.ofOnly (L := [(A, n, l), (B, m, r), (C, q, s)]) (l := s) on3 (by simp))
  replace m1 := m1.only' on3 s13.symm
  replace m2 := m2.only' on3 s23.symm
  go_wp2
  go_returns
  refine ⟨rfl, Rs.cons m1 ?_ (Rs.cons m2 ?_ (Rs.cons m3 ?_ (Rs.nil _ _))), t3⟩
  · intro y hy
    simp only [List.mem_cons, List.not_mem_nil, or_false] at hy
    rcases hy with rfl | rfl
    · exact s12
    · exact s13
  · intro y hy
    simp only [List.mem_cons, List.not_mem_nil, or_false] at hy
    subst hy
    exact s23
  · intro y hy; cases hy

theorem heldSym_any (A B C : Option Addr) (n m q c d f : Nat) (z k : Int) (w : World) (h1 : Bs w A n (marks k n)) (h2 : Bs w B m (marks (k + (n : Int)) m)) (h3 : Bs w C q (marks (k + (n : Int) + (m : Int)) q)) (hk0 : 0 ≤ k) (hk : k ≤ 14073748835123) (hn : n ≤ 14073748835123) (hm : m ≤ 14073748835123) (hq : q ≤ 14073748835123) :
    Calls Tryd.prog 36 #[.agg #[.slice A n c, .slice B m d, .slice C q f, .int .i64 z], .int .i64 k] w fun e w' => e = .returned (.int .i64 (k + (n : Int) + (m : Int) + (q : Int))) ∧ Below w.heap.size w w' := by
  go_enter Tryd.func36, Tryd.ntmps36
  go_wp2_with fail
  refine (heldByteS_any _ _ _ _ _ (h1.alloc _) hk0 (by omega) (by omega)).mono ?_
  rintro e w' ⟨rfl, rfl⟩
  go_wp2_with fail
  refine (heldByteS_any _ _ _ _ _ (h2.alloc _) (by omega) (by omega) (by omega)).mono ?_
  rintro e w' ⟨rfl, rfl⟩
  go_wp2_with fail
  refine (heldByteS_any _ _ _ _ _ (h3.alloc _) (by omega) (by omega) (by omega)).mono ?_
  rintro e w' ⟨rfl, rfl⟩
  go_wp2
  go_returns
  exact ⟨rfl, ab (Below.refl _ _) _⟩
end Go.Proofs.YtknkadmngdaakaaDoor
