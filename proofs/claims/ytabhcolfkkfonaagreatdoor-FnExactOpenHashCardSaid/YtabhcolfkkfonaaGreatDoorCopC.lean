/- A state copied, by the model and by the program. -/
import Derived.Test.YtabhcolfkkfonaaGreatDoorSymB
import Derived.Test.YtabhcolfkkfonaaGreatDoorJoinP
import Derived.Test.YtabhcolfkkfonaaGreatDoorHasX
import Derived.Deep.RegionHeld3
import Derived.Lib.SliceRun
namespace Go.Proofs.YtabhcolfkkfonaaGreatDoor
open Go.RowKit

theorem l1Copy_own (A : Option Addr) (n c : Nat) (l : List Int) (w : World) (h : Bs w A n l) (hd : A = none → c = 0) (hn : n ≤ 100000000) :
    Calls Tryz.prog 140 #[.slice A n c] w fun e w' => (∃ A' c', e = .returned (.slice A' n c') ∧ Ow w' w.heap.size A' n l ∧ Roomy A' n c') ∧ Below w.heap.size w w' := by
  have hl := h.len
  refine (copyb_any A n c l w h hd (by omega)).mono ?_
  rintro e w' ⟨⟨A', c', rfl, r⟩, b⟩
  exact ⟨⟨A', c', rfl, r.ow' hl, r.cap_, r.cap0⟩, b⟩

set_option maxRecDepth 100000 in
set_option maxHeartbeats 1000000 in
theorem clone_own (A : Option Addr) (n c : Nat) (l : List Int) (w : World) (h : Bs w A n l) (hd : A = none → c = 0) (hn : n ≤ 100000000) :
    Calls Tryz.prog 135 #[.slice A n c] w fun e w' => (∃ A' c', e = .returned (.slice A' n c') ∧ Ow w' w.heap.size A' n l ∧ Roomy A' n c') ∧ Below w.heap.size w w' := by
  have q22 : ∀ (w : World) (a : Option Addr) (n c n' c' : Nat), (binOp .eql 22 (.slice a n c) (.slice none n' c')).run Tryz.prog w = .ok (.bool a.isNone) w := fun w a n c n' c' => Lib.run_eql_slice_nil w _ _ a n c n' c' Tryz.underlying22
  have Hl := Shut.mk h.len
  cases A with
  | none =>
    have h0 : n = 0 := by
      rcases Nat.eq_zero_or_pos n with h0 | h0
      · exact h0
      · obtain ⟨b, off, e, _⟩ := h.at_ h0; cases e
    subst h0
    have hl : l = [] := List.eq_nil_of_length_eq_zero Hl.out
    subst hl
    go_enter Tryz.func135, Tryz.ntmps135
    go_wp2
    go_ret
    exact ⟨⟨none, 0, rfl, Ow.nil_ _ _, Nat.le_refl _, fun _ => rfl⟩, Below.refl _ _⟩
  | some a =>
    have e0 : Row (w.alloc (.cells #[] 5)) w.heap.size (.slice (some ⟨w.heap.size, 0, none⟩) 0 0) [] := Row.empty w #[] (Nat.le_refl _) rfl
    have h1 := h.below (ab (Below.refl _ w) (.cells #[] 5))
    clear hd
    go_enter Tryz.func135, Tryz.ntmps135
    go_wp2_with (at_builtin; refine wpList_row_join rfl _ _ rfl _ w.heap.size (.slice (some ⟨w.heap.size, 0, none⟩) 0 0) _ _ rfl e0 (by simp) (some a) n c rfl h1 (fun e => by cases e) (by simp; omega) ?_; intro v4 w4 hr4 hb4 hs4)
    obtain ⟨A5, c5, rfl, ho⟩ := hr4.ow Hl.out
    go_ret
    exact ⟨⟨A5, c5, rfl, ho, Row.cap_ hr4, Row.cap0 hr4⟩, (ab (Below.refl _ w) _).trans hb4⟩

theorem sunder_of {w1 w2 : World} {B1 B2 n m : Nat} {A C : Option Addr} {l r : List Int} (h1 : Ow w1 B1 A n l) (h2 : Ow w2 B2 C m r) (h : w1.heap.size ≤ B2 ∨ w2.heap.size ≤ B1) : Sunder n m A C := fun hn hm a b ea eb e => by
  have t1 := h1.top hn a ea
  have t2 := h2.top hm b eb
  have b1 := h1.base hn a ea
  have b2 := h2.base hm b eb
  omega

theorem cell_far4 (w : World) (b r i : Nat) (h : ¬ b = r) (v0 v1 v2 v3 : Value) : ((((w.setCell ⟨r, 0, none⟩ v0).setCell ⟨r, 1, none⟩ v1).setCell ⟨r, 2, none⟩ v2).setCell ⟨r, 3, none⟩ v3).cell? ⟨b, i, none⟩ = w.cell? ⟨b, i, none⟩ := by
  rw [World.cell?_setCell_other (h := by intro e; injection e with e1; exact h e1.symm), World.cell?_setCell_other (h := by intro e; injection e with e1; exact h e1.symm), World.cell?_setCell_other (h := by intro e; injection e with e1; exact h e1.symm), World.cell?_setCell_other (h := by intro e; injection e with e1; exact h e1.symm)]
/-- what three calls in a row leave -/
theorem copyEnd {B : Nat} {W wi wj wk : World} {A1 A2 A3 : Option Addr} {n1 n2 n3 : Nat} {l1 l2 l3 : List Int} (hB : B ≤ W.heap.size) (o1 : Ow wi W.heap.size A1 n1 l1) (b1 : Below W.heap.size W wi) (o2 : Ow wj wi.heap.size A2 n2 l2) (b2 : Below wi.heap.size wi wj) (o3 : Ow wk wj.heap.size A3 n3 l3) (b3 : Below wj.heap.size wj wk) :
    Ow wk B A1 n1 l1 ∧ Ow wk B A2 n2 l2 ∧ Ow wk B A3 n3 l3 ∧ Sunder n1 n2 A1 A2 ∧ Sunder n1 n3 A1 A3 ∧ Sunder n2 n3 A2 A3 := by
  have s1 := b1.size
  have s2 := b2.size
  have s3 := b3.size
  exact ⟨((o1.below b2 (Nat.le_refl _)).below b3 (Nat.le_refl _)).mono hB, (o2.below b3 (Nat.le_refl _)).mono (by omega), o3.mono (by omega), sunder_of o1 o2 (.inl (Nat.le_refl _)), sunder_of o1 o3 (.inl (by omega)), sunder_of o2 o3 (.inl (Nat.le_refl _))⟩
theorem rows3 {w : World} {B n m q : Nat} {A1 A2 A3 : Option Addr} {l r s : List Int} (q1 : Ow w B A1 n l) (q2 : Ow w B A2 m r) (q3 : Ow w B A3 q s) (s12 : Sunder n m A1 A2) (s13 : Sunder n q A1 A3) (s23 : Sunder m q A2 A3) : Rs w B [(A1, n, l), (A2, m, r), (A3, q, s)] := by
  refine Rs.cons q1 ?_ (Rs.cons q2 ?_ (Rs.cons q3 ?_ (Rs.nil _ _)))
  · intro y hy
    simp only [List.mem_cons, List.not_mem_nil, or_false] at hy
    rcases hy with rfl | rfl
    · exact s12
    · exact s13
  · intro y hy
    simp only [List.mem_cons, List.not_mem_nil, or_false] at hy
    subst hy
    exact s23
  · intro y hy; cases hy
/-- a state's answer: three runs of one's own and a count -/
def StateOut (n m q : Nat) (l r s : List Int) (k : Int) (w : World) (e : Ending) (w' : World) : Prop :=
  (∃ A c B d C f, e = .returned (.agg #[.slice A n c, .slice B m d, .slice C q f, .int .i64 k]) ∧ Rs w' w.heap.size [(A, n, l), (B, m, r), (C, q, s)] ∧ Roomy A n c ∧ Roomy B m d ∧ Roomy C q f) ∧ Below w.heap.size w w'

set_option maxRecDepth 100000 in
set_option maxHeartbeats 40000000 in
theorem l5Copy_any (b : Nat) (A B C : Option Addr) (n m q c d f : Nat) (l r s : List Int) (k : Int) (t : TypeId) (w : World) (hs : Stc w b [.slice A n c, .slice B m d, .slice C q f, .int .i64 k] t) (h1 : Bs w A n l) (h2 : Bs w B m r) (h3 : Bs w C q s) (e1 : A = none → c = 0) (e2 : B = none → d = 0) (e3 : C = none → f = 0) (hn : n ≤ 100000000) (hm : m ≤ 100000000) (hq : q ≤ 100000000) :
    Calls Tryz.prog 81 #[.pointer (some ⟨b, 0, none⟩)] w (StateOut n m q l r s k w) := by
  have hb : b < w.heap.size := hs.lt
  have S0 := hs.alloc (.cells #[.slice none 0 0, .slice none 0 0, .slice none 0 0, .int .i64 0] 25)
  have S1 := Stc.new w 25 [.slice none 0 0, .slice none 0 0, .slice none 0 0, .int .i64 0] _ rfl
  have B0 := ab (Below.refl _ w) (.cells #[.slice none 0 0, .slice none 0 0, .slice none 0 0, .int .i64 0] 25)
  have hW : w.heap.size < (w.alloc (.cells #[.slice none 0 0, .slice none 0 0, .slice none 0 0, .int .i64 0] 25)).heap.size := by simp
  clear hs
  go_enter Tryz.func81, Tryz.ntmps81
  go_wp2_with fail
  generalize hW1 : w.alloc (.cells #[.slice none 0 0, .slice none 0 0, .slice none 0 0, .int .i64 0] 25) = W1 at *
  clear hW1
  have hbW : b < W1.heap.size := by omega

  have G1 : Shut (∀ W : World, (W.cell? ⟨b, 0, none⟩ = some (.slice A n c) ∧ W.cell? ⟨b, 1, none⟩ = some (.slice B m d) ∧ W.cell? ⟨b, 2, none⟩ = some (.slice C q f) ∧ W.cell? ⟨b, 3, none⟩ = some (.int .i64 k) ∧ Below w.heap.size W1 W) → W.cell? ⟨w.heap.size, 0, none⟩ = some (.slice none 0 0) → W.cell? ⟨w.heap.size, 1, none⟩ = some (.slice none 0 0) → W.cell? ⟨w.heap.size, 2, none⟩ = some (.slice none 0 0) → W.cell? ⟨w.heap.size, 3, none⟩ = some (.int .i64 0) → (∀ i, W.frozen? ⟨w.heap.size, i, none⟩ = false) → Calls Tryz.prog 140 #[.slice A n c] W fun e w' => (∃ A' c', e = .returned (.slice A' n c') ∧ Ow w' W.heap.size A' n l ∧ Roomy A' n c') ∧ Below W.heap.size W w' ∧ w'.cell? ⟨b, 0, none⟩ = some (.slice A n c) ∧ w'.cell? ⟨b, 1, none⟩ = some (.slice B m d) ∧ w'.cell? ⟨b, 2, none⟩ = some (.slice C q f) ∧ w'.cell? ⟨b, 3, none⟩ = some (.int .i64 k) ∧ Below w.heap.size W1 w' ∧ w'.cell? ⟨w.heap.size, 0, none⟩ = some (.slice none 0 0) ∧ w'.cell? ⟨w.heap.size, 1, none⟩ = some (.slice none 0 0) ∧ w'.cell? ⟨w.heap.size, 2, none⟩ = some (.slice none 0 0) ∧ w'.cell? ⟨w.heap.size, 3, none⟩ = some (.int .i64 0) ∧ (∀ i, w'.frozen? ⟨w.heap.size, i, none⟩ = false)) := by
    refine ⟨fun W ⟨z0, z1, z2, z3, z4⟩ z5 z6 z7 z8 z9 => (l1Copy_own _ _ _ _ W (h1.below (B0.trans z4)) e1 hn).mono ?_⟩
    rintro e w' ⟨h, hb'⟩
    have hc := fun (i : Nat) => hb'.cell (p := ⟨b, i, none⟩) (Nat.lt_of_lt_of_le hbW z4.size)
    have hd := fun (i : Nat) => hb'.cell (p := ⟨w.heap.size, i, none⟩) (Nat.lt_of_lt_of_le hW z4.size)
    have hf := fun (i : Nat) => hb'.frozen (p := ⟨w.heap.size, i, none⟩) (Nat.lt_of_lt_of_le hW z4.size)
    exact ⟨h, hb', (hc 0).trans z0, (hc 1).trans z1, (hc 2).trans z2, (hc 3).trans z3, z4.trans (hb'.mono (Nat.le_trans (Nat.le_of_lt hW) z4.size)), (hd 0).trans z5, (hd 1).trans z6, (hd 2).trans z7, (hd 3).trans z8, fun i => (hf i).trans (z9 i)⟩
  have G2 : Shut (∀ W : World, (W.cell? ⟨b, 0, none⟩ = some (.slice A n c) ∧ W.cell? ⟨b, 1, none⟩ = some (.slice B m d) ∧ W.cell? ⟨b, 2, none⟩ = some (.slice C q f) ∧ W.cell? ⟨b, 3, none⟩ = some (.int .i64 k) ∧ Below w.heap.size W1 W) → W.cell? ⟨w.heap.size, 0, none⟩ = some (.slice none 0 0) → W.cell? ⟨w.heap.size, 1, none⟩ = some (.slice none 0 0) → W.cell? ⟨w.heap.size, 2, none⟩ = some (.slice none 0 0) → W.cell? ⟨w.heap.size, 3, none⟩ = some (.int .i64 0) → (∀ i, W.frozen? ⟨w.heap.size, i, none⟩ = false) → Calls Tryz.prog 140 #[.slice B m d] W fun e w' => (∃ A' c', e = .returned (.slice A' m c') ∧ Ow w' W.heap.size A' m r ∧ Roomy A' m c') ∧ Below W.heap.size W w' ∧ w'.cell? ⟨b, 0, none⟩ = some (.slice A n c) ∧ w'.cell? ⟨b, 1, none⟩ = some (.slice B m d) ∧ w'.cell? ⟨b, 2, none⟩ = some (.slice C q f) ∧ w'.cell? ⟨b, 3, none⟩ = some (.int .i64 k) ∧ Below w.heap.size W1 w' ∧ w'.cell? ⟨w.heap.size, 0, none⟩ = some (.slice none 0 0) ∧ w'.cell? ⟨w.heap.size, 1, none⟩ = some (.slice none 0 0) ∧ w'.cell? ⟨w.heap.size, 2, none⟩ = some (.slice none 0 0) ∧ w'.cell? ⟨w.heap.size, 3, none⟩ = some (.int .i64 0) ∧ (∀ i, w'.frozen? ⟨w.heap.size, i, none⟩ = false)) := by
    refine ⟨fun W ⟨z0, z1, z2, z3, z4⟩ z5 z6 z7 z8 z9 => (l1Copy_own _ _ _ _ W (h2.below (B0.trans z4)) e2 hm).mono ?_⟩
    rintro e w' ⟨h, hb'⟩
    have hc := fun (i : Nat) => hb'.cell (p := ⟨b, i, none⟩) (Nat.lt_of_lt_of_le hbW z4.size)
    have hd := fun (i : Nat) => hb'.cell (p := ⟨w.heap.size, i, none⟩) (Nat.lt_of_lt_of_le hW z4.size)
    have hf := fun (i : Nat) => hb'.frozen (p := ⟨w.heap.size, i, none⟩) (Nat.lt_of_lt_of_le hW z4.size)
    exact ⟨h, hb', (hc 0).trans z0, (hc 1).trans z1, (hc 2).trans z2, (hc 3).trans z3, z4.trans (hb'.mono (Nat.le_trans (Nat.le_of_lt hW) z4.size)), (hd 0).trans z5, (hd 1).trans z6, (hd 2).trans z7, (hd 3).trans z8, fun i => (hf i).trans (z9 i)⟩
  have G3 : Shut (∀ W : World, (W.cell? ⟨b, 0, none⟩ = some (.slice A n c) ∧ W.cell? ⟨b, 1, none⟩ = some (.slice B m d) ∧ W.cell? ⟨b, 2, none⟩ = some (.slice C q f) ∧ W.cell? ⟨b, 3, none⟩ = some (.int .i64 k) ∧ Below w.heap.size W1 W) → W.cell? ⟨w.heap.size, 0, none⟩ = some (.slice none 0 0) → W.cell? ⟨w.heap.size, 1, none⟩ = some (.slice none 0 0) → W.cell? ⟨w.heap.size, 2, none⟩ = some (.slice none 0 0) → W.cell? ⟨w.heap.size, 3, none⟩ = some (.int .i64 0) → (∀ i, W.frozen? ⟨w.heap.size, i, none⟩ = false) → Calls Tryz.prog 140 #[.slice C q f] W fun e w' => (∃ A' c', e = .returned (.slice A' q c') ∧ Ow w' W.heap.size A' q s ∧ Roomy A' q c') ∧ Below W.heap.size W w' ∧ w'.cell? ⟨b, 0, none⟩ = some (.slice A n c) ∧ w'.cell? ⟨b, 1, none⟩ = some (.slice B m d) ∧ w'.cell? ⟨b, 2, none⟩ = some (.slice C q f) ∧ w'.cell? ⟨b, 3, none⟩ = some (.int .i64 k) ∧ Below w.heap.size W1 w' ∧ w'.cell? ⟨w.heap.size, 0, none⟩ = some (.slice none 0 0) ∧ w'.cell? ⟨w.heap.size, 1, none⟩ = some (.slice none 0 0) ∧ w'.cell? ⟨w.heap.size, 2, none⟩ = some (.slice none 0 0) ∧ w'.cell? ⟨w.heap.size, 3, none⟩ = some (.int .i64 0) ∧ (∀ i, w'.frozen? ⟨w.heap.size, i, none⟩ = false)) := by
    refine ⟨fun W ⟨z0, z1, z2, z3, z4⟩ z5 z6 z7 z8 z9 => (l1Copy_own _ _ _ _ W (h3.below (B0.trans z4)) e3 hq).mono ?_⟩
    rintro e w' ⟨h, hb'⟩
    have hc := fun (i : Nat) => hb'.cell (p := ⟨b, i, none⟩) (Nat.lt_of_lt_of_le hbW z4.size)
    have hd := fun (i : Nat) => hb'.cell (p := ⟨w.heap.size, i, none⟩) (Nat.lt_of_lt_of_le hW z4.size)
    have hf := fun (i : Nat) => hb'.frozen (p := ⟨w.heap.size, i, none⟩) (Nat.lt_of_lt_of_le hW z4.size)
    exact ⟨h, hb', (hc 0).trans z0, (hc 1).trans z1, (hc 2).trans z2, (hc 3).trans z3, z4.trans (hb'.mono (Nat.le_trans (Nat.le_of_lt hW) z4.size)), (hd 0).trans z5, (hd 1).trans z6, (hd 2).trans z7, (hd 3).trans z8, fun i => (hf i).trans (z9 i)⟩
  have x0 := S0.cell (i := 0) rfl
  have x1 := S0.cell (i := 1) rfl
  have x2 := S0.cell (i := 2) rfl
  have x3 := S0.cell (i := 3) rfl
  have hWW := Below.refl w.heap.size W1
  have hne : ¬ b = w.heap.size := by omega
  have hne2 : ¬ w.heap.size = b := by omega
  have y0 := S1.cell (i := 0) rfl
  have y1 := S1.cell (i := 1) rfl
  have y2 := S1.cell (i := 2) rfl
  have y3 := S1.cell (i := 3) rfl
  have y4 := S1.frozen
  clear h1 h2 h3 S0 S1
  go_region_held3 (fun W => W.cell? ⟨b, 0, none⟩ = some (.slice A n c) ∧ W.cell? ⟨b, 1, none⟩ = some (.slice B m d) ∧ W.cell? ⟨b, 2, none⟩ = some (.slice C q f) ∧ W.cell? ⟨b, 3, none⟩ = some (.int .i64 k) ∧ Below w.heap.size W1 W)
    (first | (refine ⟨?_, ?_, ?_, ?_, ?_⟩ <;> with_reducible assumption) | (exact ⟨(cell_far4 _ b _ 0 hne _ _ _ _).trans z0, (cell_far4 _ b _ 1 hne _ _ _ _).trans z1, (cell_far4 _ b _ 2 hne _ _ _ _).trans z2, (cell_far4 _ b _ 3 hne _ _ _ _).trans z3, Below.setCell (Below.setCell (Below.setCell (Below.setCell z4 (Nat.le_refl _) _) (Nat.le_refl _) _) (Nat.le_refl _) _) (Nat.le_refl _) _⟩) | (exact ⟨x0, x1, x2, x3, hWW.drew⟩))
    (first
      | (go_at_call 140; refine (G1.out _ ?_ ?_ ?_ ?_ ?_ ?_).mono ?_; (first | (with_reducible assumption) | (refine ⟨?_, ?_, ?_, ?_, ?_⟩ <;> with_reducible assumption)); (first | (with_reducible assumption) | exact y0); (first | (with_reducible assumption) | exact y1); (first | (with_reducible assumption) | exact y2); (first | (with_reducible assumption) | exact y3); (first | (with_reducible assumption) | exact y4); rintro e w1 ⟨⟨A1, c1, rfl, o1, r1⟩, b1, z0, z1, z2, z3, z4, z5, z6, z7, z8, z9⟩)
      | (go_at_call 140; refine (G2.out _ ?_ ?_ ?_ ?_ ?_ ?_).mono ?_; (first | (with_reducible assumption) | (refine ⟨?_, ?_, ?_, ?_, ?_⟩ <;> with_reducible assumption)); (first | (with_reducible assumption) | exact y0); (first | (with_reducible assumption) | exact y1); (first | (with_reducible assumption) | exact y2); (first | (with_reducible assumption) | exact y3); (first | (with_reducible assumption) | exact y4); rintro e w2 ⟨⟨A2, c2, rfl, o2, r2⟩, b2, z0, z1, z2, z3, z4, z5, z6, z7, z8, z9⟩)
      | (go_at_call 140; refine (G3.out _ ?_ ?_ ?_ ?_ ?_ ?_).mono ?_; (first | (with_reducible assumption) | (refine ⟨?_, ?_, ?_, ?_, ?_⟩ <;> with_reducible assumption)); (first | (with_reducible assumption) | exact y0); (first | (with_reducible assumption) | exact y1); (first | (with_reducible assumption) | exact y2); (first | (with_reducible assumption) | exact y3); (first | (with_reducible assumption) | exact y4); rintro e w3 ⟨⟨A3, c3, rfl, o3, r3⟩, b3, z0, z1, z2, z3, z4, z5, z6, z7, z8, z9⟩))
  all_goals
    clear G1 G2 G3
    have hB : w.heap.size + 1 ≤ W1.drew.heap.size := hW
    first
      | (obtain ⟨q1, q2, q3, s12, s13, s23⟩ := copyEnd hB o1 b1 o2 b2 o3 b3)
      | (obtain ⟨q1, q3, q2, s13, s12, s32⟩ := copyEnd hB o1 b1 o3 b3 o2 b2; have s23 := s32.symm)
      | (obtain ⟨q2, q1, q3, s21, s23, s13⟩ := copyEnd hB o2 b2 o1 b1 o3 b3; have s12 := s21.symm)
      | (obtain ⟨q2, q3, q1, s23, s21, s31⟩ := copyEnd hB o2 b2 o3 b3 o1 b1; have s12 := s21.symm; have s13 := s31.symm)
      | (obtain ⟨q3, q1, q2, s31, s32, s12⟩ := copyEnd hB o3 b3 o1 b1 o2 b2; have s13 := s31.symm; have s23 := s32.symm)
      | (obtain ⟨q3, q2, q1, s32, s31, s21⟩ := copyEnd hB o3 b3 o2 b2 o1 b1; have s23 := s32.symm; have s13 := s31.symm; have s12 := s21.symm)
    have RR := rows3 q1 q2 q3 s12 s13 s23
    have ZZ := B0.trans z4
    clear o1 o2 o3 b1 b2 b3 q1 q2 q3 s12 s13 s23
    go_wp2
    refine bodyPost_ret (v := .agg #[.slice A1 n c1, .slice A2 m c2, .slice A3 q c3, .int .i64 k]) (by simp [results, Tryz.results81, go_sem, z5, z6, z7, z8]) rfl ?_
    exact ⟨⟨A1, c1, A2, c2, A3, c3, rfl, ((((RR.far (Nat.lt_succ_self _) _).far (Nat.lt_succ_self _) _).far (Nat.lt_succ_self _) _).far (Nat.lt_succ_self _) _).mono (by omega), r1, r2, r3⟩, (((ZZ.setCell (Nat.le_refl _) _).setCell (Nat.le_refl _) _).setCell (Nat.le_refl _) _).setCell (Nat.le_refl _) _⟩

set_option maxRecDepth 100000 in
set_option maxHeartbeats 40000000 in
theorem copied_any (b : Nat) (A B C : Option Addr) (n m q c d f : Nat) (l r s : List Int) (k : Int) (t : TypeId) (w : World) (hs : Stc w b [.slice A n c, .slice B m d, .slice C q f, .int .i64 k] t) (h1 : Bs w A n l) (h2 : Bs w B m r) (h3 : Bs w C q s) (e1 : A = none → c = 0) (e2 : B = none → d = 0) (e3 : C = none → f = 0) (hn : n ≤ 100000000) (hm : m ≤ 100000000) (hq : q ≤ 100000000) :
    Calls Tryz.prog 134 #[.pointer (some ⟨b, 0, none⟩)] w (StateOut n m q l r s k w) := by
  have hb : b < w.heap.size := hs.lt
  have S0 := hs.alloc (.cells #[.slice none 0 0, .slice none 0 0, .slice none 0 0, .int .i64 0] 25)
  have S1 := Stc.new w 25 [.slice none 0 0, .slice none 0 0, .slice none 0 0, .int .i64 0] _ rfl
  have B0 := ab (Below.refl _ w) (.cells #[.slice none 0 0, .slice none 0 0, .slice none 0 0, .int .i64 0] 25)
  have hW : w.heap.size < (w.alloc (.cells #[.slice none 0 0, .slice none 0 0, .slice none 0 0, .int .i64 0] 25)).heap.size := by simp
  clear hs
  go_enter Tryz.func134, Tryz.ntmps134
  go_wp2_with fail
  generalize hW1 : w.alloc (.cells #[.slice none 0 0, .slice none 0 0, .slice none 0 0, .int .i64 0] 25) = W1 at *
  clear hW1
  have hbW : b < W1.heap.size := by omega

  have G1 : Shut (∀ W : World, (W.cell? ⟨b, 0, none⟩ = some (.slice A n c) ∧ W.cell? ⟨b, 1, none⟩ = some (.slice B m d) ∧ W.cell? ⟨b, 2, none⟩ = some (.slice C q f) ∧ W.cell? ⟨b, 3, none⟩ = some (.int .i64 k) ∧ Below w.heap.size W1 W) → W.cell? ⟨w.heap.size, 0, none⟩ = some (.slice none 0 0) → W.cell? ⟨w.heap.size, 1, none⟩ = some (.slice none 0 0) → W.cell? ⟨w.heap.size, 2, none⟩ = some (.slice none 0 0) → W.cell? ⟨w.heap.size, 3, none⟩ = some (.int .i64 0) → (∀ i, W.frozen? ⟨w.heap.size, i, none⟩ = false) → Calls Tryz.prog 135 #[.slice A n c] W fun e w' => (∃ A' c', e = .returned (.slice A' n c') ∧ Ow w' W.heap.size A' n l ∧ Roomy A' n c') ∧ Below W.heap.size W w' ∧ w'.cell? ⟨b, 0, none⟩ = some (.slice A n c) ∧ w'.cell? ⟨b, 1, none⟩ = some (.slice B m d) ∧ w'.cell? ⟨b, 2, none⟩ = some (.slice C q f) ∧ w'.cell? ⟨b, 3, none⟩ = some (.int .i64 k) ∧ Below w.heap.size W1 w' ∧ w'.cell? ⟨w.heap.size, 0, none⟩ = some (.slice none 0 0) ∧ w'.cell? ⟨w.heap.size, 1, none⟩ = some (.slice none 0 0) ∧ w'.cell? ⟨w.heap.size, 2, none⟩ = some (.slice none 0 0) ∧ w'.cell? ⟨w.heap.size, 3, none⟩ = some (.int .i64 0) ∧ (∀ i, w'.frozen? ⟨w.heap.size, i, none⟩ = false)) := by
    refine ⟨fun W ⟨z0, z1, z2, z3, z4⟩ z5 z6 z7 z8 z9 => (clone_own _ _ _ _ W (h1.below (B0.trans z4)) e1 hn).mono ?_⟩
    rintro e w' ⟨h, hb'⟩
    have hc := fun (i : Nat) => hb'.cell (p := ⟨b, i, none⟩) (Nat.lt_of_lt_of_le hbW z4.size)
    have hd := fun (i : Nat) => hb'.cell (p := ⟨w.heap.size, i, none⟩) (Nat.lt_of_lt_of_le hW z4.size)
    have hf := fun (i : Nat) => hb'.frozen (p := ⟨w.heap.size, i, none⟩) (Nat.lt_of_lt_of_le hW z4.size)
    exact ⟨h, hb', (hc 0).trans z0, (hc 1).trans z1, (hc 2).trans z2, (hc 3).trans z3, z4.trans (hb'.mono (Nat.le_trans (Nat.le_of_lt hW) z4.size)), (hd 0).trans z5, (hd 1).trans z6, (hd 2).trans z7, (hd 3).trans z8, fun i => (hf i).trans (z9 i)⟩
  have G2 : Shut (∀ W : World, (W.cell? ⟨b, 0, none⟩ = some (.slice A n c) ∧ W.cell? ⟨b, 1, none⟩ = some (.slice B m d) ∧ W.cell? ⟨b, 2, none⟩ = some (.slice C q f) ∧ W.cell? ⟨b, 3, none⟩ = some (.int .i64 k) ∧ Below w.heap.size W1 W) → W.cell? ⟨w.heap.size, 0, none⟩ = some (.slice none 0 0) → W.cell? ⟨w.heap.size, 1, none⟩ = some (.slice none 0 0) → W.cell? ⟨w.heap.size, 2, none⟩ = some (.slice none 0 0) → W.cell? ⟨w.heap.size, 3, none⟩ = some (.int .i64 0) → (∀ i, W.frozen? ⟨w.heap.size, i, none⟩ = false) → Calls Tryz.prog 135 #[.slice B m d] W fun e w' => (∃ A' c', e = .returned (.slice A' m c') ∧ Ow w' W.heap.size A' m r ∧ Roomy A' m c') ∧ Below W.heap.size W w' ∧ w'.cell? ⟨b, 0, none⟩ = some (.slice A n c) ∧ w'.cell? ⟨b, 1, none⟩ = some (.slice B m d) ∧ w'.cell? ⟨b, 2, none⟩ = some (.slice C q f) ∧ w'.cell? ⟨b, 3, none⟩ = some (.int .i64 k) ∧ Below w.heap.size W1 w' ∧ w'.cell? ⟨w.heap.size, 0, none⟩ = some (.slice none 0 0) ∧ w'.cell? ⟨w.heap.size, 1, none⟩ = some (.slice none 0 0) ∧ w'.cell? ⟨w.heap.size, 2, none⟩ = some (.slice none 0 0) ∧ w'.cell? ⟨w.heap.size, 3, none⟩ = some (.int .i64 0) ∧ (∀ i, w'.frozen? ⟨w.heap.size, i, none⟩ = false)) := by
    refine ⟨fun W ⟨z0, z1, z2, z3, z4⟩ z5 z6 z7 z8 z9 => (clone_own _ _ _ _ W (h2.below (B0.trans z4)) e2 hm).mono ?_⟩
    rintro e w' ⟨h, hb'⟩
    have hc := fun (i : Nat) => hb'.cell (p := ⟨b, i, none⟩) (Nat.lt_of_lt_of_le hbW z4.size)
    have hd := fun (i : Nat) => hb'.cell (p := ⟨w.heap.size, i, none⟩) (Nat.lt_of_lt_of_le hW z4.size)
    have hf := fun (i : Nat) => hb'.frozen (p := ⟨w.heap.size, i, none⟩) (Nat.lt_of_lt_of_le hW z4.size)
    exact ⟨h, hb', (hc 0).trans z0, (hc 1).trans z1, (hc 2).trans z2, (hc 3).trans z3, z4.trans (hb'.mono (Nat.le_trans (Nat.le_of_lt hW) z4.size)), (hd 0).trans z5, (hd 1).trans z6, (hd 2).trans z7, (hd 3).trans z8, fun i => (hf i).trans (z9 i)⟩
  have G3 : Shut (∀ W : World, (W.cell? ⟨b, 0, none⟩ = some (.slice A n c) ∧ W.cell? ⟨b, 1, none⟩ = some (.slice B m d) ∧ W.cell? ⟨b, 2, none⟩ = some (.slice C q f) ∧ W.cell? ⟨b, 3, none⟩ = some (.int .i64 k) ∧ Below w.heap.size W1 W) → W.cell? ⟨w.heap.size, 0, none⟩ = some (.slice none 0 0) → W.cell? ⟨w.heap.size, 1, none⟩ = some (.slice none 0 0) → W.cell? ⟨w.heap.size, 2, none⟩ = some (.slice none 0 0) → W.cell? ⟨w.heap.size, 3, none⟩ = some (.int .i64 0) → (∀ i, W.frozen? ⟨w.heap.size, i, none⟩ = false) → Calls Tryz.prog 135 #[.slice C q f] W fun e w' => (∃ A' c', e = .returned (.slice A' q c') ∧ Ow w' W.heap.size A' q s ∧ Roomy A' q c') ∧ Below W.heap.size W w' ∧ w'.cell? ⟨b, 0, none⟩ = some (.slice A n c) ∧ w'.cell? ⟨b, 1, none⟩ = some (.slice B m d) ∧ w'.cell? ⟨b, 2, none⟩ = some (.slice C q f) ∧ w'.cell? ⟨b, 3, none⟩ = some (.int .i64 k) ∧ Below w.heap.size W1 w' ∧ w'.cell? ⟨w.heap.size, 0, none⟩ = some (.slice none 0 0) ∧ w'.cell? ⟨w.heap.size, 1, none⟩ = some (.slice none 0 0) ∧ w'.cell? ⟨w.heap.size, 2, none⟩ = some (.slice none 0 0) ∧ w'.cell? ⟨w.heap.size, 3, none⟩ = some (.int .i64 0) ∧ (∀ i, w'.frozen? ⟨w.heap.size, i, none⟩ = false)) := by
    refine ⟨fun W ⟨z0, z1, z2, z3, z4⟩ z5 z6 z7 z8 z9 => (clone_own _ _ _ _ W (h3.below (B0.trans z4)) e3 hq).mono ?_⟩
    rintro e w' ⟨h, hb'⟩
    have hc := fun (i : Nat) => hb'.cell (p := ⟨b, i, none⟩) (Nat.lt_of_lt_of_le hbW z4.size)
    have hd := fun (i : Nat) => hb'.cell (p := ⟨w.heap.size, i, none⟩) (Nat.lt_of_lt_of_le hW z4.size)
    have hf := fun (i : Nat) => hb'.frozen (p := ⟨w.heap.size, i, none⟩) (Nat.lt_of_lt_of_le hW z4.size)
    exact ⟨h, hb', (hc 0).trans z0, (hc 1).trans z1, (hc 2).trans z2, (hc 3).trans z3, z4.trans (hb'.mono (Nat.le_trans (Nat.le_of_lt hW) z4.size)), (hd 0).trans z5, (hd 1).trans z6, (hd 2).trans z7, (hd 3).trans z8, fun i => (hf i).trans (z9 i)⟩
  have x0 := S0.cell (i := 0) rfl
  have x1 := S0.cell (i := 1) rfl
  have x2 := S0.cell (i := 2) rfl
  have x3 := S0.cell (i := 3) rfl
  have hWW := Below.refl w.heap.size W1
  have hne : ¬ b = w.heap.size := by omega
  have hne2 : ¬ w.heap.size = b := by omega
  have y0 := S1.cell (i := 0) rfl
  have y1 := S1.cell (i := 1) rfl
  have y2 := S1.cell (i := 2) rfl
  have y3 := S1.cell (i := 3) rfl
  have y4 := S1.frozen
  clear h1 h2 h3 S0 S1
  go_region_held3 (fun W => W.cell? ⟨b, 0, none⟩ = some (.slice A n c) ∧ W.cell? ⟨b, 1, none⟩ = some (.slice B m d) ∧ W.cell? ⟨b, 2, none⟩ = some (.slice C q f) ∧ W.cell? ⟨b, 3, none⟩ = some (.int .i64 k) ∧ Below w.heap.size W1 W)
    (first | (refine ⟨?_, ?_, ?_, ?_, ?_⟩ <;> with_reducible assumption) | (exact ⟨(cell_far4 _ b _ 0 hne _ _ _ _).trans z0, (cell_far4 _ b _ 1 hne _ _ _ _).trans z1, (cell_far4 _ b _ 2 hne _ _ _ _).trans z2, (cell_far4 _ b _ 3 hne _ _ _ _).trans z3, Below.setCell (Below.setCell (Below.setCell (Below.setCell z4 (Nat.le_refl _) _) (Nat.le_refl _) _) (Nat.le_refl _) _) (Nat.le_refl _) _⟩) | (exact ⟨x0, x1, x2, x3, hWW.drew⟩))
    (first
      | (go_at_call 135; refine (G1.out _ ?_ ?_ ?_ ?_ ?_ ?_).mono ?_; (first | (with_reducible assumption) | (refine ⟨?_, ?_, ?_, ?_, ?_⟩ <;> with_reducible assumption)); (first | (with_reducible assumption) | exact y0); (first | (with_reducible assumption) | exact y1); (first | (with_reducible assumption) | exact y2); (first | (with_reducible assumption) | exact y3); (first | (with_reducible assumption) | exact y4); rintro e w1 ⟨⟨A1, c1, rfl, o1, r1⟩, b1, z0, z1, z2, z3, z4, z5, z6, z7, z8, z9⟩)
      | (go_at_call 135; refine (G2.out _ ?_ ?_ ?_ ?_ ?_ ?_).mono ?_; (first | (with_reducible assumption) | (refine ⟨?_, ?_, ?_, ?_, ?_⟩ <;> with_reducible assumption)); (first | (with_reducible assumption) | exact y0); (first | (with_reducible assumption) | exact y1); (first | (with_reducible assumption) | exact y2); (first | (with_reducible assumption) | exact y3); (first | (with_reducible assumption) | exact y4); rintro e w2 ⟨⟨A2, c2, rfl, o2, r2⟩, b2, z0, z1, z2, z3, z4, z5, z6, z7, z8, z9⟩)
      | (go_at_call 135; refine (G3.out _ ?_ ?_ ?_ ?_ ?_ ?_).mono ?_; (first | (with_reducible assumption) | (refine ⟨?_, ?_, ?_, ?_, ?_⟩ <;> with_reducible assumption)); (first | (with_reducible assumption) | exact y0); (first | (with_reducible assumption) | exact y1); (first | (with_reducible assumption) | exact y2); (first | (with_reducible assumption) | exact y3); (first | (with_reducible assumption) | exact y4); rintro e w3 ⟨⟨A3, c3, rfl, o3, r3⟩, b3, z0, z1, z2, z3, z4, z5, z6, z7, z8, z9⟩))
  all_goals
    clear G1 G2 G3
    have hB : w.heap.size + 1 ≤ W1.drew.heap.size := hW
    first
      | (obtain ⟨q1, q2, q3, s12, s13, s23⟩ := copyEnd hB o1 b1 o2 b2 o3 b3)
      | (obtain ⟨q1, q3, q2, s13, s12, s32⟩ := copyEnd hB o1 b1 o3 b3 o2 b2; have s23 := s32.symm)
      | (obtain ⟨q2, q1, q3, s21, s23, s13⟩ := copyEnd hB o2 b2 o1 b1 o3 b3; have s12 := s21.symm)
      | (obtain ⟨q2, q3, q1, s23, s21, s31⟩ := copyEnd hB o2 b2 o3 b3 o1 b1; have s12 := s21.symm; have s13 := s31.symm)
      | (obtain ⟨q3, q1, q2, s31, s32, s12⟩ := copyEnd hB o3 b3 o1 b1 o2 b2; have s13 := s31.symm; have s23 := s32.symm)
      | (obtain ⟨q3, q2, q1, s32, s31, s21⟩ := copyEnd hB o3 b3 o2 b2 o1 b1; have s23 := s32.symm; have s13 := s31.symm; have s12 := s21.symm)
    have RR := rows3 q1 q2 q3 s12 s13 s23
    have ZZ := B0.trans z4
    clear o1 o2 o3 b1 b2 b3 q1 q2 q3 s12 s13 s23
    go_wp2
    refine bodyPost_ret (v := .agg #[.slice A1 n c1, .slice A2 m c2, .slice A3 q c3, .int .i64 k]) (by simp [results, Tryz.results134, go_sem, z5, z6, z7, z8]) rfl ?_
    exact ⟨⟨A1, c1, A2, c2, A3, c3, rfl, ((((RR.far (Nat.lt_succ_self _) _).far (Nat.lt_succ_self _) _).far (Nat.lt_succ_self _) _).far (Nat.lt_succ_self _) _).mono (by omega), r1, r2, r3⟩, (((ZZ.setCell (Nat.le_refl _) _).setCell (Nat.le_refl _) _).setCell (Nat.le_refl _) _).setCell (Nat.le_refl _) _⟩

end Go.Proofs.YtabhcolfkkfonaaGreatDoor
