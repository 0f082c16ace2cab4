/- The laws' helpers for a cell, and for an answer that bears one. -/
import Derived.Test.YtpoiecdifhkegaaSymC
namespace Go.Proofs.Ytpoiecdifhkegaa
open Go.RowKit

theorem Rs.one {w : World} {B n : Nat} {A : Option Addr} {l : List Int} (h : Ow w B A n l) : Rs w B [(A, n, l)] := Rs.cons h (fun y hy => by cases hy) (Rs.nil _ _)

set_option maxHeartbeats 1000000 in
theorem toCell_any (a b c d : Int) (v : Bool) (A : Option Addr) (n e : Nat) (l : List Int) (w : World) (h : Bs w A n l) (hn : n ≤ 140737488351232) :
    Calls Try.prog 24 #[.agg #[.int .i64 a, .int .i64 b, .int .i64 c, .int .i64 d, .bool v, .slice A n e]] w fun e w' => (∃ g, e = .returned (.agg #[.int .i64 a, .int .i64 b, .int .i64 c, .int .i64 d, .bool v, .slice (some ⟨g, 0, none⟩) n n]) ∧ Rs w' w.heap.size [(some ⟨g, 0, none⟩, n, l)]) ∧ Below w.heap.size w w' := by
  have S1 := ((Stc.new (w.alloc (.cells #[.int .i64 a, .int .i64 b, .int .i64 c, .int .i64 d, .bool v, .slice A n e] 40)) 25 [.int .i64 0, .int .i64 0, .int .i64 0, .int .i64 0, .bool false, .slice none 0 0] _ rfl).alloc (.cells #[.int .i64 a, .int .i64 b, .int .i64 c, .int .i64 d, .bool v, .slice none 0 0] 25))
  have S2 := (Stc.new ((w.alloc (.cells #[.int .i64 a, .int .i64 b, .int .i64 c, .int .i64 d, .bool v, .slice A n e] 40)).alloc (.cells #[.int .i64 0, .int .i64 0, .int .i64 0, .int .i64 0, .bool false, .slice none 0 0] 25)) 25 [.int .i64 a, .int .i64 b, .int .i64 c, .int .i64 d, .bool v, .slice none 0 0] _ rfl)
  have B0 := ab (ab (ab (Below.refl _ w) (.cells #[.int .i64 a, .int .i64 b, .int .i64 c, .int .i64 d, .bool v, .slice A n e] 40)) (.cells #[.int .i64 0, .int .i64 0, .int .i64 0, .int .i64 0, .bool false, .slice none 0 0] 25)) (.cells #[.int .i64 a, .int .i64 b, .int .i64 c, .int .i64 d, .bool v, .slice none 0 0] 25)
  simp only [World.size_alloc] at S1 S2
  go_enter Try.func24, Try.ntmps24
  go_wp2_with fail
  refine (toByteS_any _ _ _ _ _ (h.below B0) hn).mono ?_
  rintro e w1 ⟨rfl, k1, b1⟩
  have z1 := b1.size
  simp only [World.size_alloc] at k1 z1 ⊢
  have u1 := k1.lt
  have B1 := ac B0 b1
  replace S1 := S1.below b1 (by simp)
  replace S2 := S2.below b1 (by simp)
  clear b1 B0
  have x0 := S1.cell (i := 0) rfl
  have x1 := S1.cell (i := 1) rfl
  have x2 := S1.cell (i := 2) rfl
  have x3 := S1.cell (i := 3) rfl
  have x4 := S1.cell (i := 4) rfl
  have x5 := S1.cell (i := 5) rfl
  have y0 := S2.cell (i := 0) rfl
  have y1 := S2.cell (i := 1) rfl
  have y2 := S2.cell (i := 2) rfl
  have y3 := S2.cell (i := 3) rfl
  have y4 := S2.cell (i := 4) rfl
  have y5 := S2.cell (i := 5) rfl
  have y6 := S2.frozen
  have y7 := S1.frozen
  go_wp2
  refine bodyPost_ret (v := .agg #[.int .i64 a, .int .i64 b, .int .i64 c, .int .i64 d, .bool v, .slice (some ⟨w.heap.size + 1 + 1 + 1, 0, none⟩) n n]) (by simp [results, Try.results24, go_sem, x0, x1, x2, x3, x4, x5]) rfl ?_
  have q1 : Ow w1 (w.heap.size + 1 + 1 + 1) (some ⟨w.heap.size + 1 + 1 + 1, 0, none⟩) n l := k1.own h.byte h.len
  refine ⟨⟨_, rfl, Rs.one ((((((((q1.far ?_ _).far ?_ _).far ?_ _).far ?_ _).far ?_ _).far ?_ _).far ?_ _).mono (by omega))⟩, ?_⟩
  · simp
  · simp
  · simp
  · simp
  · simp
  · simp
  · simp
  · exact ((((((B1.setCell (by simp; omega) _).setCell (by simp) _).setCell (by simp) _).setCell (by simp) _).setCell (by simp) _).setCell (by simp) _).setCell (by simp) _

/-- what is left of a bound behind one run -/
def leftC (x : Int) (n : Nat) : Int := if x - (n : Int) < 0 then -1 else x - (n : Int)
theorem szCell_any (a b c d : Int) (v : Bool) (A : Option Addr) (n e : Nat) (x : Int) (w : World) (h0 : 0 ≤ x) (h1 : x ≤ 1048576) (hn : n ≤ 9223372036854775807) :
    Calls Try.prog 22 #[.agg #[.int .i64 a, .int .i64 b, .int .i64 c, .int .i64 d, .bool v, .slice A n e], .int .i64 x] w fun e w' => e = .returned (.int .i64 (leftC x n)) ∧ Below w.heap.size w w' := by
  have e1 := fun w => szByteS_any A n e x w h0 h1 hn
  have hb : leftC x n ≤ 1048576 ∧ -1 ≤ leftC x n := by unfold leftC; split <;> omega
  by_cases hy : leftC x n < 0
  · have e2 : leftC x n = -1 := by unfold leftC at hy ⊢; split at hy <;> omega
    unfold leftC at e2
    rw [e2] at e1
    unfold leftC
    rw [e2]
    clear e2 hy hb h0 h1
    go_enter Try.func22, Try.ntmps22
    go_wp2_with fail
    refine (e1 _).mono ?_
    rintro e w' ⟨rfl, rfl⟩
    go_wp2
    go_ret
    exact ⟨rfl, ab (Below.refl _ _) _⟩
  · unfold leftC at hy ⊢
    generalize (if x - (n : Int) < 0 then -1 else x - (n : Int)) = y at *
    go_enter Try.func22, Try.ntmps22
    go_wp2_with fail
    refine (e1 _).mono ?_
    rintro e w' ⟨rfl, rfl⟩
    go_wp2
    go_ret
    exact ⟨rfl, ab (Below.refl _ _) _⟩

theorem eqCell_any (a b c d : Int) (v : Bool) (A A' : Option Addr) (n f f' : Nat) (l : List Int) (w : World) (h : Bs w A n l) (h' : Bs w A' n l) (hn : n ≤ 140737488351232) :
    Calls Try.prog 25 #[.agg #[.int .i64 a, .int .i64 b, .int .i64 c, .int .i64 d, .bool v, .slice A n f], .agg #[.int .i64 a, .int .i64 b, .int .i64 c, .int .i64 d, .bool v, .slice A' n f']] w fun e w' => e = .returned (.bool true) ∧ Below w.heap.size w w' := by
  have e1 := fun W a b => eqByteS_any A A' n f n f' l l W a b hn hn
  simp only [decide_true] at e1
  go_enter Try.func25, Try.ntmps25
  go_wp2_with fail
  refine (e1 _ ((h.alloc _).alloc _) ((h'.alloc _).alloc _)).mono ?_
  rintro e w' ⟨rfl, q1, rfl⟩
  go_wp2
  go_returns
  exact ⟨rfl, ad (ab (ab (Below.refl _ _) _) _) _⟩

theorem markCell_any (a b c d : Int) (v : Bool) (A : Option Addr) (n f : Nat) (l : List Int) (X : Nat) (k : Int) (w : World) (h : Rs w X [(A, n, l)]) (hk0 : 0 ≤ k) (hk1 : k ≤ 140737488351232) (hn : n ≤ 140737488351232) :
    Calls Try.prog 27 #[.agg #[.int .i64 a, .int .i64 b, .int .i64 c, .int .i64 d, .bool v, .slice A n f], .int .i64 k] w fun e w' => e = .returned (.int .i64 (k + (n : Int))) ∧ Rs w' X [(A, n, marks k n)] ∧ Touch [(A, n, l)] w w' := by
  go_enter Try.func27, Try.ntmps27
  go_wp2_with fail
  refine (markByteS_any _ _ _ _ _ _ _ (h.head.below (ab (Below.refl _ _) _) (Nat.le_refl _)) hk0 hk1 hn).mono ?_
  rintro e w' ⟨rfl, ho, hon⟩
  go_wp2
  go_returns
  exact ⟨rfl, Rs.one ho, (Touch.ofBelow (ab (Below.refl _ _) _)).trans (Touch.ofOnly (L := [(A, n, l)]) (l := l) hon (by simp))⟩

theorem heldCell_any (a b c d : Int) (v : Bool) (A : Option Addr) (n f : Nat) (k : Int) (w : World) (h : Bs w A n (marks k n)) (hk0 : 0 ≤ k) (hk1 : k ≤ 140737488351232) (hn : n ≤ 140737488351232) :
    Calls Try.prog 57 #[.agg #[.int .i64 a, .int .i64 b, .int .i64 c, .int .i64 d, .bool v, .slice A n f], .int .i64 k] w fun e w' => e = .returned (.int .i64 (k + (n : Int))) ∧ Below w.heap.size w w' := by
  go_enter Try.func57, Try.ntmps57
  go_wp2_with fail
  refine (heldByteS_any _ _ _ _ _ (h.alloc _) hk0 hk1 hn).mono ?_
  rintro e w' ⟨rfl, rfl⟩
  go_wp2
  go_returns
  exact ⟨rfl, ab (Below.refl _ _) _⟩

theorem sameCellResult_any (x y a b c d : Int) (v : Bool) (A A' : Option Addr) (n f f' : Nat) (l : List Int) (w : World) (h : Bs w A n l) (h' : Bs w A' n l) (hn : n ≤ 140737488351232) :
    Calls Try.prog 31 #[.agg #[.int .i64 x, .int .i64 y, .int .i64 a, .int .i64 b, .int .i64 c, .int .i64 d, .bool v, .slice A n f], .agg #[.int .i64 x, .int .i64 y, .int .i64 a, .int .i64 b, .int .i64 c, .int .i64 d, .bool v, .slice A' n f']] w fun e w' => e = .returned (.bool true) ∧ Below w.heap.size w w' := by
  have e1 := fun W a1 b1 => eqCell_any a b c d v A A' n f f' l W a1 b1 hn
  go_enter Try.func31, Try.ntmps31
  go_wp2_with fail
  refine (e1 _ ((h.alloc _).alloc _) ((h'.alloc _).alloc _)).mono ?_
  rintro e w' ⟨rfl, b1⟩
  go_wp2
  go_returns
  exact ⟨rfl, ac (ab (ab (Below.refl _ _) _) _) b1⟩

theorem markRCellResult_any (x y a b c d : Int) (v : Bool) (A : Option Addr) (n f : Nat) (l : List Int) (X : Nat) (k : Int) (w : World) (h : Rs w X [(A, n, l)]) (hk0 : 0 ≤ k) (hk1 : k ≤ 140737488351232) (hn : n ≤ 140737488351232) :
    Calls Try.prog 34 #[.agg #[.int .i64 x, .int .i64 y, .int .i64 a, .int .i64 b, .int .i64 c, .int .i64 d, .bool v, .slice A n f], .int .i64 k] w fun e w' => e = .returned (.int .i64 (k + (n : Int))) ∧ Rs w' X [(A, n, marks k n)] ∧ Touch [(A, n, l)] w w' := by
  go_enter Try.func34, Try.ntmps34
  go_wp2_with fail
  refine (markCell_any _ _ _ _ _ _ _ _ _ _ _ _ (h.below (ab (Below.refl _ _) _) (Nat.le_refl _)) hk0 hk1 hn).mono ?_
  rintro e w' ⟨rfl, ho, t1⟩
  go_wp2
  go_returns
  exact ⟨rfl, ho, (Touch.ofBelow (ab (Below.refl _ _) _)).trans t1⟩

theorem heldRCellResult_any (x y a b c d : Int) (v : Bool) (A : Option Addr) (n f : Nat) (k : Int) (w : World) (h : Bs w A n (marks k n)) (hk0 : 0 ≤ k) (hk1 : k ≤ 140737488351232) (hn : n ≤ 140737488351232) :
    Calls Try.prog 35 #[.agg #[.int .i64 x, .int .i64 y, .int .i64 a, .int .i64 b, .int .i64 c, .int .i64 d, .bool v, .slice A n f], .int .i64 k] w fun e w' => e = .returned (.int .i64 (k + (n : Int))) ∧ Below w.heap.size w w' := by
  go_enter Try.func35, Try.ntmps35
  go_wp2_with fail
  refine (heldCell_any _ _ _ _ _ _ _ _ _ _ (h.alloc _) hk0 hk1 hn).mono ?_
  rintro e w' ⟨rfl, b1⟩
  go_wp2
  go_returns
  exact ⟨rfl, ac (ab (Below.refl _ _) _) b1⟩

/-- the answer with a code, a slot and a cell whose bytes are of the call's own -/
def CellAns (x y a b c d : Int) (v : Bool) (n : Nat) (l : List Int) (w : World) (e : Ending) (w' : World) : Prop :=
  (∃ A f, e = .returned (.agg #[.int .i64 x, .int .i64 y, .int .i64 a, .int .i64 b, .int .i64 c, .int .i64 d, .bool v, .slice A n f]) ∧ Rs w' w.heap.size [(A, n, l)]) ∧ Below w.heap.size w w'

theorem sameBytesResult_any (x : Int) (A A' : Option Addr) (n f f' : Nat) (l : List Int) (w : World) (h : Bs w A n l) (h' : Bs w A' n l) (hn : n ≤ 140737488351232) :
    Calls Try.prog 26 #[.agg #[.int .i64 x, .slice A n f], .agg #[.int .i64 x, .slice A' n f']] w fun e w' => e = .returned (.bool true) ∧ Below w.heap.size w w' := by
  have h0 := eqBytesResult_any x x A A' n f n f' l l w h h' hn hn
  simpa using h0

theorem markRBytesResult_any (x : Int) (A : Option Addr) (n f : Nat) (l : List Int) (X : Nat) (k : Int) (w : World) (h : Rs w X [(A, n, l)]) (hk0 : 0 ≤ k) (hk1 : k ≤ 140737488351232) (hn : n ≤ 140737488351232) :
    Calls Try.prog 28 #[.agg #[.int .i64 x, .slice A n f], .int .i64 k] w fun e w' => e = .returned (.int .i64 (k + (n : Int))) ∧ Rs w' X [(A, n, marks k n)] ∧ Touch [(A, n, l)] w w' :=
  (markBytesResult_any x A n f X l k w h.head hk0 hk1 hn).mono fun _ _ ⟨he, ho, _, hon, hb⟩ => ⟨he, Rs.one ho, (Touch.ofBelow hb).trans (Touch.ofOnly (L := [(A, n, l)]) (l := l) hon (by simp))⟩

theorem heldRBytesResult_any (x : Int) (A : Option Addr) (n f : Nat) (k : Int) (w : World) (h : Bs w A n (marks k n)) (hk0 : 0 ≤ k) (hk1 : k ≤ 140737488351232) (hn : n ≤ 140737488351232) :
    Calls Try.prog 29 #[.agg #[.int .i64 x, .slice A n f], .int .i64 k] w fun e w' => e = .returned (.int .i64 (k + (n : Int))) ∧ Below w.heap.size w w' := heldBytesResult_any x A n f k w h hk0 hk1 hn

end Go.Proofs.Ytpoiecdifhkegaa
