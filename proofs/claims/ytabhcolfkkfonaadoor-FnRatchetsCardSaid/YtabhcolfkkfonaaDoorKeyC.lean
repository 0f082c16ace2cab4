/- The laws' helpers for KeyResult: a code and two runs of bytes. -/
import Derived.Test.YtabhcolfkkfonaaDoorSymB
namespace Go.Proofs.YtabhcolfkkfonaaDoor
open Go.RowKit

theorem eqKeyResult_any (a b : Int) (A B A' B' : Option Addr) (n c m d n' c' m' d' : Nat) (l r l' r' : List Int) (w : World) (h : Bs w A n l) (k : Bs w B m r) (h' : Bs w A' n' l') (k' : Bs w B' m' r') (hn : n ≤ 140737488351232) (hm : m ≤ 140737488351232) (hn' : n' ≤ 140737488351232) (hm' : m' ≤ 140737488351232) :
    Calls Tryd.prog 18 #[.agg #[.int .i64 a, .slice A n c, .slice B m d], .agg #[.int .i64 b, .slice A' n' c', .slice B' m' d']] w fun e w' => e = .returned (.bool (decide (a = b ∧ l = l' ∧ r = r'))) ∧ Below w.heap.size w w' := by
  by_cases hab : a = b
  · subst hab
    by_cases hl : l = l'
    · have Hd : Hid (decide (l = l') = true) := by simp [Hid, hl]
      have Hl := Lib.hid hl
      clear hl
      go_enter Tryd.func18, Tryd.ntmps18
      go_wp2_with fail
      refine (eqByteS_any _ _ _ _ _ _ _ _ _ ((h.alloc _).alloc _) ((h'.alloc _).alloc _) hn hn').mono ?_
      rintro e w' ⟨rfl, q, rfl⟩
      rw [Hd.out]
      go_wp2_with fail
      refine (eqByteS_any _ _ _ _ _ _ _ _ _ (((k.alloc _).alloc _).drewN q) (((k'.alloc _).alloc _).drewN q) hm hm').mono ?_
      rintro e w' ⟨rfl, q2, rfl⟩
      go_wp2
      · go_returns
        have hh : (!decide (r = r')) = true := by assumption
        exact ⟨by simp at hh; simp [hh], ad (ab (ab (Below.refl _ _) _) _) _⟩
      · go_returns
        have hh : (!decide (r = r')) = false := by assumption
        exact ⟨by simp at hh; simp [hh, Hl.out], ad (ab (ab (Below.refl _ _) _) _) _⟩
    · have Hd : Hid (decide (l = l') = false) := by simp [Hid, hl]
      have Hl := Lib.hid hl
      clear hl
      go_enter Tryd.func18, Tryd.ntmps18
      go_wp2_with fail
      refine (eqByteS_any _ _ _ _ _ _ _ _ _ ((h.alloc _).alloc _) ((h'.alloc _).alloc _) hn hn').mono ?_
      rintro e w' ⟨rfl, q, rfl⟩
      rw [Hd.out]
      go_wp2
      go_returns
      exact ⟨by simp [Hl.out], ad (ab (ab (Below.refl _ _) _) _) _⟩
  · have hb : (a == b) = false := by simpa using hab
    have hb' : (a != b) = true := by simpa using hab
    go_enter Tryd.func18, Tryd.ntmps18
    go_wp2
    go_returns
    exact ⟨by simp [hab], by go_grown⟩

theorem markKeyResult_any (a : Int) (A A' : Option Addr) (n c m d B : Nat) (l r : List Int) (k : Int) (w : World) (h : Ow w B A n l) (h' : Ow w B A' m r) (hap : Sunder n m A A') (hk0 : 0 ≤ k) (hk1 : k ≤ 140737488351232) (hn : n ≤ 14073748835123) (hm : m ≤ 14073748835123) (hk2 : k ≤ 14073748835123) :
    Calls Tryd.prog 21 #[.agg #[.int .i64 a, .slice A n c, .slice A' m d], .int .i64 k] w fun e w' => e = .returned (.int .i64 (k + (n : Int) + (m : Int))) ∧ Ow w' B A n (marks k n) ∧ Ow w' B A' m (marks (k + (n : Int)) m) ∧ ∃ w1 w2, Below w.heap.size w w1 ∧ Only n A w1 w2 ∧ Only m A' w2 w' := by
  go_enter Tryd.func21, Tryd.ntmps21
  go_wp2_with fail
  refine (markByteS_any _ _ _ _ _ _ _ (h.below (ab (Below.refl _ _) _) (Nat.le_refl _)) hk0 hk1 (by omega)).mono ?_
  rintro e w1 ⟨rfl, ho, hon⟩
  have h2 := (h'.below (ab (Below.refl _ w) (.cells #[.int .i64 a, .slice A n c, .slice A' m d] 27)) (Nat.le_refl _)).only' hon hap
  have hsz := hon.size
  obtain ⟨x0, x1, x2, x3, x4, x5⟩ := ((Three.new w 27 (.int .i64 a) (.slice A n c) (.slice A' m d)).only hon (fun h0 b hb => by have := h.top h0 b hb; omega)).cells
  rw [World.size_alloc] at hsz
  have hs1 : w.heap.size < w1.heap.size := by omega
  clear hsz x0 x1 x3 x4 x5
  go_wp2_with fail
  refine (markByteS_any _ _ _ _ _ _ _ h2 (by omega) (by omega) (by omega)).mono ?_
  rintro e w2 ⟨rfl, ho2, hon2⟩
  have h3 := ho.only' hon2 hap.symm
  go_wp2
  go_returns
  exact ⟨rfl, h3, ho2, _, _, ab (Below.refl _ _) _, hon, hon2⟩

theorem heldKeyResult_any (a : Int) (A A' : Option Addr) (n c m d : Nat) (k : Int) (w : World) (h : Bs w A n (marks k n)) (h' : Bs w A' m (marks (k + (n : Int)) m)) (hk0 : 0 ≤ k) (hk2 : k ≤ 14073748835123) (hn : n ≤ 14073748835123) (hm : m ≤ 14073748835123) :
    Calls Tryd.prog 22 #[.agg #[.int .i64 a, .slice A n c, .slice A' m d], .int .i64 k] w fun e w' => e = .returned (.int .i64 (k + (n : Int) + (m : Int))) ∧ Below w.heap.size w w' := by
  go_enter Tryd.func22, Tryd.ntmps22
  go_wp2_with fail
  refine (heldByteS_any _ _ _ _ _ (h.alloc _) hk0 (by omega) (by omega)).mono ?_
  rintro e w' ⟨rfl, rfl⟩
  go_wp2_with fail
  refine (heldByteS_any _ _ _ _ _ (h'.alloc _) (by omega) (by omega) (by omega)).mono ?_
  rintro e w' ⟨rfl, rfl⟩
  go_wp2
  go_returns
  exact ⟨rfl, ab (Below.refl _ _) _⟩

def KeyRs (x : Int) (n m : Nat) (l r : List Int) (w : World) (e : Ending) (w' : World) : Prop :=
  (∃ A c B d, e = .returned (.agg #[.int .i64 x, .slice A n c, .slice B m d]) ∧ Rs w' w.heap.size [(A, n, l), (B, m, r)]) ∧ Below w.heap.size w w'

theorem sameKeyResult_any (x : Int) (A B A' B' : Option Addr) (n m c d c' d' : Nat) (l r : List Int) (w : World) (h1 : Bs w A n l) (h2 : Bs w B m r) (h1' : Bs w A' n l) (h2' : Bs w B' m r) (hn : n ≤ 140737488351232) (hm : m ≤ 140737488351232) :
    Calls Tryd.prog 18 #[.agg #[.int .i64 x, .slice A n c, .slice B m d], .agg #[.int .i64 x, .slice A' n c', .slice B' m d']] w fun e w' => e = .returned (.bool true) ∧ Below w.heap.size w w' := by
  refine (eqKeyResult_any x x A B A' B' n c m d n c' m d' l r l r w h1 h2 h1' h2' hn hm hn hm).mono ?_
  rintro e w' ⟨rfl, hb⟩
  exact ⟨by simp, hb⟩

theorem markRKeyResult_any (x : Int) (A B : Option Addr) (n m c d X : Nat) (l r : List Int) (k : Int) (w : World) (h : Rs w X [(A, n, l), (B, m, r)]) (hk0 : 0 ≤ k) (hk : k ≤ 14073748835123) (hn : n ≤ 14073748835123) (hm : m ≤ 14073748835123) :
    Calls Tryd.prog 21 #[.agg #[.int .i64 x, .slice A n c, .slice B m d], .int .i64 k] w fun e w' => e = .returned (.int .i64 (k + (n : Int) + (m : Int))) ∧
      Rs w' X [(A, n, marks k n), (B, m, marks (k + (n : Int)) m)] ∧ Touch [(A, n, l), (B, m, r)] w w' := by
  have ha := h.2.1 (B, m, r) (by simp)
  refine (markKeyResult_any x A B n c m d X l r k w h.head h.rest.head ha hk0 (by omega) hn hm hk).mono ?_
  rintro e w' ⟨rfl, o1, o2, w1, w2, b1, on1, on2⟩
  refine ⟨rfl, Rs.cons o1 ?_ (Rs.cons o2 ?_ (Rs.nil _ _)), ?_⟩
  · intro y hy
    simp only [List.mem_cons, List.not_mem_nil, or_false] at hy
    subst hy
    exact ha
  · intro y hy; cases hy
  · exact ((Touch.ofBelow b1).trans (Touch.ofOnly (l := l) on1 (by simp))).trans (Touch.ofOnly (l := r) on2 (by simp))

theorem heldRKeyResult_any (x : Int) (A B : Option Addr) (n m c d : Nat) (k : Int) (w : World) (h : Bs w A n (marks k n)) (h' : Bs w B m (marks (k + (n : Int)) m)) (hk0 : 0 ≤ k) (hk1 : k ≤ 14073748835123) (hn : n ≤ 14073748835123) (hm : m ≤ 14073748835123) :
    Calls Tryd.prog 22 #[.agg #[.int .i64 x, .slice A n c, .slice B m d], .int .i64 k] w fun e w' => e = .returned (.int .i64 (k + (n : Int) + (m : Int))) ∧ Below w.heap.size w w' := heldKeyResult_any x A B n c m d k w h h' hk0 hk1 hn hm

end Go.Proofs.YtabhcolfkkfonaaDoor
