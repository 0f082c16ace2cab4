/- An answer of two runs of bytes, as rows. -/
import Derived.Test.YtknkadmngdaakaaDoorRowsC
import Derived.Test.YtknkadmngdaakaaDoorKeysAns
namespace Go.Proofs.YtknkadmngdaakaaDoor
open Go.RowKit

def PairRs (x : Int) (n m : Nat) (l r : List Int) (w : World) (e : Ending) (w' : World) : Prop :=
  (∃ A c B d, e = .returned (.agg #[.int .i64 x, .slice A n c, .slice B m d]) ∧ Rs w' w.heap.size [(A, n, l), (B, m, r)]) ∧ Below w.heap.size w w'
theorem PairAns.rs {x : Int} {n m : Nat} {l r : List Int} {w : World} {e : Ending} {w' : World} (h : PairAns x n m l r w e w') : PairRs x n m l r w e w' := by
  obtain ⟨⟨A, c, B, d, he, ho, hp, ha⟩, hb⟩ := h
  refine ⟨⟨A, c, B, d, he, Rs.cons ho ?_ (Rs.cons hp ?_ (Rs.nil _ _))⟩, hb⟩
  · intro y hy
    simp only [List.mem_cons, List.not_mem_nil, or_false] at hy
    subst hy
    exact ha
  · intro y hy; cases hy

theorem eqPairSame_any (x : Int) (A B A' B' : Option Addr) (n m c d c' d' : Nat) (l r : List Int) (w : World) (h1 : Bs w A n l) (h2 : Bs w B m r) (h1' : Bs w A' n l) (h2' : Bs w B' m r) (hn : n ≤ 140737488351232) (hm : m ≤ 140737488351232) :
    Calls Tryd.prog 23 #[.agg #[.int .i64 x, .slice A n c, .slice B m d], .agg #[.int .i64 x, .slice A' n c', .slice B' m d']] w fun e w' => e = .returned (.bool true) ∧ Below w.heap.size w w' := by
  refine (eqPairResult_any x x A B A' B' n c m d n c' m d' l r l r w h1 h2 h1' h2' hn hm hn hm).mono ?_
  rintro e w' ⟨rfl, hb⟩
  exact ⟨by simp, hb⟩

theorem markPairR_any (x : Int) (A B : Option Addr) (n m c d X : Nat) (l r : List Int) (k : Int) (w : World) (h : Rs w X [(A, n, l), (B, m, r)]) (hk0 : 0 ≤ k) (hk : k ≤ 14073748835123) (hn : n ≤ 14073748835123) (hm : m ≤ 14073748835123) :
    Calls Tryd.prog 24 #[.agg #[.int .i64 x, .slice A n c, .slice B m d], .int .i64 k] w fun e w' => e = .returned (.int .i64 (k + (n : Int) + (m : Int))) ∧
      Rs w' X [(A, n, marks k n), (B, m, marks (k + (n : Int)) m)] ∧ Touch [(A, n, l), (B, m, r)] w w' := by
  have ha := h.2.1 (B, m, r) (by simp)
  refine (markPairResult_any x A B n c m d X l r k w h.head h.rest.head ha hk0 (by omega) hn hm hk).mono ?_
  rintro e w' ⟨rfl, o1, o2, w1, w2, b1, on1, on2⟩
  refine ⟨rfl, Rs.cons o1 ?_ (Rs.cons o2 ?_ (Rs.nil _ _)), ?_⟩
  · intro y hy
    simp only [List.mem_cons, List.not_mem_nil, or_false] at hy
    subst hy
    exact ha
  · intro y hy; cases hy
  · exact ((Touch.ofBelow b1).trans (Touch.ofOnly (l := l) on1 (by simp))).trans (Touch.ofOnly (l := r) on2 (by simp))
end Go.Proofs.YtknkadmngdaakaaDoor
