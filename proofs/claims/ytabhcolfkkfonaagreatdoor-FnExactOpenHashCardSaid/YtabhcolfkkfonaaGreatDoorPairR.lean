/- An answer of two runs of bytes, as rows. -/
import Derived.Test.YtabhcolfkkfonaaGreatDoorSymB
import Derived.Test.YtabhcolfkkfonaaGreatDoorAnwX
namespace Go.Proofs.YtabhcolfkkfonaaGreatDoor
open Go.RowKit

def PairRs (x : Int) (n m : Nat) (l r : List Int) (w : World) (e : Ending) (w' : World) : Prop :=
  (∃ A c B d, e = .returned (.agg #[.int .i64 x, .slice A n c, .slice B m d]) ∧ Rs w' w.heap.size [(A, n, l), (B, m, r)]) ∧ Below w.heap.size w w'
theorem PairAns.rs {x : Int} {n m : Nat} {l r : List Int} {w : World} {e : Ending} {w' : World} (h : PairAns x n m l r w e w') : PairRs x n m l r w e w' := by
  obtain ⟨⟨A, c, B, d, he, ho, hp, ha⟩, hb⟩ := h
  refine ⟨⟨A, c, B, d, he, Rs.cons ho ?_ (Rs.cons hp ?_ (Rs.nil _ _))⟩, hb⟩
  · intro y hy
    simp only [List.mem_cons, List.not_mem_nil, or_false] at hy
    subst hy
    exact ha
  · intro y hy; cases hy

end Go.Proofs.YtabhcolfkkfonaaGreatDoor
