/- What the program answers in chapter 3: a code, and bytes of the call's own that have their room. -/
import Derived.Test.YtabhcolfkkfonaaGreatDoorBase
namespace Go.Proofs.YtabhcolfkkfonaaGreatDoor
open Go.RowKit

/-- a code, and bytes of the call's own that have their room -/
def SpanAns (code : Int) (n : Nat) (l : List Int) (w : World) (e : Ending) (w' : World) : Prop :=
  (∃ A c, e = .returned (.agg #[.int .i64 code, .slice A n c]) ∧ Ow w' w.heap.size A n l ∧ n ≤ c ∧ (A = none → c = 0)) ∧ Below w.heap.size w w'
theorem SpanAns.bytes {code : Int} {n : Nat} {l : List Int} {w : World} {e : Ending} {w' : World} (h : SpanAns code n l w e w') : BytesAns code n l w e w' := by
  obtain ⟨⟨A, c, he, ho, _, _⟩, hb⟩ := h
  exact ⟨⟨A, c, he, ho⟩, hb⟩

end Go.Proofs.YtabhcolfkkfonaaGreatDoor
