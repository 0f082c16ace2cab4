/- PadMessage of the program. -/
import Derived.Test.YtabhcolfkkfonaaDoorPadP
import Derived.Test.YtabhcolfkkfonaaDoorHashAns
namespace Go.Proofs.YtabhcolfkkfonaaDoor
open Go.RowKit

/-- the same, with room for what it holds -/
def BytesAnsC (code : Int) (n : Nat) (l : List Int) (w : World) (e : Ending) (w' : World) : Prop :=
  (∃ A c, e = .returned (.agg #[.int .i64 code, .slice A n c]) ∧ Ow w' w.heap.size A n l ∧ n ≤ c) ∧ Below w.heap.size w w'

theorem hlen_le (n : Nat) : hlen n 32 ≤ 2000 := by unfold hlen; split <;> omega
theorem hpadlen (n : Nat) (l : List Int) (h : l.length = n) : hlen n (padW l).length ≤ 2000 := by
  unfold hlen
  split
  · rw [padW_len]; have := padN_lt l.length; omega
  · omega
theorem mlen_le (n m : Nat) : mlen n m ≤ 2000 := by unfold mlen; split <;> omega
end Go.Proofs.YtabhcolfkkfonaaDoor
