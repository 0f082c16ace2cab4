/- The answer of the model's keys. -/
import Derived.Test.YtabhcolfkkfonaaDoorHashAns
namespace Go.Proofs.YtabhcolfkkfonaaDoor
open Go.RowKit

/-- the answer with a code and two runs of bytes in memory of its own -/
def PairAns (code : Int) (n m : Nat) (l r : List Int) (w : World) (e : Ending) (w' : World) : Prop :=
  (∃ A c B d, e = .returned (.agg #[.int .i64 code, .slice A n c, .slice B m d]) ∧ Ow w' w.heap.size A n l ∧ Ow w' w.heap.size B m r ∧ Sunder n m A B) ∧ Below w.heap.size w w'

/-- the code of the keys' answer -/
def kcode (n m : Nat) : Int := if n = 32 then (if m ≤ 1000 then 0 else 2) else 3
def klen (n m : Nat) : Nat := if n = 32 ∧ m ≤ 1000 then 32 else 0
def kbytes (n m : Nat) (l : List Int) : List Int := if n = 32 ∧ m ≤ 1000 then l else []

end Go.Proofs.YtabhcolfkkfonaaDoor
