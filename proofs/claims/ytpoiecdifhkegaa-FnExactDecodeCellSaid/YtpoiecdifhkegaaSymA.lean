/- The answers that bear a state. -/
import Derived.Test.YtpoiecdifhkegaaSymC
namespace Go.Proofs.Ytpoiecdifhkegaa
open Go.RowKit

/-- a slice has room for what it holds -/
def Roomy (A : Option Addr) (n c : Nat) : Prop := n ≤ c ∧ (A = none → c = 0)

/-- an answer with a code, a state and bytes, in memory of its own -/
def SymAns (x : Int) (n m q p : Nat) (l r s t : List Int) (k : Int) (w : World) (e : Ending) (w' : World) : Prop :=
  (∃ A c B d C f D g, e = .returned (.agg #[.int .i64 x, .slice A n c, .slice B m d, .slice C q f, .int .i64 k, .slice D p g]) ∧
    Rs w' w.heap.size [(A, n, l), (B, m, r), (C, q, s), (D, p, t)] ∧ Roomy D p g) ∧ Below w.heap.size w w'
end Go.Proofs.Ytpoiecdifhkegaa
