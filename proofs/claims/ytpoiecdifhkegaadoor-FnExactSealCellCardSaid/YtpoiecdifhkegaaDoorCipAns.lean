/- What chapter 3 asks of its arguments, of the model. -/
import Derived.Test.YtpoiecdifhkegaaDoorSealC
namespace Go.Proofs.YtpoiecdifhkegaaDoor
open Go.RowKit

/-- what chapter 3 says of a key, a counter, a nonce and a size -/
def askOk (n1 : Nat) (k : Int) (n2 : Nat) : Bool := decide (n1 = 32) && decide (n2 = 12) && inB k 0 1000000
def askCode (n1 : Nat) (k : Int) (n2 : Nat) (s : Int) : Int := if askOk n1 k n2 = true then (if s ≤ 1000 then 0 else 2) else 3

end Go.Proofs.YtpoiecdifhkegaaDoor
