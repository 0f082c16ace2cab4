/- The answers of the model's PolyTag and OpenBox. -/
import Derived.Test.YtpoiecdifhkegaaDoorCipFnC
namespace Go.Proofs.YtpoiecdifhkegaaDoor
open Go.RowKit

def polyCode (n m : Nat) : Int := if n = 32 then (if m ≤ 1000 then 0 else 2) else 3

/-- what a box's opening tells: a: what is asked of the arguments; m: how many bytes the box has -/
def openCode (a : Int) (key nonce more box : List Int) : Int :=
  if a = 0 then (if box.length < 16 then 2 else if boxTag key nonce more (box.take (box.length - 16)) = box.drop (box.length - 16) then 0 else 6) else a
def openL (key nonce box : List Int) : List Int := streamL key 1 nonce (box.take (box.length - 16))

end Go.Proofs.YtpoiecdifhkegaaDoor
