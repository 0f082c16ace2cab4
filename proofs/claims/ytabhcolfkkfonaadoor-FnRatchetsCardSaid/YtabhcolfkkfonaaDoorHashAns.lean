/- The answers of the model's hash functions that are of bytes. -/
import Derived.Test.YtabhcolfkkfonaaDoorKeysC
namespace Go.Proofs.YtabhcolfkkfonaaDoor
open Go.RowKit

def hcode (n : Nat) : Int := if n ≤ 1000 then 0 else 2
def hlen (n k : Nat) : Nat := if n ≤ 1000 then k else 0
def hbytes (n : Nat) (l : List Int) : List Int := if n ≤ 1000 then l else []

/-- the mac's bounds hold: key and data -/
def mok (n m : Nat) : Bool := decide (m ≤ 1000 ∧ n ≤ 64)
def mcode (n m : Nat) : Int := if mok n m = true then 0 else 2
def mlen (n m : Nat) : Nat := if mok n m = true then 32 else 0
def mbytes (n m : Nat) (l : List Int) : List Int := if mok n m = true then l else []

end Go.Proofs.YtabhcolfkkfonaaDoor
