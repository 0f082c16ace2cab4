import Derived.Test.YtgmbofoneeagiaaDoorMakX
import Derived.Test.YtgmbofoneeagiaaDoorPadX
import Derived.Test.YtgmbofoneeagiaaDoorMacX

/-! HashAns -/
/- The answers of the model's hash functions that are of bytes. -/
namespace Go.Proofs.YtgmbofoneeagiaaDoor
open Go.RowKit

def hcode (n : Nat) : Int := if n ≤ 1000 then 0 else 2
def hlen (n k : Nat) : Nat := if n ≤ 1000 then k else 0
def hbytes (n : Nat) (l : List Int) : List Int := if n ≤ 1000 then l else []

/-- the mac's bounds hold: key and data -/
def mok (n m : Nat) : Bool := decide (m ≤ 1000 ∧ n ≤ 64)
def mcode (n m : Nat) : Int := if mok n m = true then 0 else 2
def mlen (n m : Nat) : Nat := if mok n m = true then 32 else 0
def mbytes (n m : Nat) (l : List Int) : List Int := if mok n m = true then l else []

end Go.Proofs.YtgmbofoneeagiaaDoor

/-! HashFns -/
/- PadMessage of the program. -/
namespace Go.Proofs.YtgmbofoneeagiaaDoor
open Go.RowKit

/-- the same, with room for what it holds -/
def BytesAnsC (code : Int) (n : Nat) (l : List Int) (w : World) (e : Ending) (w' : World) : Prop :=
  (∃ A c, e = .returned (.agg #[.int .i64 code, .slice A n c]) ∧ Ow w' w.heap.size A n l ∧ n ≤ c) ∧ Below w.heap.size w w'

theorem hlen_le (n : Nat) : hlen n 32 ≤ 2000 := by unfold hlen; split <;> omega
theorem hpadlen (n : Nat) (l : List Int) (h : l.length = n) : hlen n (padW l).length ≤ 2000 := by
  unfold hlen
  split
  · rw [padW_len]; have := padN_lt l.length; omega
  · omega
theorem mlen_le (n m : Nat) : mlen n m ≤ 2000 := by unfold mlen; split <;> omega
end Go.Proofs.YtgmbofoneeagiaaDoor

/-! KeysAns -/
/- The answer of the model's keys. -/
namespace Go.Proofs.YtgmbofoneeagiaaDoor
open Go.RowKit

/-- the answer with a code and two runs of bytes in memory of its own -/
def PairAns (code : Int) (n m : Nat) (l r : List Int) (w : World) (e : Ending) (w' : World) : Prop :=
  (∃ A c B d, e = .returned (.agg #[.int .i64 code, .slice A n c, .slice B m d]) ∧ Ow w' w.heap.size A n l ∧ Ow w' w.heap.size B m r ∧ Sunder n m A B) ∧ Below w.heap.size w w'

/-- the code of the keys' answer -/
def kcode (n m : Nat) : Int := if n = 32 then (if m ≤ 1000 then 0 else 2) else 3
def klen (n m : Nat) : Nat := if n = 32 ∧ m ≤ 1000 then 32 else 0
def kbytes (n m : Nat) (l : List Int) : List Int := if n = 32 ∧ m ≤ 1000 then l else []

end Go.Proofs.YtgmbofoneeagiaaDoor

/-! HashFns2 -/
/- HashOf, MacOf and KeysOf of the program. -/
namespace Go.Proofs.YtgmbofoneeagiaaDoor
open Go.RowKit

theorem Three.alloc {w : World} {b : Nat} {t : TypeId} {x y z : Value} (h : Three w b t x y z) (o : Obj) (hl : b < w.heap.size) : Three (w.alloc o) b t x y z := (Below.heap_alloc w o b hl).trans h
theorem klen_le (n m : Nat) : klen n m ≤ 2000 := by unfold klen; split <;> omega

end Go.Proofs.YtgmbofoneeagiaaDoor
