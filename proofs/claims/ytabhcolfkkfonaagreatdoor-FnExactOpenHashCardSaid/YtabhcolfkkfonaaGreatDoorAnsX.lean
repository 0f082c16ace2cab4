import Derived.Test.YtabhcolfkkfonaaGreatDoorMdlX

/-! CipAns -/
/- What chapter 3 asks of its arguments, of the model. -/
namespace Go.Proofs.YtabhcolfkkfonaaGreatDoor
open Go.RowKit

/-- what chapter 3 says of a key, a counter, a nonce and a size -/
def askOk (n1 : Nat) (k : Int) (n2 : Nat) : Bool := decide (n1 = 32) && decide (n2 = 12) && inB k 0 1000000
def askCode (n1 : Nat) (k : Int) (n2 : Nat) (s : Int) : Int := if askOk n1 k n2 = true then (if s ≤ 1000 then 0 else 2) else 3

end Go.Proofs.YtabhcolfkkfonaaGreatDoor

/-! CipFnC -/
/- The answers of the model's functions of chapter 3. -/
namespace Go.Proofs.YtabhcolfkkfonaaGreatDoor
open Go.RowKit

def okN (c : Int) (n : Nat) : Nat := if c = 0 then n else 0
def okL (c : Int) (l : List Int) : List Int := if c = 0 then l else []
theorem okN_le (c : Int) (n : Nat) : okN c n ≤ n := by unfold okN; split <;> omega
theorem ask_zero {n1 : Nat} {k : Int} {n2 : Nat} {s : Int} (h : askCode n1 k n2 s = 0) : n1 = 32 ∧ n2 = 12 ∧ (0 ≤ k ∧ k ≤ 1000000) ∧ s ≤ 1000 := by
  unfold askCode at h
  split at h
  · rename_i ho
    split at h
    · rename_i hs
      simp [askOk, inB] at ho
      exact ⟨ho.1.1, ho.1.2, ho.2, hs⟩
    · omega
  · omega
/-- the greater one of two lengths -/
def maxN (p q : Nat) : Nat := if p > q then p else q
end Go.Proofs.YtabhcolfkkfonaaGreatDoor

/-! CipFnD -/
/- The answers of the model's PolyTag and OpenBox. -/
namespace Go.Proofs.YtabhcolfkkfonaaGreatDoor
open Go.RowKit

def polyCode (n m : Nat) : Int := if n = 32 then (if m ≤ 1000 then 0 else 2) else 3

/-- what a box's opening tells: a: what is asked of the arguments; m: how many bytes the box has -/
def openCode (a : Int) (key nonce more box : List Int) : Int :=
  if a = 0 then (if box.length < 16 then 2 else if boxTag key nonce more (box.take (box.length - 16)) = box.drop (box.length - 16) then 0 else 6) else a
def openL (key nonce box : List Int) : List Int := streamL key 1 nonce (box.take (box.length - 16))

end Go.Proofs.YtabhcolfkkfonaaGreatDoor
