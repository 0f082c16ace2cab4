/- The answers of the model's functions of chapter 3. -/
import Derived.Test.YtpoiecdifhkegaaDoorCipAns
namespace Go.Proofs.YtpoiecdifhkegaaDoor
open Go.RowKit

def okN (c : Int) (n : Nat) : Nat := if c = 0 then n else 0
def okL (c : Int) (l : List Int) : List Int := if c = 0 then l else []
theorem okN_le (c : Int) (n : Nat) : okN c n ≤ n := by unfold okN; split <;> omega
theorem ask_zero {n1 : Nat} {k : Int} {n2 : Nat} {s : Int} (h : askCode n1 k n2 s = 0) : n1 = 32 ∧ n2 = 12 ∧ (0 ≤ k ∧ k ≤ 1000000) ∧ s ≤ 1000 := by
  unfold askCode at h
  split at h
  · rename_i ho
    split at h
    · rename_i hs
      simp [askOk, inB] at ho
      exact ⟨ho.1.1, ho.1.2, ho.2, hs⟩
    · omega
  · omega
/-- the greater one of two lengths -/
def maxN (p q : Nat) : Nat := if p > q then p else q
end Go.Proofs.YtpoiecdifhkegaaDoor
