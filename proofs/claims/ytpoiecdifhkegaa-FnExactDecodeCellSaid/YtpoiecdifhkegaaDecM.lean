/- A cell read back from its text: plain mathematics. -/
import Derived.Test.YtpoiecdifhkegaaEncA
namespace Go.Proofs.Ytpoiecdifhkegaa
open Go.RowKit

/-- the fields of a text as they stand there -/
def fK (p : List Int) : Int := p.getD 0 0
def fS (p : List Int) : Int := hi ((p.drop 1).take 2)
def fA (p : List Int) : Int := hi ((p.drop 3).take 2)
def fM (p : List Int) : Int := p.getD 5 0
def fL (p : List Int) : Bool := decide (p.getD 6 0 = 1)
def fZ (p : List Int) : Int := p.getD 7 0
def fB (p : List Int) (k : Nat) : List Int := (p.drop 8).take k

/-- whether a text is one of a cell -/
def decB (p : List Int) (k : Nat) : Bool := decide (cellC (fK p) (fS p) (fA p) (fM p) (fL p) k = 0) && decide (cellL (fK p) (fS p) (fA p) (fM p) (fL p) (fB p k) = p)

theorem fZ_of {p : List Int} {k : Nat} (hk : (fB p k).length = k) (h : decB p k = true) : fZ p = (k : Int) := by
  unfold decB at h
  simp only [Bool.and_eq_true, decide_eq_true_eq] at h
  have h2 := h.2
  unfold fZ
  rw [← h2]
  simp [cellL, hi2_eq, hk]

theorem fZ_bd {p : List Int} (h : By p) : 0 ≤ fZ p ∧ fZ p < 256 := h.get 7

theorem fB_len {p : List Int} (h : p.length = 44) (k : Nat) (hk : k ≤ 36) : (fB p k).length = k := by simp [fB, h]; omega
theorem fB_by {p : List Int} (h : By p) (k : Nat) : By (fB p k) := fun x hx => h x (List.mem_of_mem_drop (List.mem_of_mem_take hx))
end Go.Proofs.Ytpoiecdifhkegaa
