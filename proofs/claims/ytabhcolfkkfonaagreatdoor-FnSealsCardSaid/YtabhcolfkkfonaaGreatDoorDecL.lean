/- The text of a cell without a fault is read back to that cell: plain mathematics (for FnCells and FnSeals). -/
import Derived.Test.YtabhcolfkkfonaaGreatDoorDecX
namespace Go.Proofs.YtabhcolfkkfonaaGreatDoor
open Go.RowKit

/-- the bounds of a cell without a fault, as the document has them -/
theorem cellC_lim {a b c d : Int} {v : Bool} {n : Nat} (h : cellC a b c d v n = 0) : (0 ≤ b ∧ b < 65536) ∧ (0 ≤ c ∧ c < 65536) ∧ n ≤ 32 := by
  unfold cellC at h
  split at h
  · omega
  · split at h
    · rename_i h2
      simp only [inB, decide_eq_true_eq] at h2
      split at h
      · omega
      · omega
    · omega

theorem hi_hi2 {n : Int} (h : 0 ≤ n ∧ n < 65536) : hi (hi2 n) = n := by
  rw [hi2_eq]
  simp only [hi, hiStep, List.foldl_cons, List.foldl_nil]
  omega

theorem fK_cellL (a b c d : Int) (v : Bool) (l : List Int) : fK (cellL a b c d v l) = a := by simp [fK, cellL]
theorem fS_cellL {b : Int} (a c d : Int) (v : Bool) (l : List Int) (h : 0 ≤ b ∧ b < 65536) : fS (cellL a b c d v l) = b := by
  have e : ((cellL a b c d v l).drop 1).take 2 = hi2 b := by simp [cellL, hi2_eq]
  unfold fS
  rw [e, hi_hi2 h]
theorem fA_cellL {c : Int} (a b d : Int) (v : Bool) (l : List Int) (h : 0 ≤ c ∧ c < 65536) : fA (cellL a b c d v l) = c := by
  have e : ((cellL a b c d v l).drop 3).take 2 = hi2 c := by simp [cellL, hi2_eq]
  unfold fA
  rw [e, hi_hi2 h]
theorem fM_cellL (a b c d : Int) (v : Bool) (l : List Int) : fM (cellL a b c d v l) = d := by simp [fM, cellL, hi2_eq]
theorem fL_cellL (a b c d : Int) (v : Bool) (l : List Int) : fL (cellL a b c d v l) = v := by
  cases v <;> simp [fL, cellL, hi2_eq, bit]
theorem fZ_cellL (a b c d : Int) (v : Bool) (l : List Int) : fZ (cellL a b c d v l) = (l.length : Int) := by simp [fZ, cellL, hi2_eq]
theorem fB_cellL (a b c d : Int) (v : Bool) (l : List Int) : fB (cellL a b c d v l) l.length = l := by simp [fB, cellL, hi2_eq]

/-- what is laid for a cell without a fault is a text of a cell, of that one -/
theorem decB_cellL {a b c d : Int} {v : Bool} {l : List Int} (h : cellC a b c d v l.length = 0) : decB (cellL a b c d v l) l.length = true := by
  obtain ⟨hb, hc, _⟩ := cellC_lim h
  unfold decB
  rw [fK_cellL, fS_cellL _ _ _ _ _ hb, fA_cellL _ _ _ _ _ hc, fM_cellL, fL_cellL, fB_cellL]
  simp [h]

/-- a text of a cell is one of a cell without a fault, and of no other -/
theorem decB_of {p : List Int} {k : Nat} (h : decB p k = true) : cellC (fK p) (fS p) (fA p) (fM p) (fL p) k = 0 ∧ cellL (fK p) (fS p) (fA p) (fM p) (fL p) (fB p k) = p := by
  unfold decB at h
  simpa only [Bool.and_eq_true, decide_eq_true_eq] using h

/-- two cells of one text are one cell -/
theorem cellL_inj {a b c d a' b' c' d' : Int} {v v' : Bool} {l l' : List Int} (h : cellC a b c d v l.length = 0) (h' : cellC a' b' c' d' v' l'.length = 0) (e : cellL a b c d v l = cellL a' b' c' d' v' l') : a = a' ∧ b = b' ∧ c = c' ∧ d = d' ∧ v = v' ∧ l = l' := by
  obtain ⟨hb, hc, _⟩ := cellC_lim h
  obtain ⟨hb', hc', _⟩ := cellC_lim h'
  have n : l.length = l'.length := by
    have := congrArg fZ e
    rw [fZ_cellL, fZ_cellL] at this
    omega
  refine ⟨?_, ?_, ?_, ?_, ?_, ?_⟩
  · have := congrArg fK e; rwa [fK_cellL, fK_cellL] at this
  · have := congrArg fS e; rwa [fS_cellL _ _ _ _ _ hb, fS_cellL _ _ _ _ _ hb'] at this
  · have := congrArg fA e; rwa [fA_cellL _ _ _ _ _ hc, fA_cellL _ _ _ _ _ hc'] at this
  · have := congrArg fM e; rwa [fM_cellL, fM_cellL] at this
  · have := congrArg fL e; rwa [fL_cellL, fL_cellL] at this
  · have := congrArg (fun p => fB p l.length) e
    simp only [fB_cellL] at this
    rw [this, n, fB_cellL]
end Go.Proofs.YtabhcolfkkfonaaGreatDoor
