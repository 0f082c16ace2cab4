/- What a receiver tells: of the model and of the program. -/
import Derived.Test.YtpaemmoopjkppaaSrfX
namespace Go.Proofs.Ytpaemmoopjkppaa
open Go.RowKit

theorem firstR_zero {E : Type} (f : E → Int) {els : List E} (h : firstF f els = 0) : ∀ e ∈ els, f e = 0 := by
  induction els with
  | nil => intro e he; cases he
  | cons x r ih =>
    simp only [firstF] at h
    by_cases hx : f x ≠ 0
    · rw [if_pos hx] at h; exact absurd h hx
    · rw [if_neg hx] at h
      intro e he
      rcases List.mem_cons.1 he with rfl | he
      · simpa using hx
      · exact ih h e he
theorem allAtR_get {E : Type} (g : Nat → E → Bool) {els : List E} {i : Nat} (h : allAt g i els = true) {k : Nat} {e : E} (he : els[k]? = some e) : g (i + k) e = true := by
  induction els generalizing i k with
  | nil => simp at he
  | cons x r ih =>
    simp only [allAt, Bool.and_eq_true] at h
    cases k with
    | zero => simp at he; subst he; exact h.1
    | succ k =>
      simp at he
      have := ih h.2 he
      rwa [Nat.add_assoc, Nat.add_comm 1] at this

/-- a receiver that is right -/
structure RecOk (next : Int) (els : List HeldD) (np : Nat) : Prop where
  lo : 0 ≤ next
  hi : next ≤ 10000
  part : np ≤ 200
  ahead : ∀ e ∈ els, next + 1 ≤ e.f0 ∧ e.f0 ≤ next + 7 ∧ e.f0 ≤ 9999 ∧ e.f1.length ≤ 32
  up : ∀ k e e', els[k]? = some e → els[k + 1]? = some e' → e.f0 < e'.f0
theorem heldR_zero {next : Int} {e : HeldD} (h : heldF next e = 0) : next + 1 ≤ e.f0 ∧ e.f0 ≤ next + 7 ∧ e.f0 ≤ 9999 ∧ e.f1.length ≤ 32 := by
  unfold heldF at h
  by_cases h1 : aheadB next e.f0 = false
  · rw [if_pos h1] at h; exact absurd h (by decide)
  · rw [if_neg h1] at h
    by_cases h2 : 32 < e.f1.length
    · rw [if_pos h2] at h; exact absurd h (by decide)
    · unfold aheadB at h1
      simp at h1
      omega
theorem recR_zero {next : Int} {els : List HeldD} {np : Nat} (h : recF next els np = 0) : RecOk next els np := by
  unfold recF at h
  by_cases h1 : decide (0 ≤ next ∧ next ≤ 10000) = false
  · rw [if_pos h1] at h; exact absurd h (by decide)
  · rw [if_neg h1] at h
    simp at h1
    by_cases h2 : 200 < np
    · rw [if_pos h2] at h; exact absurd h (by decide)
    · rw [if_neg h2] at h
      by_cases h3 : firstF (heldF next) els ≠ 0
      · rw [if_pos h3] at h; exact absurd h h3
      · rw [if_neg h3] at h
        by_cases h4 : allAt (upB els) 0 els = false
        · rw [if_pos h4] at h; exact absurd h (by decide)
        · simp at h3 h4
          refine ⟨h1.1, h1.2, by omega, fun e he => heldR_zero (firstR_zero _ h3 e he), fun k e e' h5 h6 => ?_⟩
          have := allAtR_get (upB els) h4 h6
          rw [Nat.zero_add] at this
          simp only [upB, h5] at this
          simpa using this

def bitE (next : Int) (e : HeldD) : Nat := 2 ^ (e.f0 - next - 1).toNat
def maskE (next : Int) (els : List HeldD) : Nat := sumE (bitE next) els
theorem mask_lt {next : Int} {els : List HeldD} {np : Nat} (h : RecOk next els np) : ∀ (k : Nat) (e : HeldD), els[k]? = some e → maskE next (els.take k) < bitE next e
  | 0, e, _ => by simp [maskE, sumE]; exact Nat.two_pow_pos _
  | k + 1, e, he => by
    have hk := (List.getElem?_eq_some_iff.1 he).1
    have he' : els[k]? = some els[k] := List.getElem?_eq_getElem (by omega)
    have ih := mask_lt h k _ he'
    have hs : maskE next (els.take (k + 1)) = maskE next (els.take k) + bitE next els[k] := sumE_take_succ (bitE next) he'
    have hu := h.up k _ _ he' he
    have h1 := h.ahead _ (List.mem_of_getElem? he')
    have h2 := h.ahead _ (List.mem_of_getElem? he)
    have h3 : bitE next els[k] * 2 ≤ bitE next e := by
      unfold bitE
      rw [← Nat.pow_succ]
      exact Nat.pow_le_pow_right (by omega) (by omega)
    omega
theorem bit_le {next : Int} {e : HeldD} (h1 : e.f0 ≤ next + 7) : bitE next e ≤ 64 := by
  unfold bitE
  exact Nat.pow_le_pow_right (n := 2) (j := 6) (by omega) (by omega)
theorem or_bit (a d : Nat) (h : a < 2 ^ d) (hd : d ≤ 6) : bits BinOp.or IntKind.i64 (a : Int) ((2 ^ d : Nat) : Int) = ((a + 2 ^ d : Nat) : Int) := by
  have h6 : 2 ^ d ≤ 64 := Nat.pow_le_pow_right (n := 2) (j := 6) (by omega) hd
  rw [or_i64 a (2 ^ d) (by omega) (by omega), Nat.or_comm]
  have := Nat.two_pow_add_eq_or_of_lt h 1
  rw [Nat.mul_one] at this
  rw [← this, Nat.add_comm]

def ackA (next : Int) (els : List HeldD) (np : Nat) : Int := if recF next els np = 0 then next else 0
def ackM (next : Int) (els : List HeldD) (np : Nat) : Int := if recF next els np = 0 then (maskE next els : Int) else 0

end Go.Proofs.Ytpaemmoopjkppaa
