/- What a receiver makes of a cell with data, as lists. -/
import Derived.Test.YtpaemmoopjkppaaLstX
namespace Go.Proofs.Ytpaemmoopjkppaa
open Go.RowKit

/-- what came, at its place -/
def insH (x : HeldD) : List HeldD → List HeldD
  | [] => [x]
  | e :: r => if x.f0 < e.f0 then x :: e :: r else e :: insH x r
/-- its place -/
def plcH (s : Int) : List HeldD → Nat
  | [] => 0
  | e :: r => if s < e.f0 then 0 else plcH s r + 1
theorem plcH_le (s : Int) : ∀ l : List HeldD, plcH s l ≤ l.length
  | [] => Nat.le_refl _
  | e :: r => by unfold plcH; have := plcH_le s r; split <;> simp <;> omega
theorem insH_eq (x : HeldD) : ∀ l : List HeldD, insH x l = l.take (plcH x.f0 l) ++ x :: l.drop (plcH x.f0 l)
  | [] => rfl
  | e :: r => by
    unfold insH plcH
    split
    · simp
    · rw [insH_eq x r]; simp
theorem insH_len (x : HeldD) (l : List HeldD) : (insH x l).length = l.length + 1 := by
  rw [insH_eq]; have := plcH_le x.f0 l; simp; omega
theorem plcH_before {s : Int} : ∀ {l : List HeldD} {k : Nat} {e : HeldD}, l[k]? = some e → k < plcH s l → ¬ s < e.f0
  | [], k, e, h, _ => by simp at h
  | x :: r, 0, e, h, hk => by
    simp at h; subst h
    unfold plcH at hk
    split at hk
    · omega
    · assumption
  | x :: r, k + 1, e, h, hk => by
    unfold plcH at hk
    split at hk
    · omega
    · exact plcH_before (l := r) (by simpa using h) (by omega)
theorem plcH_at {s : Int} : ∀ {l : List HeldD} {e : HeldD}, l[plcH s l]? = some e → s < e.f0
  | [], e, h => by simp [plcH] at h
  | x :: r, e, h => by
    unfold plcH at h
    split at h
    · simp at h; subst h; assumption
    · exact plcH_at (l := r) (by simpa using h)
/-- one of that number is there -/
def hasH (s : Int) (l : List HeldD) : Bool := l.any fun e => e.f0 == s
/-- it is waited for, and not there yet -/
def canH (next s : Int) (l : List HeldD) : Bool := decide (next ≤ s ∧ s ≤ next + 7) && !hasH s l
/-- how many stand one behind the other from a number on -/
def waitN : Int → List HeldD → Nat
  | _, [] => 0
  | next, e :: r => if e.f0 = next then waitN (next + 1) r + 1 else 0
theorem waitN_le : ∀ (next : Int) (l : List HeldD), waitN next l ≤ l.length
  | _, [] => Nat.le_refl _
  | next, e :: r => by unfold waitN; have := waitN_le (next + 1) r; split <;> simp <;> omega
/-- the message that is not at its end, behind these -/
def putP : List Int → List HeldD → List Int
  | p, [] => p
  | p, e :: r => if 200 < (p ++ e.f1).length then putP [] r else if e.f2 = true then putP [] r else putP (p ++ e.f1) r
/-- the messages that end in these -/
def putM : List Int → List HeldD → List (List Int)
  | _, [] => []
  | p, e :: r => if 200 < (p ++ e.f1).length then putM [] r else if e.f2 = true then (p ++ e.f1) :: putM [] r else putM (p ++ e.f1) r
theorem putP_snoc (p : List Int) (l : List HeldD) (e : HeldD) : putP p (l ++ [e]) = if 200 < (putP p l ++ e.f1).length ∨ e.f2 = true then [] else putP p l ++ e.f1 := by
  induction l generalizing p with
  | nil =>
    show (if 200 < (p ++ e.f1).length then ([] : List Int) else if e.f2 = true then [] else p ++ e.f1) = if 200 < (p ++ e.f1).length ∨ e.f2 = true then [] else p ++ e.f1
    by_cases h : 200 < (p ++ e.f1).length
    · rw [if_pos h, if_pos (Or.inl h)]
    · rw [if_neg h]
      by_cases h2 : e.f2 = true
      · rw [if_pos h2, if_pos (Or.inr h2)]
      · rw [if_neg h2, if_neg (fun h3 => h3.elim h h2)]
  | cons x r ih =>
    simp only [List.cons_append, putP]
    split
    · exact ih _
    · split
      · exact ih _
      · exact ih _
theorem putM_snoc (p : List Int) (l : List HeldD) (e : HeldD) : putM p (l ++ [e]) = putM p l ++ (if 200 < (putP p l ++ e.f1).length then [] else if e.f2 = true then [putP p l ++ e.f1] else []) := by
  induction l generalizing p with
  | nil => exact (List.nil_append _).symm ▸ rfl
  | cons x r ih =>
    simp only [List.cons_append, putM, putP]
    split
    · exact ih _
    · split
      · rw [ih, List.cons_append]
      · exact ih _
theorem putP_len {p : List Int} (h : p.length ≤ 200) (l : List HeldD) : (putP p l).length ≤ 200 := by
  induction l generalizing p with
  | nil => exact h
  | cons x r ih =>
    simp only [putP]
    split
    · exact ih (by simp)
    · split
      · exact ih (by simp)
      · exact ih (by omega)
theorem putM_len {p : List Int} (h : p.length ≤ 200) (l : List HeldD) : (putM p l).length ≤ l.length ∧ ∀ m ∈ putM p l, m.length ≤ 200 := by
  induction l generalizing p with
  | nil => exact ⟨Nat.le_refl _, fun m hm => by cases hm⟩
  | cons x r ih =>
    simp only [putM]
    split
    · have := ih (p := []) (by simp); exact ⟨by simp; omega, this.2⟩
    · split
      · have h1 := ih (p := []) (by simp)
        refine ⟨by simp; omega, fun m hm => ?_⟩
        rcases List.mem_cons.1 hm with rfl | hm
        · omega
        · exact h1.2 m hm
      · have := ih (p := p ++ x.f1) (by omega); exact ⟨by simp; omega, this.2⟩

/-- what it holds, once a cell was heard -/
def nowH (next : Int) (l : List HeldD) (x : HeldD) : List HeldD := if canH next x.f0 l = true then insH x l else l
end Go.Proofs.Ytpaemmoopjkppaa
