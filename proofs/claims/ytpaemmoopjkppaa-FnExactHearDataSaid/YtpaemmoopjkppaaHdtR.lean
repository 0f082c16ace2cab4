/- What a right receiver holds where a cell comes: bounds; HearData of the model in the program's form. -/
import Derived.Test.YtpaemmoopjkppaaResC
import Derived.Test.YtpaemmoopjkppaaHdtF
import Derived.Test.YtpaemmoopjkppaaHdtY
namespace Go.Proofs.Ytpaemmoopjkppaa
open Go.RowKit

theorem recF_all {next : Int} {hs : List HeldD} {np : Nat} (h : recF next hs np = 0) : ∀ e ∈ hs, next + 1 ≤ e.f0 ∧ e.f1.length ≤ 32 := fun e he => by
  obtain ⟨_, _, h3, _⟩ := recF_zero h
  have := heldF_zero (firstF_all _ h3 e he)
  exact ⟨this.1.1, this.2⟩
theorem recF_next {next : Int} {hs : List HeldD} {np : Nat} (h : recF next hs np = 0) (k : Nat) (a b : HeldD) (ha : hs[k]? = some a) (hb : hs[k + 1]? = some b) : a.f0 < b.f0 := by
  obtain ⟨_, _, _, h4⟩ := recF_zero h
  have h5 := allAt_get _ _ _ h4 (k + 1) b hb
  rw [Nat.zero_add] at h5
  have h6 : upB hs (k + 1) b = decide (a.f0 < b.f0) := by
    show (match hs[k]? with | some p => decide (p.f0 < b.f0) | none => true) = _
    rw [ha]
  rw [h6] at h5
  exact of_decide_eq_true h5
theorem recF_up {next : Int} {hs : List HeldD} {np : Nat} (h : recF next hs np = 0) : ∀ (i j : Nat) (a b : HeldD), hs[i]? = some a → hs[j]? = some b → i < j → a.f0 < b.f0 := by
  intro i j
  induction j with
  | zero => intro a b _ _ hij; omega
  | succ j ih =>
    intro a b ha hb hij
    rcases Nat.lt_or_ge i j with h1 | h1
    · have hj : j < hs.length := by have := (List.getElem?_eq_some_iff.1 hb).1; omega
      have hp : hs[j]? = some (hs[j]) := List.getElem?_eq_getElem hj
      have h2 := ih a _ ha hp h1
      have h3 := recF_next h j _ _ hp hb
      omega
    · obtain rfl : i = j := by omega
      exact recF_next h i _ _ ha hb
theorem insH_mem {x e : HeldD} {l : List HeldD} (h : e ∈ insH x l) : e = x ∨ e ∈ l := by
  rw [insH_eq] at h
  rcases List.mem_append.1 h with h | h
  · exact Or.inr (List.mem_of_mem_take h)
  · rcases List.mem_cons.1 h with h | h
    · exact Or.inl h
    · exact Or.inr (List.mem_of_mem_drop h)
theorem nowH_len (next : Int) (l : List HeldD) (x : HeldD) : (nowH next l x).length ≤ l.length + 1 := by
  unfold nowH
  split
  · rw [insH_len]; exact Nat.le_refl _
  · omega
theorem nowH_all {next : Int} {l : List HeldD} {x : HeldD} (h : ∀ e ∈ l, e.f1.length ≤ 32) (hx : x.f1.length ≤ 32) : ∀ e ∈ nowH next l x, e.f1.length ≤ 32 := by
  intro e he
  unfold nowH at he
  split at he
  · rcases insH_mem he with rfl | he
    · exact hx
    · exact h e he
  · exact h e he
theorem wait_none {next : Int} {l : List HeldD} (h : ∀ e ∈ l, next + 1 ≤ e.f0) : waitN next l = 0 := by
  cases l with
  | nil => rfl
  | cons e r =>
    have := h e (List.mem_cons_self ..)
    unfold waitN
    rw [if_neg (by omega)]

set_option linter.unusedVariables false in
theorem specHdtGood_any (next : Int) (A : Option Addr) (n c : Nat) (els : List HeldD) (A2 : Option Addr) (n2 c2 : Nat) (l : List Int) (k2 k3 : Int) (x : HeldD) (B : Option Addr) (m d : Nat) (w : World) (hbm : Bs w B m x.f1) (hzB : B = none → d = 0) (h : Lst HeldD.cels 3 w A n els) (h2 : Bs w A2 n2 l) (hz2 : A2 = none → c2 = 0) (hz0 : recF next els n2 = 0) (hz : cellC 1 x.f0 k2 k3 x.f2 m = 0) :
    Calls Try.prog 8 #[.agg #[.int .i64 next, .slice A n c, .slice A2 n2 c2], .agg #[.int .i64 1, .int .i64 x.f0, .int .i64 k2, .int .i64 k3, .bool x.f2, .slice B m d]] w fun y w' => (∃ A' n' c' A2' n2' c2' Am nm cm, y = .returned (.agg #[.int .i64 0, .int .i64 (next + ((waitN next (nowH next els x)) : Nat)), .slice A' n' c', .slice A2' n2' c2', .slice Am nm cm]) ∧ n' = ((nowH next els x).drop (waitN next (nowH next els x))).length ∧ n2' = (putP l ((nowH next els x).take (waitN next (nowH next els x)))).length ∧ Rm A' n' c' ∧ (A2' = none → c2' = 0) ∧ (Thing.sep (Thing.sep (tH A' n' ((nowH next els x).drop (waitN next (nowH next els x)))) (tR A2' n2' (putP l ((nowH next els x).take (waitN next (nowH next els x)))))) (tG (.slice Am nm cm) (putM l ((nowH next els x).take (waitN next (nowH next els x)))))) w' (rng w.heap.size w'.heap.size)) ∧ Below w.heap.size w w' := by
  obtain ⟨⟨hb0, hb1⟩, hn2, _, _⟩ := recF_zero hz0
  have hl := h.len
  have h7 := recF_len hz0
  have ha := recF_all hz0
  obtain ⟨_, hm⟩ := cellC_one hz (by omega)
  cases hc : canH next x.f0 els with
  | true =>
    have e : nowH next els x = insH x els := if_pos hc
    rw [e]
    exact specHdtYes_any next A n c els A2 n2 c2 l k2 k3 x B m d w hbm hzB hm h h2 hz2 (by omega) (fun e he => (ha e he).2) hn2 hz0 hz hb0 hb1 hc
  | false =>
    have e : nowH next els x = els := if_neg (by rw [hc]; decide)
    have e0 : waitN next els = 0 := wait_none fun e he => (ha e he).1
    rw [e, e0, List.take_zero, List.drop_zero]
    refine (specHdtNo_any next A n c els A2 n2 c2 l k2 k3 x B m d w h h2 hz2 (by omega) (fun e he => by have := (ha e he).2; omega) (by omega) hz0 hz hb0 hb1 hc).mono ?_
    rintro y w' ⟨⟨A', c', A2', c2', rfl, m1, m2, T⟩, hb⟩
    refine ⟨⟨A', n, c', A2', n2, c2', none, 0, 0, by simp, hl.symm, h2.len.symm, m1, m2.2, ?_⟩, hb⟩
    exact ⟨rng w.heap.size w'.heap.size, fun _ => False, fun b hb => hb, fun b hb => hb.elim, fun b _ hb => hb.elim, T, As.nil_ _ _⟩
end Go.Proofs.Ytpaemmoopjkppaa
