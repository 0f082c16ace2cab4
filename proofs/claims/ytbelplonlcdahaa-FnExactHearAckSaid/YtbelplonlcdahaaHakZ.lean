/- HearAck of both, in one form. -/
import Derived.Test.YtbelplonlcdahaaHakJ
namespace Go.Proofs.Ytbelplonlcdahaa
open Go.RowKit

/-- what HearAck gives -/
def HearOut (base : Int) (els : List PartD) (ack mask Z0 Z1 : Int) (N0 : Nat) (D0 : List PartD) : Prop :=
  N0 = D0.length ∧
  ((senF base els ≠ 0 ∧ Z0 = senF base els ∧ Z1 = 0 ∧ D0 = []) ∨
   (senF base els = 0 ∧ ackB ack mask = false ∧ Z0 = 3 ∧ Z1 = 0 ∧ D0 = []) ∨
   (senF base els = 0 ∧ ackB ack mask = true ∧ Z0 = 0 ∧ Z1 = (slid base (ackL ack mask base els)).1 ∧ D0 = (slid base (ackL ack mask base els)).2))
theorem HearOut.ex (base : Int) (els : List PartD) (ack mask : Int) : ∃ Z0 Z1 N0 D0, HearOut base els ack mask Z0 Z1 N0 D0 := by
  by_cases h0 : senF base els = 0
  · cases h1 : ackB ack mask
    · exact ⟨3, 0, 0, [], rfl, .inr (.inl ⟨h0, h1, rfl, rfl, rfl⟩)⟩
    · exact ⟨0, _, _, _, rfl, .inr (.inr ⟨h0, h1, rfl, rfl, rfl⟩)⟩
  · exact ⟨_, 0, 0, [], rfl, .inl ⟨h0, rfl, rfl, rfl⟩⟩
theorem slid_sub : ∀ (b : Int) (l : List PartD), (slid b l).2.length ≤ l.length ∧ ∀ e ∈ (slid b l).2, e ∈ l
  | b, [] => ⟨Nat.le_refl _, fun e h => h⟩
  | b, x :: r => by
    simp only [slid]
    by_cases hx : x.f3 = true
    · rw [if_pos hx]
      have := slid_sub (b + 1) r
      exact ⟨by simp only [List.length_cons]; omega, fun e h => List.mem_cons_of_mem _ (this.2 e h)⟩
    · rw [if_neg hx]
      exact ⟨Nat.le_refl _, fun e h => h⟩
theorem ackL_body (ack mask : Int) (N : Nat) : ∀ (base : Int) (l : List PartD), (∀ e ∈ l, e.f0.length ≤ N) → ∀ e ∈ ackL ack mask base l, e.f0.length ≤ N
  | base, [] => fun _ e he => by cases he
  | base, x :: r => fun h e he => by
    unfold ackL at he
    simp only [markE] at he
    rcases List.mem_cons.1 he with rfl | he
    · have hx := h x (by simp)
      unfold ackE
      split
      · exact hx
      · exact hx
    · exact ackL_body ack mask N _ r (fun e he => h e (by simp [he])) e he
theorem HearOut.wd {base ack mask Z0 Z1 : Int} {els : List PartD} {N0 : Nat} {D0 : List PartD} (h : HearOut base els ack mask Z0 Z1 N0 D0) : N0 ≤ 2000000 ∧ sumE PartD.wd D0 ≤ 2000000 ∧ (∀ e ∈ D0, e.f0.length ≤ 100000000) := by
  have key : ∀ l : List PartD, (∀ e ∈ l, e.f0.length ≤ 32) → sumE PartD.wd l ≤ 35 * l.length := by
    intro l
    induction l with
    | nil => intro _; simp [sumE]
    | cons x r ih =>
      intro hh
      have a1 := hh x (by simp)
      have a2 := ih fun e he => hh e (by simp [he])
      simp only [sumE, List.length_cons]
      unfold PartD.wd at *
      omega
  obtain ⟨rfl, h⟩ := h
  rcases h with ⟨_, _, _, rfl⟩ | ⟨_, _, _, _, rfl⟩ | ⟨h0, _, _, _, rfl⟩
  · exact ⟨by simp, by simp [sumE], fun e he => by cases he⟩
  · exact ⟨by simp, by simp [sumE], fun e he => by cases he⟩
  · obtain ⟨_, _, h3, h4⟩ := senF_zero h0
    have h5 := ackL_body ack mask 32 base els fun e he => (h4 e he).1
    have h6 := slid_sub base (ackL ack mask base els)
    have h7 : (ackL ack mask base els).length = els.length := markE_len _ _ _ _
    have h8 := fun e he => h5 e (h6.2 e he)
    have h9 := key _ h8
    exact ⟨by omega, by omega, fun e he => by have := h8 e he; omega⟩

theorem specHearAck_any (base ack mask : Int) (A : Option Addr) (n c : Nat) (els : List PartD) (w : World) (h : Lst PartD.cels 4 w A n els) (hn : n ≤ 1048576) {Z0 Z1 : Int} {N0 : Nat} {D0 : List PartD} (H : HearOut base els ack mask Z0 Z1 N0 D0) :
    Calls Try.prog 34 #[.agg #[.int .i64 base, .slice A n c], .int .i64 ack, .int .i64 mask] w fun e w' => (∃ A0 d0, e = .returned (.agg #[.int .i64 Z0, .int .i64 Z1, .slice A0 N0 d0]) ∧ (tP A0 N0 D0) w' (rng w.heap.size w'.heap.size)) ∧ Below w.heap.size w w' := by
  obtain ⟨rfl, H⟩ := H
  rcases H with ⟨h0, rfl, rfl, rfl⟩ | ⟨h0, h1, rfl, rfl, rfl⟩ | ⟨h0, h1, rfl, rfl, rfl⟩
  · refine (specHearFault_any base ack mask A n c els w h _ rfl h0 hn).mono ?_
    rintro e w' ⟨rfl, b⟩
    exact ⟨⟨none, 0, rfl, none_P _ _ _⟩, b⟩
  · cases hA : inB ack 0 10000
    · refine (specHearRangeA_any base ack mask A n c els w h h0 hA hn).mono ?_
      rintro e w' ⟨rfl, b⟩
      exact ⟨⟨none, 0, rfl, none_P _ _ _⟩, b⟩
    · have hB : inB mask 0 255 = false := by
        cases hB : inB mask 0 255
        · rfl
        · unfold inB at hA hB
          have q1 := of_decide_eq_true hA
          have q2 := of_decide_eq_true hB
          unfold ackB at h1
          have q3 := of_decide_eq_false h1
          exact absurd ⟨q1.1, q1.2, q2.1, q2.2⟩ q3
      refine (specHearRangeB_any base ack mask A n c els w h h0 hA hB hn).mono ?_
      rintro e w' ⟨rfl, b⟩
      exact ⟨⟨none, 0, rfl, none_P _ _ _⟩, b⟩
  · exact specHearOk_any base ack mask A n c els w h h0 h1 hn

theorem implHearAck_any (base ack mask : Int) (A : Option Addr) (n c : Nat) (els : List PartD) (w : World) (h : Lst PartD.cels 4 w A n els) (hn : n ≤ 1048576) {Z0 Z1 : Int} {N0 : Nat} {D0 : List PartD} (H : HearOut base els ack mask Z0 Z1 N0 D0) :
    Calls Try.prog 31 #[.agg #[.int .i64 base, .slice A n c], .int .i64 ack, .int .i64 mask] w fun e w' => (∃ A0 d0, e = .returned (.agg #[.int .i64 Z0, .int .i64 Z1, .slice A0 N0 d0]) ∧ (tP A0 N0 D0) w' (rng w.heap.size w'.heap.size)) ∧ Below w.heap.size w w' := by
  obtain ⟨rfl, H⟩ := H
  rcases H with ⟨h0, rfl, rfl, rfl⟩ | ⟨h0, h1, rfl, rfl, rfl⟩ | ⟨h0, h1, rfl, rfl, rfl⟩
  · refine (implHearFault_any base ack mask A n c els w h _ rfl h0 hn).mono ?_
    rintro e w' ⟨rfl, b⟩
    exact ⟨⟨none, 0, rfl, none_P _ _ _⟩, b⟩
  · refine (implHearRange_any base ack mask A n c els w h h0 h1 hn).mono ?_
    rintro e w' ⟨rfl, b⟩
    exact ⟨⟨none, 0, rfl, none_P _ _ _⟩, b⟩
  · exact implHearOk_any base ack mask A n c els w h h0 h1 hn

end Go.Proofs.Ytbelplonlcdahaa
