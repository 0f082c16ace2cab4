/- SendMessage of both, in one form. -/
import Derived.Test.YtjpnacgdefgalaaSdmJ
import Derived.Test.YtjpnacgdefgalaaNxtZ
namespace Go.Proofs.Ytjpnacgdefgalaa
open Go.RowKit

/-- what SendMessage gives -/
def SendOut (base : Int) (els : List PartD) (l : List Int) (Z0 Z1 : Int) (N0 : Nat) (D0 : List PartD) : Prop :=
  N0 = D0.length ∧
  ((senF base els ≠ 0 ∧ Z0 = senF base els ∧ Z1 = 0 ∧ D0 = []) ∨
   (senF base els = 0 ∧ mesB l.length = false ∧ Z0 = 2 ∧ Z1 = 0 ∧ D0 = []) ∨
   (senF base els = 0 ∧ mesB l.length = true ∧ fullB base els.length l.length = true ∧ Z0 = 7 ∧ Z1 = 0 ∧ D0 = []) ∨
   (senF base els = 0 ∧ mesB l.length = true ∧ fullB base els.length l.length = false ∧ Z0 = 0 ∧ Z1 = base ∧ D0 = els ++ cutL l (cntL l)))
theorem SendOut.ex (base : Int) (els : List PartD) (l : List Int) : ∃ Z0 Z1 N0 D0, SendOut base els l Z0 Z1 N0 D0 := by
  by_cases h0 : senF base els = 0
  · cases h1 : mesB l.length
    · exact ⟨2, 0, 0, [], rfl, .inr (.inl ⟨h0, h1, rfl, rfl, rfl⟩)⟩
    · cases h2 : fullB base els.length l.length
      · exact ⟨0, _, _, _, rfl, .inr (.inr (.inr ⟨h0, h1, h2, rfl, rfl, rfl⟩))⟩
      · exact ⟨7, 0, 0, [], rfl, .inr (.inr (.inl ⟨h0, h1, h2, rfl, rfl, rfl⟩))⟩
  · exact ⟨_, 0, 0, [], rfl, .inl ⟨h0, rfl, rfl, rfl⟩⟩
theorem sumwd_le : ∀ l : List PartD, (∀ e ∈ l, e.f0.length ≤ 32) → sumE PartD.wd l ≤ 35 * l.length := by
  intro l
  induction l with
  | nil => intro _; simp [sumE]
  | cons x r ih =>
    intro hh
    have a1 := hh x (by simp)
    have a2 := ih fun e he => hh e (by simp [he])
    simp only [sumE, List.length_cons]
    unfold PartD.wd at *
    omega
theorem cutL_body (l : List Int) (q : Nat) : ∀ e ∈ cutL l q, e.f0.length ≤ 32 := by
  intro e he
  unfold cutL at he
  obtain ⟨i, _, rfl⟩ := List.mem_map.1 he
  show ((l.drop (32 * i)).take 32).length ≤ 32
  rw [List.length_take]; omega
theorem sendL_body {base : Int} {els : List PartD} (h0 : senF base els = 0) (l : List Int) (q : Nat) : ∀ e ∈ els ++ cutL l q, e.f0.length ≤ 32 := by
  obtain ⟨_, _, _, h4⟩ := senF_zero h0
  intro e he
  rcases List.mem_append.1 he with he | he
  · exact (h4 e he).1
  · exact cutL_body l q e he
theorem SendOut.wd {base Z0 Z1 : Int} {els : List PartD} {l : List Int} {N0 : Nat} {D0 : List PartD} (h : SendOut base els l Z0 Z1 N0 D0) : N0 ≤ 2000000 ∧ sumE PartD.wd D0 ≤ 2000000 ∧ (∀ e ∈ D0, e.f0.length ≤ 100000000) := by
  obtain ⟨rfl, h⟩ := h
  rcases h with ⟨_, _, _, rfl⟩ | ⟨_, _, _, _, rfl⟩ | ⟨_, _, _, _, _, rfl⟩ | ⟨h0, h1, h2, _, _, rfl⟩
  · exact ⟨by simp, by simp [sumE], fun e he => by cases he⟩
  · exact ⟨by simp, by simp [sumE], fun e he => by cases he⟩
  · exact ⟨by simp, by simp [sumE], fun e he => by cases he⟩
  · have h5 := sendL_body h0 l (cntL l)
    have h6 := sumwd_le _ h5
    have h7 : (els ++ cutL l (cntL l)).length ≤ 24 := by
      unfold fullB at h2
      have := of_decide_eq_false (Bool.or_eq_false_iff.1 h2).1
      rw [List.length_append, cutL_len]
      unfold cntL
      omega
    exact ⟨by omega, by omega, fun e he => by have := h5 e he; omega⟩

theorem specSendMessage_any (base : Int) (A : Option Addr) (n c : Nat) (els : List PartD) (Bm : Option Addr) (m d : Nat) (l : List Int) (w : World) (h : Lst PartD.cels 4 w A n els) (hb : Bs w Bm m l) (hmd : m ≤ d) (hn : n ≤ 1048576) (hm : m ≤ 1048576) {Z0 Z1 : Int} {N0 : Nat} {D0 : List PartD} (H : SendOut base els l Z0 Z1 N0 D0) :
    Calls Try.prog 31 #[.agg #[.int .i64 base, .slice A n c], .slice Bm m d] w fun e w' => (∃ A0 d0, e = .returned (.agg #[.int .i64 Z0, .int .i64 Z1, .slice A0 N0 d0]) ∧ (tP A0 N0 D0) w' (rng w.heap.size w'.heap.size)) ∧ Below w.heap.size w w' := by
  obtain ⟨rfl, H⟩ := H
  have hl := hb.len
  have hle := h.len
  rcases H with ⟨h0, rfl, rfl, rfl⟩ | ⟨h0, h1, rfl, rfl, rfl⟩ | ⟨h0, h1, h2, rfl, rfl, rfl⟩ | ⟨h0, h1, h2, rfl, hZ1, rfl⟩
  · refine (specSendFault_any base A n c els Bm m d l w h hb hmd _ rfl h0 hn).mono ?_
    rintro e w' ⟨rfl, b⟩
    exact ⟨⟨none, 0, rfl, none_P _ _ _⟩, b⟩
  · rw [hl] at h1
    have h1 := of_decide_eq_false h1
    by_cases hm0 : m = 0
    · refine (specSendEmpty_any base A n c els Bm m d l w h hb hmd h0 hm0 hn).mono ?_
      rintro e w' ⟨rfl, b⟩
      exact ⟨⟨none, 0, rfl, none_P _ _ _⟩, b⟩
    · refine (specSendMany_any base A n c els Bm m d l w h hb hmd h0 (by omega) hn).mono ?_
      rintro e w' ⟨rfl, b⟩
      exact ⟨⟨none, 0, rfl, none_P _ _ _⟩, b⟩
  · rw [hl] at h1 h2
    rw [hle] at h2
    have h1 := of_decide_eq_true h1
    refine (specSendFull_any base A n c els Bm m d l w h hb hmd h0 h1.1 h1.2 h2 hn).mono ?_
    rintro e w' ⟨rfl, b⟩
    exact ⟨⟨none, 0, rfl, none_P _ _ _⟩, b⟩
  · rw [hl] at h1 h2
    rw [hle] at h2
    have h1 := of_decide_eq_true h1
    have hN : (els ++ cutL l (cntL l)).length = n + cntL l := by rw [List.length_append, cutL_len, hle]
    rw [hN, hZ1]
    exact specSendOk_any base A n c els Bm m d l w h hb hmd h0 h1.1 h1.2 h2 hn

theorem implSendMessage_any (base : Int) (A : Option Addr) (n c : Nat) (els : List PartD) (Bm : Option Addr) (m d : Nat) (l : List Int) (w : World) (h : Lst PartD.cels 4 w A n els) (hb : Bs w Bm m l) (hmd : m ≤ d) (hn : n ≤ 1048576) (hm : m ≤ 1048576) {Z0 Z1 : Int} {N0 : Nat} {D0 : List PartD} (H : SendOut base els l Z0 Z1 N0 D0) :
    Calls Try.prog 33 #[.agg #[.int .i64 base, .slice A n c], .slice Bm m d] w fun e w' => (∃ A0 d0, e = .returned (.agg #[.int .i64 Z0, .int .i64 Z1, .slice A0 N0 d0]) ∧ (tP A0 N0 D0) w' (rng w.heap.size w'.heap.size)) ∧ Below w.heap.size w w' := by
  obtain ⟨rfl, H⟩ := H
  have hl := hb.len
  have hle := h.len
  rcases H with ⟨h0, rfl, rfl, rfl⟩ | ⟨h0, h1, rfl, rfl, rfl⟩ | ⟨h0, h1, h2, rfl, rfl, rfl⟩ | ⟨h0, h1, h2, rfl, hZ1, rfl⟩
  · refine (implSendFault_any base A n c els Bm m d l w h hb hmd _ rfl h0 hn).mono ?_
    rintro e w' ⟨rfl, b⟩
    exact ⟨⟨none, 0, rfl, none_P _ _ _⟩, b⟩
  · rw [hl] at h1
    refine (implSendMany_any base A n c els Bm m d l w h hb hmd h0 h1 hm hn).mono ?_
    rintro e w' ⟨rfl, b⟩
    exact ⟨⟨none, 0, rfl, none_P _ _ _⟩, b⟩
  · rw [hl] at h1 h2
    rw [hle] at h2
    refine (implSendFull_any base A n c els Bm m d l w h hb hmd h0 h1 h2 hn).mono ?_
    rintro e w' ⟨rfl, b⟩
    exact ⟨⟨none, 0, rfl, none_P _ _ _⟩, b⟩
  · rw [hl] at h1 h2
    rw [hle] at h2
    have hN : (els ++ cutL l (cntL l)).length = n + cntL l := by rw [List.length_append, cutL_len, hle]
    rw [hN, hZ1]
    exact implSendOk_any base A n c els Bm m d l w h hb hmd h0 h1 h2 hn
end Go.Proofs.Ytjpnacgdefgalaa
