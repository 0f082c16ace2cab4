/- NextCell of both, in one form. -/
import Derived.Test.YtgmbofoneeagiaaNxtJ
namespace Go.Proofs.Ytgmbofoneeagiaa
open Go.RowKit

theorem specNextCell_any (base now : Int) (A : Option Addr) (n c : Nat) (els : List PartD) (w : World) (h : Lst PartD.cels 4 w A n els) (hn : n ≤ 1048576) {Z0 Z1 : Int} {N0 : Nat} {D0 : List PartD} {Z3 Z4 Z5 Z6 : Int} {Z7 : Bool} {N1 : Nat} {D1 : List Int} (H : NextOut base els now Z0 Z1 N0 D0 Z3 Z4 Z5 Z6 Z7 N1 D1) :
    Calls Try.prog 40 #[.agg #[.int .i64 base, .slice A n c], .int .i64 now] w fun e w' => (∃ A0 d0 A1 d1, e = .returned (.agg #[.int .i64 Z0, .int .i64 Z1, .slice A0 N0 d0, .int .i64 Z3, .int .i64 Z4, .int .i64 Z5, .int .i64 Z6, .bool Z7, .slice A1 N1 d1]) ∧ (Thing.sep (tP A0 N0 D0) (tR A1 N1 D1)) w' (rng w.heap.size w'.heap.size)) ∧ Below w.heap.size w w' := by
  obtain ⟨rfl, rfl, rfl, rfl, H⟩ := H
  have hl := h.len
  rcases H with ⟨h0, rfl, rfl, rfl, rfl, rfl, rfl, rfl⟩ | ⟨h0, h1, rfl, rfl, rfl, rfl, rfl, rfl, rfl⟩ | ⟨h0, h1, h2, rfl, rfl, rfl, rfl, rfl, rfl, rfl⟩ | ⟨h0, h1, k, e, he, hk, rfl, rfl, rfl, rfl, rfl, rfl, rfl⟩
  · refine (specNextFault_any _ now A n c _ w h _ rfl h0 hn).mono ?_
    rintro e w' ⟨rfl, b⟩
    have hb := b.size
    exact ⟨⟨none, 0, none, 0, rfl, Thing.sep.mk (none_P _ _ w.heap.size) (none_R _ _ _) (Nat.le_refl _) hb⟩, b⟩
  · refine (specNextRange_any _ now A n c _ w h h0 h1 hn).mono ?_
    rintro e w' ⟨rfl, b⟩
    have hb := b.size
    exact ⟨⟨none, 0, none, 0, rfl, Thing.sep.mk (none_P _ _ w.heap.size) (none_R _ _ _) (Nat.le_refl _) hb⟩, b⟩
  · refine (specNextNone_any _ now A n c _ w h h0 h1 hn h2).mono ?_
    rintro e w' ⟨⟨A0, d0, rfl, t⟩, b⟩
    have hb := b.size
    refine ⟨⟨A0, d0, none, 0, ?_, Thing.sep.mk (T := tR none 0 []) (lo := w.heap.size) (mid := w'.heap.size) (hi := w'.heap.size) ?_ (none_R _ _ _) hb (Nat.le_refl _)⟩, b⟩
    · rw [hl]; rfl
    · rw [hl]; exact t
  · refine (specNextSome_any _ now A n c _ w h h0 h1 hn k e he hk).mono ?_
    rintro e' w' ⟨⟨A0, d0, A1, d1, rfl, t⟩, b⟩
    refine ⟨⟨A0, d0, A1, d1, ?_, ?_⟩, b⟩
    · rw [List.length_set, hl]
    · rw [List.length_set, hl]; exact t

theorem implNextCell_any (base now : Int) (A : Option Addr) (n c : Nat) (els : List PartD) (w : World) (h : Lst PartD.cels 4 w A n els) (hn : n ≤ 1048576) {Z0 Z1 : Int} {N0 : Nat} {D0 : List PartD} {Z3 Z4 Z5 Z6 : Int} {Z7 : Bool} {N1 : Nat} {D1 : List Int} (H : NextOut base els now Z0 Z1 N0 D0 Z3 Z4 Z5 Z6 Z7 N1 D1) :
    Calls Try.prog 36 #[.agg #[.int .i64 base, .slice A n c], .int .i64 now] w fun e w' => (∃ A0 d0 A1 d1, e = .returned (.agg #[.int .i64 Z0, .int .i64 Z1, .slice A0 N0 d0, .int .i64 Z3, .int .i64 Z4, .int .i64 Z5, .int .i64 Z6, .bool Z7, .slice A1 N1 d1]) ∧ (Thing.sep (tP A0 N0 D0) (tR A1 N1 D1)) w' (rng w.heap.size w'.heap.size)) ∧ Below w.heap.size w w' := by
  obtain ⟨rfl, rfl, rfl, rfl, H⟩ := H
  have hl := h.len
  rcases H with ⟨h0, rfl, rfl, rfl, rfl, rfl, rfl, rfl⟩ | ⟨h0, h1, rfl, rfl, rfl, rfl, rfl, rfl, rfl⟩ | ⟨h0, h1, h2, rfl, rfl, rfl, rfl, rfl, rfl, rfl⟩ | ⟨h0, h1, k, e, he, hk, rfl, rfl, rfl, rfl, rfl, rfl, rfl⟩
  · refine (implNextFault_any _ now A n c _ w h _ rfl h0 hn).mono ?_
    rintro e w' ⟨rfl, b⟩
    have hb := b.size
    exact ⟨⟨none, 0, none, 0, rfl, Thing.sep.mk (none_P _ _ w.heap.size) (none_R _ _ _) (Nat.le_refl _) hb⟩, b⟩
  · refine (implNextRange_any _ now A n c _ w h h0 h1 hn).mono ?_
    rintro e w' ⟨rfl, b⟩
    have hb := b.size
    exact ⟨⟨none, 0, none, 0, rfl, Thing.sep.mk (none_P _ _ w.heap.size) (none_R _ _ _) (Nat.le_refl _) hb⟩, b⟩
  · refine (implNextNone_any _ now A n c _ w h h0 h1 hn h2).mono ?_
    rintro e w' ⟨⟨A0, d0, rfl, t⟩, b⟩
    have hb := b.size
    refine ⟨⟨A0, d0, none, 0, ?_, Thing.sep.mk (T := tR none 0 []) (lo := w.heap.size) (mid := w'.heap.size) (hi := w'.heap.size) ?_ (none_R _ _ _) hb (Nat.le_refl _)⟩, b⟩
    · rw [hl]; rfl
    · rw [hl]; exact t
  · refine (implNextSome_any _ now A n c _ w h h0 h1 hn k e he hk).mono ?_
    rintro e' w' ⟨⟨A0, d0, A1, d1, rfl, t⟩, b⟩
    refine ⟨⟨A0, d0, A1, d1, ?_, ?_⟩, b⟩
    · rw [List.length_set, hl]
    · rw [List.length_set, hl]; exact t

theorem NextOut.wd {base now Z0 Z1 : Int} {els : List PartD} {N0 : Nat} {D0 : List PartD} {Z3 Z4 Z5 Z6 : Int} {Z7 : Bool} {N1 : Nat} {D1 : List Int} (h : NextOut base els now Z0 Z1 N0 D0 Z3 Z4 Z5 Z6 Z7 N1 D1) : N0 ≤ 2000000 ∧ sumE PartD.wd D0 ≤ 2000000 ∧ (∀ e ∈ D0, e.f0.length ≤ 100000000) ∧ N1 ≤ 2000000 := by
  obtain ⟨h0, h1, h2⟩ := h.bd
  have hl := h.1
  have key : ∀ l : List PartD, (∀ e ∈ l, e.f0.length ≤ 32) → sumE PartD.wd l ≤ 35 * l.length := by
    intro l
    induction l with
    | nil => intro _; simp [sumE]
    | cons x r ih =>
      intro hh
      have a1 := hh x (by simp)
      have a2 := ih fun e he => hh e (by simp [he])
      simp only [sumE, List.length_cons]
      unfold PartD.wd at *
      omega
  have := key D0 h2
  exact ⟨by omega, by omega, fun e he => by have := h2 e he; omega, by omega⟩
end Go.Proofs.Ytgmbofoneeagiaa
