/- CellEnd of both, in one form. -/
import Derived.Test.YtgmbofoneeagiaaCelL
import Derived.Test.YtgmbofoneeagiaaCelP
namespace Go.Proofs.Ytgmbofoneeagiaa
open Go.RowKit

/-- what CellEnd gives -/
def CelOut (slot base : Int) (els : List PartD) (next : Int) (hs : List HeldD) (l : List Int) (got : List (List Int)) (bad : Int) (Z0 Z1 Z2 : Int) (N0 : Nat) (D0 : List PartD) (Z4 : Int) (N1 : Nat) (D1 : List HeldD) (N2 : Nat) (D2 : List Int) (N3 : Nat) (D3 : List (List Int)) (Z8 Z9 Z10 Z11 Z12 : Int) (Z13 : Bool) (N4 : Nat) (D4 : List Int) : Prop :=
  (endF slot base els next hs l.length got bad ≠ 0 ∧ endF slot base els next hs l.length got bad = Z0 ∧ 0 = Z1 ∧ 0 = Z2 ∧ 0 = N0 ∧ [] = D0 ∧ 0 = Z4 ∧ 0 = N1 ∧ [] = D1 ∧ 0 = N2 ∧ [] = D2 ∧ 0 = N3 ∧ [] = D3 ∧ 0 = Z8 ∧ 0 = Z9 ∧ 0 = Z10 ∧ 0 = Z11 ∧ 0 = Z12 ∧ false = Z13 ∧ 0 = N4 ∧ [] = D4) ∨
  (endF slot base els next hs l.length got bad = 0 ∧ 400 < slot ∧ 8 = Z0 ∧ 0 = Z1 ∧ 0 = Z2 ∧ 0 = N0 ∧ [] = D0 ∧ 0 = Z4 ∧ 0 = N1 ∧ [] = D1 ∧ 0 = N2 ∧ [] = D2 ∧ 0 = N3 ∧ [] = D3 ∧ 0 = Z8 ∧ 0 = Z9 ∧ 0 = Z10 ∧ 0 = Z11 ∧ 0 = Z12 ∧ false = Z13 ∧ 0 = N4 ∧ [] = D4) ∨
  (endF slot base els next hs l.length got bad = 0 ∧ slot ≤ 400 ∧ choose slot 0 (-1) els < 0 ∧ 0 = Z0 ∧ slot + 1 = Z1 ∧ base = Z2 ∧ els.length = N0 ∧ els = D0 ∧ next = Z4 ∧ hs.length = N1 ∧ hs = D1 ∧ l.length = N2 ∧ l = D2 ∧ got.length = N3 ∧ got = D3 ∧ bad = Z8 ∧ 0 = Z9 ∧ 0 = Z10 ∧ next = Z11 ∧ (maskE next hs : Int) = Z12 ∧ false = Z13 ∧ 0 = N4 ∧ [] = D4) ∨
  (endF slot base els next hs l.length got bad = 0 ∧ slot ≤ 400 ∧ ∃ (k : Nat) (y : PartD), els[k]? = some y ∧ choose slot 0 (-1) els = (k : Int) ∧ 0 = Z0 ∧ slot + 1 = Z1 ∧ base = Z2 ∧ els.length = N0 ∧ els.set k (slotAt slot y) = D0 ∧ next = Z4 ∧ hs.length = N1 ∧ hs = D1 ∧ l.length = N2 ∧ l = D2 ∧ got.length = N3 ∧ got = D3 ∧ bad = Z8 ∧ 1 = Z9 ∧ base + (k : Int) = Z10 ∧ next = Z11 ∧ (maskE next hs : Int) = Z12 ∧ y.f1 = Z13 ∧ y.f0.length = N4 ∧ y.f0 = D4)
theorem CelOut.ex (slot base : Int) (els : List PartD) (next : Int) (hs : List HeldD) (l : List Int) (got : List (List Int)) (bad : Int) : ∃ Z0 Z1 Z2 N0 D0 Z4 N1 D1 N2 D2 N3 D3 Z8 Z9 Z10 Z11 Z12 Z13 N4 D4, CelOut slot base els next hs l got bad Z0 Z1 Z2 N0 D0 Z4 N1 D1 N2 D2 N3 D3 Z8 Z9 Z10 Z11 Z12 Z13 N4 D4 := by
  by_cases h : endF slot base els next hs l.length got bad = 0
  · by_cases h1 : slot ≤ 400
    · rcases choose_cases slot els with h2 | ⟨k, e, he, hk⟩
      · exact ⟨_, _, _, _, _, _, _, _, _, _, _, _, _, _, _, _, _, _, _, _, .inr (.inr (.inl ⟨h, h1, h2, rfl, rfl, rfl, rfl, rfl, rfl, rfl, rfl, rfl, rfl, rfl, rfl, rfl, rfl, rfl, rfl, rfl, rfl, rfl, rfl⟩))⟩
      · exact ⟨_, _, _, _, _, _, _, _, _, _, _, _, _, _, _, _, _, _, _, _, .inr (.inr (.inr ⟨h, h1, k, e, he, hk, rfl, rfl, rfl, rfl, rfl, rfl, rfl, rfl, rfl, rfl, rfl, rfl, rfl, rfl, rfl, rfl, rfl, rfl, rfl, rfl⟩))⟩
    · exact ⟨_, _, _, _, _, _, _, _, _, _, _, _, _, _, _, _, _, _, _, _, .inr (.inl ⟨h, by omega, rfl, rfl, rfl, rfl, rfl, rfl, rfl, rfl, rfl, rfl, rfl, rfl, rfl, rfl, rfl, rfl, rfl, rfl, rfl, rfl⟩)⟩
  · exact ⟨_, _, _, _, _, _, _, _, _, _, _, _, _, _, _, _, _, _, _, _, .inl ⟨h, rfl, rfl, rfl, rfl, rfl, rfl, rfl, rfl, rfl, rfl, rfl, rfl, rfl, rfl, rfl, rfl, rfl, rfl, rfl, rfl⟩⟩

theorem CelOut.wd {slot base : Int} {els : List PartD} {next : Int} {hs : List HeldD} {l : List Int} {got : List (List Int)} {bad : Int} {Z0 Z1 Z2 : Int} {N0 : Nat} {D0 : List PartD} {Z4 : Int} {N1 : Nat} {D1 : List HeldD} {N2 : Nat} {D2 : List Int} {N3 : Nat} {D3 : List (List Int)} {Z8 Z9 Z10 Z11 Z12 : Int} {Z13 : Bool} {N4 : Nat} {D4 : List Int} (h : CelOut slot base els next hs l got bad Z0 Z1 Z2 N0 D0 Z4 N1 D1 N2 D2 N3 D3 Z8 Z9 Z10 Z11 Z12 Z13 N4 D4) : EndZ Z0 Z1 Z2 Z4 Z8 Z9 Z10 Z11 Z12 Z13 N0 D0 N1 D1 N2 D2 N3 D3 N4 D4 0 [] := by
  have good : ∀ (D : List PartD) (m : Nat) (bo : List Int), endF slot base els next hs l.length got bad = 0 → els.length ≤ 2000000 → sumE PartD.wd D ≤ 2000000 → (∀ e ∈ D, e.f0.length ≤ 100000000) → m ≤ 2000000 → EndZ Z0 Z1 Z2 Z4 Z8 Z9 Z10 Z11 Z12 Z13 els.length D hs.length hs l.length l got.length got m bo 0 [] := fun D m bo h0 q1 q2 q3 q4 => by
    obtain ⟨_, e1, e2, e3⟩ := endF_zero h0
    obtain ⟨_, r2, r3, _⟩ := recF_zero e2
    obtain ⟨g1, g2⟩ := gotF_zero e3
    have r5 : ∀ e ∈ hs, e.f1.length ≤ 32 := fun e he => (heldF_zero (firstF_all _ r3 e he)).2
    have r6 := sumH_le hs r5
    have g3 := sumB_le 200 got fun e he => (g2 e he).2
    have r7 := recF_len e2
    exact ⟨q1, q2, q3, by omega, by omega, fun e he => by have := r5 e he; omega, by omega, by omega, by omega, fun e he => by have := (g2 e he).2; omega, q4, by omega⟩
  rcases h with ⟨_, _, _, _, rfl, rfl, _, rfl, rfl, rfl, rfl, rfl, rfl, _, _, _, _, _, _, rfl, rfl⟩ | ⟨_, _, _, _, _, rfl, rfl, _, rfl, rfl, rfl, rfl, rfl, rfl, _, _, _, _, _, _, rfl, rfl⟩ | ⟨h0, h1, h2, _, _, _, rfl, rfl, _, rfl, rfl, rfl, rfl, rfl, rfl, _, _, _, _, _, _, rfl, rfl⟩ | ⟨h0, h1, k, y, hy, hk, _, _, _, rfl, rfl, _, rfl, rfl, rfl, rfl, rfl, rfl, _, _, _, _, _, _, rfl, rfl⟩
  · exact EndZ.none_ _ _ _ _ _ _ _ _ _ _
  · exact EndZ.none_ _ _ _ _ _ _ _ _ _ _
  · obtain ⟨⟨s0, _⟩, e1, _⟩ := endF_zero h0
    have HN : NextOut base els slot 0 base els.length els 0 0 0 0 false 0 [] := ⟨rfl, rfl, rfl, rfl, .inr (.inr (.inl ⟨e1, by unfold slotB; simp; omega, h2, rfl, rfl, rfl, rfl, rfl, rfl, rfl⟩))⟩
    obtain ⟨q1, q2, q3, q4⟩ := HN.wd
    exact good _ _ _ h0 q1 q2 q3 q4
  · obtain ⟨⟨s0, _⟩, e1, _⟩ := endF_zero h0
    have HN : NextOut base els slot 0 base els.length (els.set k (slotAt slot y)) 1 (base + (k : Int)) 0 0 y.f1 y.f0.length y.f0 := ⟨by rw [List.length_set], rfl, rfl, rfl, .inr (.inr (.inr ⟨e1, by unfold slotB; simp; omega, k, y, hy, hk, rfl, rfl, rfl, rfl, rfl, rfl, rfl⟩))⟩
    obtain ⟨q1, q2, q3, q4⟩ := HN.wd
    exact good _ _ _ h0 q1 q2 q3 q4

set_option linter.unusedVariables false in
theorem specCellEnd_any (slot base next bad : Int) (A0 : Option Addr) (n0 c0 : Nat) (els : List PartD) (A1 : Option Addr) (n1 c1 : Nat) (hs : List HeldD) (A2 : Option Addr) (n2 c2 : Nat) (l : List Int) (A3 : Option Addr) (n3 c3 : Nat) (got : List (List Int)) (w : World)
    (h0 : Lst PartD.cels 4 w A0 n0 els) (h1 : Lst HeldD.cels 3 w A1 n1 hs) (h2 : Bs w A2 n2 l) (hz2 : A2 = none → c2 = 0) (h3 : Lst bytC 1 w A3 n3 got) (hn0 : n0 ≤ 1048576) (hn1 : n1 ≤ 1048576) (hb1 : ∀ e ∈ hs, e.f1.length ≤ 1048576) (hn2 : n2 ≤ 1048576) (hn3 : n3 ≤ 1048576) (hb3 : ∀ e ∈ got, e.length ≤ 1048576) {Z0 Z1 Z2 : Int} {N0 : Nat} {D0 : List PartD} {Z4 : Int} {N1 : Nat} {D1 : List HeldD} {N2 : Nat} {D2 : List Int} {N3 : Nat} {D3 : List (List Int)} {Z8 Z9 Z10 Z11 Z12 : Int} {Z13 : Bool} {N4 : Nat} {D4 : List Int} (H : CelOut slot base els next hs l got bad Z0 Z1 Z2 N0 D0 Z4 N1 D1 N2 D2 N3 D3 Z8 Z9 Z10 Z11 Z12 Z13 N4 D4) :
    Calls Try.prog 73 #[.agg #[.int .i64 slot, .int .i64 base, .slice A0 n0 c0, .int .i64 next, .slice A1 n1 c1, .slice A2 n2 c2, .slice A3 n3 c3, .int .i64 bad]] w fun e w' => (∃ P0 p0 P1 p1 P2 p2 P3 p3 P4 p4 P5 p5, e = .returned (.agg #[.int .i64 Z0, .int .i64 Z1, .int .i64 Z2, .slice P0 N0 p0, .int .i64 Z4, .slice P1 N1 p1, .slice P2 N2 p2, .slice P3 N3 p3, .int .i64 Z8, .int .i64 Z9, .int .i64 Z10, .int .i64 Z11, .int .i64 Z12, .bool Z13, .slice P4 N4 p4, .slice P5 0 p5]) ∧ ResB P0 N0 D0 P1 N1 D1 P2 N2 D2 P3 N3 D3 P4 N4 D4 P5 0 [] w' (rng w.heap.size w'.heap.size)) ∧ Below w.heap.size w w' := by
  have hl := h2.len
  have hl0 := h0.len
  have hl1 := h1.len
  have hl3 := h3.len
  rcases H with ⟨h4, rfl, rfl, rfl, rfl, rfl, rfl, rfl, rfl, rfl, rfl, rfl, rfl, rfl, rfl, rfl, rfl, rfl, rfl, rfl, rfl⟩ | ⟨h4, h5, rfl, rfl, rfl, rfl, rfl, rfl, rfl, rfl, rfl, rfl, rfl, rfl, rfl, rfl, rfl, rfl, rfl, rfl, rfl, rfl⟩ | ⟨h4, h5, h6, rfl, rfl, rfl, rfl, rfl, rfl, rfl, rfl, rfl, rfl, rfl, rfl, rfl, rfl, rfl, rfl, rfl, rfl, rfl, rfl⟩ | ⟨h4, h5, k, y, hy, hk, rfl, rfl, rfl, rfl, rfl, rfl, rfl, rfl, rfl, rfl, rfl, rfl, rfl, rfl, rfl, rfl, rfl, rfl, rfl, rfl⟩
  · rw [hl] at h4 ⊢
    refine (specCellEndFault_any slot base next bad A0 n0 c0 els A1 n1 c1 hs A2 n2 c2 l A3 n3 c3 got w h0 h1 h2 hz2 h3 hn0 hn1 hb1 hn2 hn3 hb3 _ rfl h4).mono ?_
    rintro e w' ⟨rfl, b⟩
    exact ⟨⟨none, 0, none, 0, none, 0, none, 0, none, 0, none, 0, rfl, ResB.none_ _ _⟩, b⟩
  · rw [hl] at h4
    refine (specCellEndState_any slot base next bad A0 n0 c0 els A1 n1 c1 hs A2 n2 c2 l A3 n3 c3 got w h0 h1 h2 hz2 h3 hn0 hn1 hb1 hn2 hn3 hb3 h4 h5).mono ?_
    rintro e w' ⟨rfl, b⟩
    exact ⟨⟨none, 0, none, 0, none, 0, none, 0, none, 0, none, 0, rfl, ResB.none_ _ _⟩, b⟩
  · rw [hl] at h4
    refine (specCellEndNone_any slot base next bad A0 n0 c0 els A1 n1 c1 hs A2 n2 c2 l A3 n3 c3 got w h0 h1 h2 hz2 h3 hn0 hn1 hb1 hn2 hn3 hb3 h4 h5 h6).mono ?_
    rintro e w' ⟨⟨P0, p0, P1, p1, P2, p2, P3, p3, rfl, R⟩, b⟩
    rw [hl, hl0, hl1, hl3]
    exact ⟨⟨P0, p0, P1, p1, P2, p2, P3, p3, none, 0, none, 0, rfl, ResB.bare R⟩, b⟩
  · rw [hl] at h4
    refine (specCellEndSome_any slot base next bad A0 n0 c0 els A1 n1 c1 hs A2 n2 c2 l A3 n3 c3 got w h0 h1 h2 hz2 h3 hn0 hn1 hb1 hn2 hn3 hb3 h4 h5 k y hy hk).mono ?_
    rintro e w' ⟨⟨P0, p0, P1, p1, P2, p2, P3, p3, P4, p4, rfl, R⟩, b⟩
    rw [hl, hl0, hl1, hl3]
    exact ⟨⟨P0, p0, P1, p1, P2, p2, P3, p3, P4, p4, none, 0, rfl, R⟩, b⟩

set_option linter.unusedVariables false in
theorem implCellEnd_any (slot base next bad : Int) (A0 : Option Addr) (n0 c0 : Nat) (els : List PartD) (A1 : Option Addr) (n1 c1 : Nat) (hs : List HeldD) (A2 : Option Addr) (n2 c2 : Nat) (l : List Int) (A3 : Option Addr) (n3 c3 : Nat) (got : List (List Int)) (w : World)
    (h0 : Lst PartD.cels 4 w A0 n0 els) (h1 : Lst HeldD.cels 3 w A1 n1 hs) (h2 : Bs w A2 n2 l) (hz2 : A2 = none → c2 = 0) (h3 : Lst bytC 1 w A3 n3 got) (hn0 : n0 ≤ 1048576) (hn1 : n1 ≤ 1048576) (hb1 : ∀ e ∈ hs, e.f1.length ≤ 1048576) (hn2 : n2 ≤ 1048576) (hn3 : n3 ≤ 1048576) (hb3 : ∀ e ∈ got, e.length ≤ 1048576) {Z0 Z1 Z2 : Int} {N0 : Nat} {D0 : List PartD} {Z4 : Int} {N1 : Nat} {D1 : List HeldD} {N2 : Nat} {D2 : List Int} {N3 : Nat} {D3 : List (List Int)} {Z8 Z9 Z10 Z11 Z12 : Int} {Z13 : Bool} {N4 : Nat} {D4 : List Int} (H : CelOut slot base els next hs l got bad Z0 Z1 Z2 N0 D0 Z4 N1 D1 N2 D2 N3 D3 Z8 Z9 Z10 Z11 Z12 Z13 N4 D4) :
    Calls Try.prog 75 #[.agg #[.int .i64 slot, .int .i64 base, .slice A0 n0 c0, .int .i64 next, .slice A1 n1 c1, .slice A2 n2 c2, .slice A3 n3 c3, .int .i64 bad]] w fun e w' => (∃ P0 p0 P1 p1 P2 p2 P3 p3 P4 p4 P5 p5, e = .returned (.agg #[.int .i64 Z0, .int .i64 Z1, .int .i64 Z2, .slice P0 N0 p0, .int .i64 Z4, .slice P1 N1 p1, .slice P2 N2 p2, .slice P3 N3 p3, .int .i64 Z8, .int .i64 Z9, .int .i64 Z10, .int .i64 Z11, .int .i64 Z12, .bool Z13, .slice P4 N4 p4, .slice P5 0 p5]) ∧ ResB P0 N0 D0 P1 N1 D1 P2 N2 D2 P3 N3 D3 P4 N4 D4 P5 0 [] w' (rng w.heap.size w'.heap.size)) ∧ Below w.heap.size w w' := by
  have hl := h2.len
  have hl0 := h0.len
  have hl1 := h1.len
  have hl3 := h3.len
  rcases H with ⟨h4, rfl, rfl, rfl, rfl, rfl, rfl, rfl, rfl, rfl, rfl, rfl, rfl, rfl, rfl, rfl, rfl, rfl, rfl, rfl, rfl⟩ | ⟨h4, h5, rfl, rfl, rfl, rfl, rfl, rfl, rfl, rfl, rfl, rfl, rfl, rfl, rfl, rfl, rfl, rfl, rfl, rfl, rfl, rfl⟩ | ⟨h4, h5, h6, rfl, rfl, rfl, rfl, rfl, rfl, rfl, rfl, rfl, rfl, rfl, rfl, rfl, rfl, rfl, rfl, rfl, rfl, rfl, rfl⟩ | ⟨h4, h5, k, y, hy, hk, rfl, rfl, rfl, rfl, rfl, rfl, rfl, rfl, rfl, rfl, rfl, rfl, rfl, rfl, rfl, rfl, rfl, rfl, rfl, rfl⟩
  · rw [hl] at h4 ⊢
    refine (implCellEndFault_any slot base next bad A0 n0 c0 els A1 n1 c1 hs A2 n2 c2 l A3 n3 c3 got w h0 h1 h2 hz2 h3 hn0 hn1 hb1 hn2 hn3 hb3 _ rfl h4).mono ?_
    rintro e w' ⟨rfl, b⟩
    exact ⟨⟨none, 0, none, 0, none, 0, none, 0, none, 0, none, 0, rfl, ResB.none_ _ _⟩, b⟩
  · rw [hl] at h4
    refine (implCellEndState_any slot base next bad A0 n0 c0 els A1 n1 c1 hs A2 n2 c2 l A3 n3 c3 got w h0 h1 h2 hz2 h3 hn0 hn1 hb1 hn2 hn3 hb3 h4 h5).mono ?_
    rintro e w' ⟨rfl, b⟩
    exact ⟨⟨none, 0, none, 0, none, 0, none, 0, none, 0, none, 0, rfl, ResB.none_ _ _⟩, b⟩
  · rw [hl] at h4
    refine (implCellEndNone_any slot base next bad A0 n0 c0 els A1 n1 c1 hs A2 n2 c2 l A3 n3 c3 got w h0 h1 h2 hz2 h3 hn0 hn1 hb1 hn2 hn3 hb3 h4 h5 h6).mono ?_
    rintro e w' ⟨⟨P0, p0, P1, p1, P2, p2, P3, p3, rfl, R⟩, b⟩
    rw [hl, hl0, hl1, hl3]
    exact ⟨⟨P0, p0, P1, p1, P2, p2, P3, p3, none, 0, none, 0, rfl, ResB.bare R⟩, b⟩
  · rw [hl] at h4
    refine (implCellEndSome_any slot base next bad A0 n0 c0 els A1 n1 c1 hs A2 n2 c2 l A3 n3 c3 got w h0 h1 h2 hz2 h3 hn0 hn1 hb1 hn2 hn3 hb3 h4 h5 k y hy hk).mono ?_
    rintro e w' ⟨⟨P0, p0, P1, p1, P2, p2, P3, p3, P4, p4, rfl, R⟩, b⟩
    rw [hl, hl0, hl1, hl3]
    exact ⟨⟨P0, p0, P1, p1, P2, p2, P3, p3, P4, p4, none, 0, rfl, R⟩, b⟩

end Go.Proofs.Ytgmbofoneeagiaa
