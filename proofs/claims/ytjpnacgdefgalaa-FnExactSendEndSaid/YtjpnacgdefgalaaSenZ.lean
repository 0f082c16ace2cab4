/- SendEnd of both, in one form. -/
import Derived.Test.YtjpnacgdefgalaaSenE
namespace Go.Proofs.Ytjpnacgdefgalaa
open Go.RowKit

/-- what an end's answer with no cell gives -/
structure EndZ (Z0 Z1 Z2 Z4 Z8 Z9 Z10 Z11 Z12 : Int) (Z13 : Bool) (N0 : Nat) (D0 : List PartD) (N1 : Nat) (D1 : List HeldD) (N2 : Nat) (D2 : List Int) (N3 : Nat) (D3 : List (List Int)) (N4 : Nat) (D4 : List Int) (N5 : Nat) (D5 : List Int) : Prop where
  hN0 : N0 ≤ 2000000
  hS0 : sumE PartD.wd D0 ≤ 2000000
  hB0 : ∀ e ∈ D0, e.f0.length ≤ 100000000
  hN1 : N1 ≤ 2000000
  hS1 : sumE HeldD.wd D1 ≤ 2000000
  hB1 : ∀ e ∈ D1, e.f1.length ≤ 100000000
  hN2 : N2 ≤ 2000000
  hN3 : N3 ≤ 2000000
  hS3 : sumE List.length D3 ≤ 2000000
  hB3 : ∀ e ∈ D3, e.length ≤ 100000000
  hN4 : N4 ≤ 2000000
  hN5 : N5 ≤ 2000000
theorem EndZ.none_ (Z0 Z1 Z2 Z4 Z8 Z9 Z10 Z11 Z12 : Int) (Z13 : Bool) : EndZ Z0 Z1 Z2 Z4 Z8 Z9 Z10 Z11 Z12 Z13 0 [] 0 [] 0 [] 0 [] 0 [] 0 [] :=
  ⟨by omega, by simp [sumE], (fun e he => by cases he), by omega, by simp [sumE], (fun e he => by cases he), by omega, by omega, by simp [sumE], (fun e he => by cases he), by omega, by omega⟩
theorem sumH_le : ∀ l : List HeldD, (∀ e ∈ l, e.f1.length ≤ 32) → sumE HeldD.wd l ≤ 34 * l.length := by
  intro l
  induction l with
  | nil => intro _; simp [sumE]
  | cons x r ih =>
    intro hh
    have a1 := hh x (by simp)
    have a2 := ih fun e he => hh e (by simp [he])
    simp only [sumE, List.length_cons]
    unfold HeldD.wd at *
    omega
theorem sumB_le (N : Nat) : ∀ l : List (List Int), (∀ e ∈ l, e.length ≤ N) → sumE List.length l ≤ N * l.length := by
  intro l
  induction l with
  | nil => intro _; simp [sumE]
  | cons x r ih =>
    intro hh
    have a1 := hh x (by simp)
    have a2 := ih fun e he => hh e (by simp [he])
    simp only [sumE, List.length_cons, Nat.mul_add, Nat.mul_one]
    omega
theorem firstF_all {E : Type} (f : E → Int) {els : List E} (h : firstF f els = 0) : ∀ e ∈ els, f e = 0 := by
  induction els with
  | nil => intro e he; cases he
  | cons x r ih =>
    intro e he
    simp only [firstF] at h
    by_cases hx : f x = 0
    · rw [if_neg (by simp [hx])] at h
      rcases List.mem_cons.1 he with rfl | he
      · exact hx
      · exact ih h e he
    · rw [if_pos hx] at h; exact absurd h hx
/-- what a right receiver holds -/
theorem recF_zero {next : Int} {hs : List HeldD} {np : Nat} (h : recF next hs np = 0) : (0 ≤ next ∧ next ≤ 10000) ∧ np ≤ 200 ∧ firstF (heldF next) hs = 0 ∧ allAt (upB hs) 0 hs = true := by
  by_cases h1 : 0 ≤ next ∧ next ≤ 10000
  · by_cases h2 : 200 < np
    · rw [recF_many h1 h2] at h; omega
    · by_cases h3 : firstF (heldF next) hs = 0
      · cases h4 : allAt (upB hs) 0 hs
        · rw [recF_form h1 h2 h3 h4] at h; omega
        · exact ⟨h1, by omega, h3, rfl⟩
      · rw [recF_held h1 h2 h3] at h; exact absurd h h3
  · rw [recF_num h1] at h; omega
theorem heldF_zero {next : Int} {e : HeldD} (h : heldF next e = 0) : (next + 1 ≤ e.f0 ∧ e.f0 ≤ next + 7 ∧ e.f0 ≤ 9999) ∧ e.f1.length ≤ 32 := by
  unfold heldF at h
  by_cases h1 : aheadB next e.f0 = false
  · rw [if_pos h1] at h; omega
  · rw [if_neg h1] at h
    have h2 : aheadB next e.f0 = true := by simpa using h1
    have h3 := of_decide_eq_true h2
    by_cases h4 : 32 < e.f1.length
    · rw [if_pos h4] at h; omega
    · exact ⟨h3, by omega⟩
theorem allAt_get {E : Type} (g : Nat → E → Bool) : ∀ (els : List E) (i : Nat), allAt g i els = true → ∀ k e, els[k]? = some e → g (i + k) e = true
  | [], _, _, k, e, h => by simp at h
  | x :: r, i, h, k, e, he => by
    simp only [allAt, Bool.and_eq_true] at h
    cases k with
    | zero => simp at he; subst he; exact h.1
    | succ k =>
      have := allAt_get g r (i + 1) h.2 k e (by simpa using he)
      rw [show i + (k + 1) = i + 1 + k by omega]; exact this
/-- it holds seven at most -/
theorem recF_len {next : Int} {hs : List HeldD} {np : Nat} (h : recF next hs np = 0) : hs.length ≤ 7 := by
  obtain ⟨_, _, h3, h4⟩ := recF_zero h
  have key : ∀ (k : Nat) (e : HeldD), hs[k]? = some e → next + 1 + (k : Int) ≤ e.f0 := by
    intro k
    induction k with
    | zero => intro e he; have := (heldF_zero (firstF_all _ h3 e (List.mem_of_getElem? he))).1; omega
    | succ k ih =>
      intro e he
      have hk : k < hs.length := by have := (List.getElem?_eq_some_iff.1 he).1; omega
      have hp : hs[k]? = some (hs[k]) := List.getElem?_eq_getElem hk
      have h5 := allAt_get _ _ _ h4 (k + 1) e he
      rw [Nat.zero_add] at h5
      have h6 : upB hs (k + 1) e = decide (hs[k].f0 < e.f0) := by
        show (match hs[k]? with | some p => decide (p.f0 < e.f0) | none => true) = _
        rw [hp]
      rw [h6] at h5
      have h7 := of_decide_eq_true h5
      have := ih _ hp
      push_cast
      omega
  rcases Nat.lt_or_ge 7 hs.length with h5 | h5
  · have hp : hs[7]? = some (hs[7]) := List.getElem?_eq_getElem h5
    have h6 := key 7 _ hp
    have := (heldF_zero (firstF_all _ h3 _ (List.mem_of_getElem? hp))).1
    omega
  · omega
theorem gotF_zero {got : List (List Int)} (h : gotF got = 0) : got.length ≤ 200 ∧ ∀ e ∈ got, 0 < e.length ∧ e.length ≤ 200 := by
  by_cases h1 : 200 < got.length
  · rw [gotF_many h1] at h; omega
  · rw [gotF_few h1] at h
    refine ⟨by omega, fun e he => ?_⟩
    have := firstF_all gotE h e he
    unfold gotE at this
    by_cases h2 : mesL e.length = true
    · exact of_decide_eq_true h2
    · rw [if_neg h2] at this; omega

/-- what SendEnd gives -/
def SenOut (slot base : Int) (els : List PartD) (next : Int) (hs : List HeldD) (l : List Int) (got : List (List Int)) (bad : Int) (ms : List Int) (Z0 Z1 Z2 Z4 Z8 : Int) (N0 : Nat) (D0 : List PartD) (N1 : Nat) (D1 : List HeldD) (N2 : Nat) (D2 : List Int) (N3 : Nat) (D3 : List (List Int)) : Prop :=
  (endF slot base els next hs l.length got bad ≠ 0 ∧ Z0 = endF slot base els next hs l.length got bad ∧ Z1 = 0 ∧ Z2 = 0 ∧ Z4 = 0 ∧ Z8 = 0 ∧ N0 = 0 ∧ D0 = [] ∧ N1 = 0 ∧ D1 = [] ∧ N2 = 0 ∧ D2 = [] ∧ N3 = 0 ∧ D3 = []) ∨
  (endF slot base els next hs l.length got bad = 0 ∧ (∃ y N D, SendOut base els ms Z0 y N D) ∧ Z0 ≠ 0 ∧ Z1 = 0 ∧ Z2 = 0 ∧ Z4 = 0 ∧ Z8 = 0 ∧ N0 = 0 ∧ D0 = [] ∧ N1 = 0 ∧ D1 = [] ∧ N2 = 0 ∧ D2 = [] ∧ N3 = 0 ∧ D3 = []) ∨
  (endF slot base els next hs l.length got bad = 0 ∧ Z0 = 0 ∧ SendOut base els ms 0 Z2 N0 D0 ∧ Z1 = slot ∧ Z4 = next ∧ Z8 = bad ∧ N1 = hs.length ∧ D1 = hs ∧ N2 = l.length ∧ D2 = l ∧ N3 = got.length ∧ D3 = got)
theorem SenOut.ex (slot base : Int) (els : List PartD) (next : Int) (hs : List HeldD) (l : List Int) (got : List (List Int)) (bad : Int) (ms : List Int) : ∃ Z0 Z1 Z2 Z4 Z8 N0 D0 N1 D1 N2 D2 N3 D3, SenOut slot base els next hs l got bad ms Z0 Z1 Z2 Z4 Z8 N0 D0 N1 D1 N2 D2 N3 D3 := by
  by_cases h : endF slot base els next hs l.length got bad = 0
  · obtain ⟨z, y, N, D, H⟩ := SendOut.ex base els ms
    by_cases hz : z = 0
    · subst hz
      exact ⟨0, slot, y, next, bad, N, D, hs.length, hs, l.length, l, got.length, got, .inr (.inr ⟨h, rfl, H, rfl, rfl, rfl, rfl, rfl, rfl, rfl, rfl, rfl⟩)⟩
    · exact ⟨z, 0, 0, 0, 0, 0, [], 0, [], 0, [], 0, [], .inr (.inl ⟨h, ⟨y, N, D, H⟩, hz, rfl, rfl, rfl, rfl, rfl, rfl, rfl, rfl, rfl, rfl, rfl, rfl⟩)⟩
  · exact ⟨_, 0, 0, 0, 0, 0, [], 0, [], 0, [], 0, [], .inl ⟨h, rfl, rfl, rfl, rfl, rfl, rfl, rfl, rfl, rfl, rfl, rfl, rfl, rfl⟩⟩
theorem SenOut.wd {slot base : Int} {els : List PartD} {next : Int} {hs : List HeldD} {l : List Int} {got : List (List Int)} {bad : Int} {ms : List Int} {Z0 Z1 Z2 Z4 Z8 : Int} {N0 : Nat} {D0 : List PartD} {N1 : Nat} {D1 : List HeldD} {N2 : Nat} {D2 : List Int} {N3 : Nat} {D3 : List (List Int)} (h : SenOut slot base els next hs l got bad ms Z0 Z1 Z2 Z4 Z8 N0 D0 N1 D1 N2 D2 N3 D3) : EndZ Z0 Z1 Z2 Z4 Z8 0 0 0 0 false N0 D0 N1 D1 N2 D2 N3 D3 0 [] 0 [] := by
  rcases h with ⟨_, _, _, _, _, _, rfl, rfl, rfl, rfl, rfl, rfl, rfl, rfl⟩ | ⟨_, _, _, _, _, _, _, rfl, rfl, rfl, rfl, rfl, rfl, rfl, rfl⟩ | ⟨h0, _, H, _, _, _, rfl, rfl, rfl, rfl, rfl, rfl⟩
  · exact EndZ.none_ _ _ _ _ _ _ _ _ _ _
  · exact EndZ.none_ _ _ _ _ _ _ _ _ _ _
  · obtain ⟨_, e1, e2, e3⟩ := endF_zero h0
    obtain ⟨q1, q2, q3⟩ := H.wd
    obtain ⟨_, r2, r3, _⟩ := recF_zero e2
    obtain ⟨g1, g2⟩ := gotF_zero e3
    have r5 : ∀ e ∈ D1, e.f1.length ≤ 32 := fun e he => (heldF_zero (firstF_all _ r3 e he)).2
    have r6 := sumH_le D1 r5
    have g3 := sumB_le 200 D3 fun e he => (g2 e he).2
    have r7 := recF_len e2
    refine ⟨q1, q2, q3, by omega, ?_, fun e he => by have := r5 e he; omega, by omega, by omega, by omega, fun e he => by have := (g2 e he).2; omega, by omega, by omega⟩
    omega

set_option linter.unusedVariables false in
theorem specSendEnd_any (slot base next bad : Int) (A0 : Option Addr) (n0 c0 : Nat) (els : List PartD) (A1 : Option Addr) (n1 c1 : Nat) (hs : List HeldD) (A2 : Option Addr) (n2 c2 : Nat) (l : List Int) (A3 : Option Addr) (n3 c3 : Nat) (got : List (List Int)) (Bm : Option Addr) (m d : Nat) (ms : List Int) (w : World)
    (h0 : Lst PartD.cels 4 w A0 n0 els) (h1 : Lst HeldD.cels 3 w A1 n1 hs) (h2 : Bs w A2 n2 l) (hz2 : A2 = none → c2 = 0) (h3 : Lst bytC 1 w A3 n3 got) (hm : Bs w Bm m ms) (hmd : m ≤ d) (hn0 : n0 ≤ 1048576) (hn1 : n1 ≤ 1048576) (hb1 : ∀ e ∈ hs, e.f1.length ≤ 1048576) (hn2 : n2 ≤ 1048576) (hn3 : n3 ≤ 1048576) (hb3 : ∀ e ∈ got, e.length ≤ 1048576) (hmm : m ≤ 1048576) {Z0 Z1 Z2 Z4 Z8 : Int} {N0 : Nat} {D0 : List PartD} {N1 : Nat} {D1 : List HeldD} {N2 : Nat} {D2 : List Int} {N3 : Nat} {D3 : List (List Int)} (H : SenOut slot base els next hs l got bad ms Z0 Z1 Z2 Z4 Z8 N0 D0 N1 D1 N2 D2 N3 D3) :
    Calls Try.prog 17 #[.agg #[.int .i64 slot, .int .i64 base, .slice A0 n0 c0, .int .i64 next, .slice A1 n1 c1, .slice A2 n2 c2, .slice A3 n3 c3, .int .i64 bad], .slice Bm m d] w fun e w' => (∃ P0 p0 P1 p1 P2 p2 P3 p3 P4 p4 P5 p5, e = .returned (.agg #[.int .i64 Z0, .int .i64 Z1, .int .i64 Z2, .slice P0 N0 p0, .int .i64 Z4, .slice P1 N1 p1, .slice P2 N2 p2, .slice P3 N3 p3, .int .i64 Z8, .int .i64 0, .int .i64 0, .int .i64 0, .int .i64 0, .bool false, .slice P4 0 p4, .slice P5 0 p5]) ∧ ResB P0 N0 D0 P1 N1 D1 P2 N2 D2 P3 N3 D3 P4 0 [] P5 0 [] w' (rng w.heap.size w'.heap.size)) ∧ Below w.heap.size w w' := by
  have hl := h2.len
  have hl1 := h1.len
  have hl3 := h3.len
  rcases H with ⟨h4, rfl, rfl, rfl, rfl, rfl, rfl, rfl, rfl, rfl, rfl, rfl, rfl, rfl⟩ | ⟨h4, ⟨y, N, D, H⟩, hz, rfl, rfl, rfl, rfl, rfl, rfl, rfl, rfl, rfl, rfl, rfl, rfl⟩ | ⟨h4, rfl, H, e1, e4, e8, rfl, rfl, rfl, rfl, rfl, rfl⟩
  · rw [hl] at h4 ⊢
    refine (specSendEndFault_any slot base next bad A0 n0 c0 els A1 n1 c1 hs A2 n2 c2 l A3 n3 c3 got Bm m d ms w h0 h1 h2 hz2 h3 hm hmd hn0 hn1 hb1 hn2 hn3 hb3 hmm _ rfl h4).mono ?_
    rintro e w' ⟨rfl, b⟩
    exact ⟨⟨none, 0, none, 0, none, 0, none, 0, none, 0, none, 0, rfl, ResB.none_ _ _⟩, b⟩
  · rw [hl] at h4
    refine (specSendEndNo_any slot base next bad A0 n0 c0 els A1 n1 c1 hs A2 n2 c2 l A3 n3 c3 got Bm m d ms w h0 h1 h2 hz2 h3 hm hmd hn0 hn1 hb1 hn2 hn3 hb3 hmm h4 H hz).mono ?_
    rintro e w' ⟨rfl, b⟩
    exact ⟨⟨none, 0, none, 0, none, 0, none, 0, none, 0, none, 0, rfl, ResB.none_ _ _⟩, b⟩
  · rw [hl] at h4
    refine (specSendEndOk_any slot base next bad A0 n0 c0 els A1 n1 c1 _ A2 n2 c2 _ A3 n3 c3 _ Bm m d ms w h0 h1 h2 hz2 h3 hm hmd hn0 hn1 hb1 hn2 hn3 hb3 hmm h4 H).mono ?_
    rintro e w' ⟨⟨P0, p0, P1, p1, P2, p2, P3, p3, rfl, R⟩, b⟩
    rw [hl, hl1, hl3, e1, e4, e8]
    exact ⟨⟨P0, p0, P1, p1, P2, p2, P3, p3, none, 0, none, 0, rfl, ResB.bare R⟩, b⟩

set_option linter.unusedVariables false in
theorem implSendEnd_any (slot base next bad : Int) (A0 : Option Addr) (n0 c0 : Nat) (els : List PartD) (A1 : Option Addr) (n1 c1 : Nat) (hs : List HeldD) (A2 : Option Addr) (n2 c2 : Nat) (l : List Int) (A3 : Option Addr) (n3 c3 : Nat) (got : List (List Int)) (Bm : Option Addr) (m d : Nat) (ms : List Int) (w : World)
    (h0 : Lst PartD.cels 4 w A0 n0 els) (h1 : Lst HeldD.cels 3 w A1 n1 hs) (h2 : Bs w A2 n2 l) (hz2 : A2 = none → c2 = 0) (h3 : Lst bytC 1 w A3 n3 got) (hm : Bs w Bm m ms) (hmd : m ≤ d) (hn0 : n0 ≤ 1048576) (hn1 : n1 ≤ 1048576) (hb1 : ∀ e ∈ hs, e.f1.length ≤ 1048576) (hn2 : n2 ≤ 1048576) (hn3 : n3 ≤ 1048576) (hb3 : ∀ e ∈ got, e.length ≤ 1048576) (hmm : m ≤ 1048576) {Z0 Z1 Z2 Z4 Z8 : Int} {N0 : Nat} {D0 : List PartD} {N1 : Nat} {D1 : List HeldD} {N2 : Nat} {D2 : List Int} {N3 : Nat} {D3 : List (List Int)} (H : SenOut slot base els next hs l got bad ms Z0 Z1 Z2 Z4 Z8 N0 D0 N1 D1 N2 D2 N3 D3) :
    Calls Try.prog 19 #[.agg #[.int .i64 slot, .int .i64 base, .slice A0 n0 c0, .int .i64 next, .slice A1 n1 c1, .slice A2 n2 c2, .slice A3 n3 c3, .int .i64 bad], .slice Bm m d] w fun e w' => (∃ P0 p0 P1 p1 P2 p2 P3 p3 P4 p4 P5 p5, e = .returned (.agg #[.int .i64 Z0, .int .i64 Z1, .int .i64 Z2, .slice P0 N0 p0, .int .i64 Z4, .slice P1 N1 p1, .slice P2 N2 p2, .slice P3 N3 p3, .int .i64 Z8, .int .i64 0, .int .i64 0, .int .i64 0, .int .i64 0, .bool false, .slice P4 0 p4, .slice P5 0 p5]) ∧ ResB P0 N0 D0 P1 N1 D1 P2 N2 D2 P3 N3 D3 P4 0 [] P5 0 [] w' (rng w.heap.size w'.heap.size)) ∧ Below w.heap.size w w' := by
  have hl := h2.len
  have hl1 := h1.len
  have hl3 := h3.len
  rcases H with ⟨h4, rfl, rfl, rfl, rfl, rfl, rfl, rfl, rfl, rfl, rfl, rfl, rfl, rfl⟩ | ⟨h4, ⟨y, N, D, H⟩, hz, rfl, rfl, rfl, rfl, rfl, rfl, rfl, rfl, rfl, rfl, rfl, rfl⟩ | ⟨h4, rfl, H, e1, e4, e8, rfl, rfl, rfl, rfl, rfl, rfl⟩
  · rw [hl] at h4 ⊢
    refine (implSendEndFault_any slot base next bad A0 n0 c0 els A1 n1 c1 hs A2 n2 c2 l A3 n3 c3 got Bm m d ms w h0 h1 h2 hz2 h3 hm hmd hn0 hn1 hb1 hn2 hn3 hb3 hmm _ rfl h4).mono ?_
    rintro e w' ⟨rfl, b⟩
    exact ⟨⟨none, 0, none, 0, none, 0, none, 0, none, 0, none, 0, rfl, ResB.none_ _ _⟩, b⟩
  · rw [hl] at h4
    refine (implSendEndNo_any slot base next bad A0 n0 c0 els A1 n1 c1 hs A2 n2 c2 l A3 n3 c3 got Bm m d ms w h0 h1 h2 hz2 h3 hm hmd hn0 hn1 hb1 hn2 hn3 hb3 hmm h4 H hz).mono ?_
    rintro e w' ⟨rfl, b⟩
    exact ⟨⟨none, 0, none, 0, none, 0, none, 0, none, 0, none, 0, rfl, ResB.none_ _ _⟩, b⟩
  · rw [hl] at h4
    refine (implSendEndOk_any slot base next bad A0 n0 c0 els A1 n1 c1 _ A2 n2 c2 _ A3 n3 c3 _ Bm m d ms w h0 h1 h2 hz2 h3 hm hmd hn0 hn1 hb1 hn2 hn3 hb3 hmm h4 H).mono ?_
    rintro e w' ⟨⟨P0, p0, P1, p1, P2, p2, P3, p3, rfl, R⟩, b⟩
    rw [hl, hl1, hl3, e1, e4, e8]
    exact ⟨⟨P0, p0, P1, p1, P2, p2, P3, p3, none, 0, none, 0, rfl, ResB.bare R⟩, b⟩
end Go.Proofs.Ytjpnacgdefgalaa
