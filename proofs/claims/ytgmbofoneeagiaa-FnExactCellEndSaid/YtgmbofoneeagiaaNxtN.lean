/- NextCell of the model. -/
import Derived.Test.YtgmbofoneeagiaaNxtS
namespace Go.Proofs.Ytgmbofoneeagiaa
open Go.RowKit

/-- what NextCell gives -/
def NextOut (base : Int) (els : List PartD) (now Z0 Z1 : Int) (N0 : Nat) (D0 : List PartD) (Z3 Z4 Z5 Z6 : Int) (Z7 : Bool) (N1 : Nat) (D1 : List Int) : Prop :=
  N0 = D0.length ∧ N1 = D1.length ∧ Z5 = 0 ∧ Z6 = 0 ∧
  ((senF base els ≠ 0 ∧ Z0 = senF base els ∧ Z1 = 0 ∧ D0 = [] ∧ Z3 = 0 ∧ Z4 = 0 ∧ Z7 = false ∧ D1 = []) ∨
   (senF base els = 0 ∧ slotB now = false ∧ Z0 = 3 ∧ Z1 = 0 ∧ D0 = [] ∧ Z3 = 0 ∧ Z4 = 0 ∧ Z7 = false ∧ D1 = []) ∨
   (senF base els = 0 ∧ slotB now = true ∧ choose now 0 (-1) els < 0 ∧ Z0 = 0 ∧ Z1 = base ∧ D0 = els ∧ Z3 = 0 ∧ Z4 = 0 ∧ Z7 = false ∧ D1 = []) ∨
   (senF base els = 0 ∧ slotB now = true ∧ ∃ (k : Nat) (e : PartD), els[k]? = some e ∧ choose now 0 (-1) els = (k : Int) ∧ Z0 = 0 ∧ Z1 = base ∧ D0 = els.set k (slotAt now e) ∧ Z3 = 1 ∧ Z4 = base + (k : Int) ∧ Z7 = e.f1 ∧ D1 = e.f0))
theorem firstF_zero {E : Type} (f : E → Int) : ∀ {els : List E}, firstF f els = 0 → ∀ e ∈ els, f e = 0
  | [], _ => fun e he => by cases he
  | x :: r, h => fun e he => by
    simp only [firstF] at h
    by_cases hx : f x ≠ 0
    · rw [if_pos hx] at h; exact absurd h hx
    · rw [if_neg hx] at h
      rcases List.mem_cons.1 he with rfl | he
      · exact Classical.not_not.1 hx
      · exact firstF_zero f h e he
theorem senF_zero {base : Int} {els : List PartD} (h : senF base els = 0) : 0 ≤ base ∧ base ≤ 9975 ∧ els.length ≤ 24 ∧ ∀ e ∈ els, e.f0.length ≤ 32 ∧ -1 ≤ e.f2 ∧ e.f2 ≤ 400 := by
  unfold senF at h
  by_cases h1 : numsB base els.length = false
  · rw [if_pos h1] at h; cases h
  · rw [if_neg h1] at h
    by_cases h2 : 24 < els.length
    · rw [if_pos h2] at h; cases h
    · rw [if_neg h2] at h
      by_cases h3 : firstF partF els ≠ 0
      · rw [if_pos h3] at h; exact absurd h h3
      · have h4 := firstF_zero partF (Classical.not_not.1 h3)
        have h1' : numsB base els.length = true := by simpa using h1
        unfold numsB at h1'
        have h5 := of_decide_eq_true h1'
        refine ⟨h5.1, by omega, by omega, fun e he => ?_⟩
        have h6 := h4 e he
        unfold partF at h6
        by_cases h7 : 32 < e.f0.length
        · rw [if_pos h7] at h6; cases h6
        · rw [if_neg h7] at h6
          by_cases h8 : sentB e = true ∧ slotB e.f2 = false
          · rw [if_pos h8] at h6; cases h6
          · refine ⟨by omega, ?_⟩
            by_cases h9 : e.f2 = -1
            · omega
            · have h10 : sentB e = true := by simpa [sentB] using h9
              have h11 : slotB e.f2 = true := by
                cases hh : slotB e.f2
                · exact absurd ⟨h10, hh⟩ h8
                · rfl
              unfold slotB at h11
              have := of_decide_eq_true h11
              omega
theorem slotB_bd {x : Int} (h : slotB x = true) : 0 ≤ x ∧ x ≤ 400 := by unfold slotB at h; exact of_decide_eq_true h
theorem choose_cases (now : Int) (els : List PartD) : choose now 0 (-1) els < 0 ∨ ∃ (k : Nat) (e : PartD), els[k]? = some e ∧ choose now 0 (-1) els = (k : Int) := by
  rcases choose_bd now els 0 (-1) with h | ⟨h1, h2, _⟩
  · left; omega
  · right
    obtain ⟨k, hk⟩ : ∃ k : Nat, choose now 0 (-1) els = (k : Int) := ⟨(choose now 0 (-1) els).toNat, by omega⟩
    have hl : k < els.length := by omega
    exact ⟨k, els[k], List.getElem?_eq_getElem hl, hk⟩
theorem NextOut.ex (base now : Int) (els : List PartD) : ∃ Z0 Z1 N0 D0 Z3 Z4 Z5 Z6 Z7 N1 D1, NextOut base els now Z0 Z1 N0 D0 Z3 Z4 Z5 Z6 Z7 N1 D1 := by
  by_cases h0 : senF base els = 0
  · cases h1 : slotB now
    · exact ⟨3, 0, 0, [], 0, 0, 0, 0, false, 0, [], rfl, rfl, rfl, rfl, .inr (.inl ⟨h0, h1, rfl, rfl, rfl, rfl, rfl, rfl, rfl⟩)⟩
    · rcases choose_cases now els with h2 | ⟨k, e, he, hk⟩
      · exact ⟨0, base, _, els, 0, 0, 0, 0, false, 0, [], rfl, rfl, rfl, rfl, .inr (.inr (.inl ⟨h0, h1, h2, rfl, rfl, rfl, rfl, rfl, rfl, rfl⟩))⟩
      · exact ⟨0, base, _, els.set k (slotAt now e), 1, base + (k : Int), 0, 0, e.f1, _, e.f0, rfl, rfl, rfl, rfl, .inr (.inr (.inr ⟨h0, h1, k, e, he, hk, rfl, rfl, rfl, rfl, rfl, rfl, rfl⟩))⟩
  · exact ⟨_, 0, 0, [], 0, 0, 0, 0, false, 0, [], rfl, rfl, rfl, rfl, .inl ⟨h0, rfl, rfl, rfl, rfl, rfl, rfl, rfl⟩⟩
theorem NextOut.bd {base now Z0 Z1 : Int} {els : List PartD} {N0 : Nat} {D0 : List PartD} {Z3 Z4 Z5 Z6 : Int} {Z7 : Bool} {N1 : Nat} {D1 : List Int} (h : NextOut base els now Z0 Z1 N0 D0 Z3 Z4 Z5 Z6 Z7 N1 D1) : N0 ≤ 24 ∧ N1 ≤ 32 ∧ (∀ e ∈ D0, e.f0.length ≤ 32) := by
  obtain ⟨rfl, rfl, _, _, h⟩ := h
  rcases h with ⟨_, _, _, rfl, _, _, _, rfl⟩ | ⟨_, _, _, _, rfl, _, _, _, rfl⟩ | ⟨h0, _, _, _, _, rfl, _, _, _, rfl⟩ | ⟨h0, _, k, e, he, _, _, _, rfl, _, _, _, rfl⟩
  · exact ⟨by simp, by simp, fun e he => by cases he⟩
  · exact ⟨by simp, by simp, fun e he => by cases he⟩
  · obtain ⟨_, _, h3, h4⟩ := senF_zero h0
    exact ⟨h3, by simp, fun e he => (h4 e he).1⟩
  · obtain ⟨_, _, h3, h4⟩ := senF_zero h0
    have hm : e ∈ els := List.mem_of_getElem? he
    refine ⟨by rw [List.length_set]; exact h3, (h4 e hm).1, fun x hx => ?_⟩
    rcases List.mem_or_eq_of_mem_set hx with hx | rfl
    · exact (h4 x hx).1
    · exact (h4 e hm).1
theorem none_P (w : World) (lo hi : Nat) : (tP none 0 []) w (rng lo hi) := Lo.nil_ _ _ _
theorem none_R (w : World) (lo hi : Nat) : (tR none 0 []) w (rng lo hi) := Bo.nil_ _ _ _

set_option linter.unusedVariables false in
set_option maxHeartbeats 2000000 in
theorem specNextFault_any (base now : Int) (A : Option Addr) (n c : Nat) (els : List PartD) (w : World) (h : Lst PartD.cels 4 w A n els) (z : Int) (hz : senF base els = z) (h0 : z ≠ 0) (hn : n ≤ 1048576) :
    Calls Try.prog 40 #[.agg #[.int .i64 base, .slice A n c], .int .i64 now] w fun x w' => x = .returned (.agg #[.int .i64 z, .int .i64 0, .slice none 0 0, .int .i64 0, .int .i64 0, .int .i64 0, .int .i64 0, .bool false, .slice none 0 0]) ∧ Below w.heap.size w w' := by
  have hsf := fun W L => specSenderFault_any base A n c els W L hn
  rw [hz] at hsf
  have t0 : (z != 0) = true := by simpa using h0
  clear hz
  have Z0 := (Stc.new (w.alloc (.cells #[.int .i64 base, .slice A n c] 58)) 69 [.int .i64 0, .int .i64 0, .slice none 0 0, .int .i64 0, .int .i64 0, .int .i64 0, .int .i64 0, .bool false, .slice none 0 0] _ rfl)
  have B0 := ab (ab (Below.refl _ w) (.cells #[.int .i64 base, .slice A n c] 58)) (.cells #[.int .i64 0, .int .i64 0, .slice none 0 0, .int .i64 0, .int .i64 0, .int .i64 0, .int .i64 0, .bool false, .slice none 0 0] 69)
  have S0 := (Stc.new w 58 [.int .i64 base, .slice A n c] _ rfl).alloc (.cells #[.int .i64 0, .int .i64 0, .slice none 0 0, .int .i64 0, .int .i64 0, .int .i64 0, .int .i64 0, .bool false, .slice none 0 0] 69)
  simp only [World.size_alloc] at Z0
  have HL := h.below B0
  have s0 := S0.cell (i := 0) rfl
  have s1 := S0.cell (i := 1) rfl
  go_enter Try.func40, Try.ntmps40
  go_wp2_with fail
  refine (hsf _ HL).mono ?_
  rintro x w1 ⟨rfl, b1⟩
  have j2 := Z0.below b1 (by simp)
  have q0 := j2.cell (i := 0) rfl
  have q1 := j2.cell (i := 1) rfl
  have q2 := j2.cell (i := 2) rfl
  have q3 := j2.cell (i := 3) rfl
  have q4 := j2.cell (i := 4) rfl
  have q5 := j2.cell (i := 5) rfl
  have q6 := j2.cell (i := 6) rfl
  have q7 := j2.cell (i := 7) rfl
  have q8 := j2.cell (i := 8) rfl
  have qf := j2.frozen
  go_wp2
  have J := (((((((((j2.set_ (i := 0) (.int .i64 z)).set_ (i := 1) (.int .i64 0)).set_ (i := 2) (.slice none 0 0)).set_ (i := 3) (.int .i64 0)).set_ (i := 4) (.int .i64 0)).set_ (i := 5) (.int .i64 0)).set_ (i := 6) (.int .i64 0)).set_ (i := 7) (.bool false)).set_ (i := 8) (.slice none 0 0))
  have r0 := J.cell (i := 0) rfl
  have r1 := J.cell (i := 1) rfl
  have r2 := J.cell (i := 2) rfl
  have r3 := J.cell (i := 3) rfl
  have r4 := J.cell (i := 4) rfl
  have r5 := J.cell (i := 5) rfl
  have r6 := J.cell (i := 6) rfl
  have r7 := J.cell (i := 7) rfl
  have r8 := J.cell (i := 8) rfl
  refine bodyPost_ret (v := .agg #[.int .i64 z, .int .i64 0, .slice none 0 0, .int .i64 0, .int .i64 0, .int .i64 0, .int .i64 0, .bool false, .slice none 0 0]) (by simp [results, Try.results40, go_sem, r0, r1, r2, r3, r4, r5, r6, r7, r8]) rfl ?_
  have T3 : Tu (fun q => q = w.heap.size + 1) w1 _ := ((((((((((Tu.refl (fun q => q = w.heap.size + 1) w1).set_ (p := ⟨w.heap.size + 1, 0, none⟩) rfl (.int .i64 z)).set_ (p := ⟨w.heap.size + 1, 1, none⟩) rfl (.int .i64 0)).set_ (p := ⟨w.heap.size + 1, 2, none⟩) rfl (.slice none 0 0)).set_ (p := ⟨w.heap.size + 1, 3, none⟩) rfl (.int .i64 0)).set_ (p := ⟨w.heap.size + 1, 4, none⟩) rfl (.int .i64 0)).set_ (p := ⟨w.heap.size + 1, 5, none⟩) rfl (.int .i64 0)).set_ (p := ⟨w.heap.size + 1, 6, none⟩) rfl (.int .i64 0)).set_ (p := ⟨w.heap.size + 1, 7, none⟩) rfl (.bool false)).set_ (p := ⟨w.heap.size + 1, 8, none⟩) rfl (.slice none 0 0))
  exact ⟨rfl, (ac B0 b1).trans (T3.below (C := w.heap.size) (by have := b1.size; simp at this; omega) (fun q hq => by omega))⟩

set_option linter.unusedVariables false in
set_option maxHeartbeats 2000000 in
theorem specNextRange_any (base now : Int) (A : Option Addr) (n c : Nat) (els : List PartD) (w : World) (h : Lst PartD.cels 4 w A n els) (h0 : senF base els = 0) (h1 : slotB now = false) (hn : n ≤ 1048576) :
    Calls Try.prog 40 #[.agg #[.int .i64 base, .slice A n c], .int .i64 now] w fun x w' => x = .returned (.agg #[.int .i64 3, .int .i64 0, .slice none 0 0, .int .i64 0, .int .i64 0, .int .i64 0, .int .i64 0, .bool false, .slice none 0 0]) ∧ Below w.heap.size w w' := by
  have hsf := fun W L => specSenderFault_any base A n c els W L hn
  have hsl := fun W => Slot_any now W
  rw [h0] at hsf
  rw [h1] at hsl
  clear h0 h1
  have Z0 := (Stc.new (w.alloc (.cells #[.int .i64 base, .slice A n c] 58)) 69 [.int .i64 0, .int .i64 0, .slice none 0 0, .int .i64 0, .int .i64 0, .int .i64 0, .int .i64 0, .bool false, .slice none 0 0] _ rfl)
  have B0 := ab (ab (Below.refl _ w) (.cells #[.int .i64 base, .slice A n c] 58)) (.cells #[.int .i64 0, .int .i64 0, .slice none 0 0, .int .i64 0, .int .i64 0, .int .i64 0, .int .i64 0, .bool false, .slice none 0 0] 69)
  have S0 := (Stc.new w 58 [.int .i64 base, .slice A n c] _ rfl).alloc (.cells #[.int .i64 0, .int .i64 0, .slice none 0 0, .int .i64 0, .int .i64 0, .int .i64 0, .int .i64 0, .bool false, .slice none 0 0] 69)
  simp only [World.size_alloc] at Z0
  have HL := h.below B0
  have s0 := S0.cell (i := 0) rfl
  have s1 := S0.cell (i := 1) rfl
  go_enter Try.func40, Try.ntmps40
  go_wp2_with fail
  refine (hsf _ HL).mono ?_
  rintro x w1 ⟨rfl, b1⟩
  have j2 := Z0.below b1 (by simp)
  go_wp2_with fail
  refine (hsl _).mono ?_
  rintro x w2 ⟨rfl, rfl⟩
  have q0 := j2.cell (i := 0) rfl
  have q1 := j2.cell (i := 1) rfl
  have q2 := j2.cell (i := 2) rfl
  have q3 := j2.cell (i := 3) rfl
  have q4 := j2.cell (i := 4) rfl
  have q5 := j2.cell (i := 5) rfl
  have q6 := j2.cell (i := 6) rfl
  have q7 := j2.cell (i := 7) rfl
  have q8 := j2.cell (i := 8) rfl
  have qf := j2.frozen
  go_wp2
  have J := (((((((((j2.set_ (i := 0) (.int .i64 3)).set_ (i := 1) (.int .i64 0)).set_ (i := 2) (.slice none 0 0)).set_ (i := 3) (.int .i64 0)).set_ (i := 4) (.int .i64 0)).set_ (i := 5) (.int .i64 0)).set_ (i := 6) (.int .i64 0)).set_ (i := 7) (.bool false)).set_ (i := 8) (.slice none 0 0))
  have r0 := J.cell (i := 0) rfl
  have r1 := J.cell (i := 1) rfl
  have r2 := J.cell (i := 2) rfl
  have r3 := J.cell (i := 3) rfl
  have r4 := J.cell (i := 4) rfl
  have r5 := J.cell (i := 5) rfl
  have r6 := J.cell (i := 6) rfl
  have r7 := J.cell (i := 7) rfl
  have r8 := J.cell (i := 8) rfl
  refine bodyPost_ret (v := .agg #[.int .i64 3, .int .i64 0, .slice none 0 0, .int .i64 0, .int .i64 0, .int .i64 0, .int .i64 0, .bool false, .slice none 0 0]) (by simp [results, Try.results40, go_sem, r0, r1, r2, r3, r4, r5, r6, r7, r8]) rfl ?_
  have T3 : Tu (fun q => q = w.heap.size + 1) w1 _ := ((((((((((Tu.refl (fun q => q = w.heap.size + 1) w1).set_ (p := ⟨w.heap.size + 1, 0, none⟩) rfl (.int .i64 3)).set_ (p := ⟨w.heap.size + 1, 1, none⟩) rfl (.int .i64 0)).set_ (p := ⟨w.heap.size + 1, 2, none⟩) rfl (.slice none 0 0)).set_ (p := ⟨w.heap.size + 1, 3, none⟩) rfl (.int .i64 0)).set_ (p := ⟨w.heap.size + 1, 4, none⟩) rfl (.int .i64 0)).set_ (p := ⟨w.heap.size + 1, 5, none⟩) rfl (.int .i64 0)).set_ (p := ⟨w.heap.size + 1, 6, none⟩) rfl (.int .i64 0)).set_ (p := ⟨w.heap.size + 1, 7, none⟩) rfl (.bool false)).set_ (p := ⟨w.heap.size + 1, 8, none⟩) rfl (.slice none 0 0))
  exact ⟨rfl, (ac B0 b1).trans (T3.below (C := w.heap.size) (by have := b1.size; simp at this; omega) (fun q hq => by omega))⟩


set_option linter.unusedVariables false in
set_option maxHeartbeats 4000000 in
theorem specNextNone_any (base now : Int) (A : Option Addr) (n c : Nat) (els : List PartD) (w : World) (h : Lst PartD.cels 4 w A n els) (h0 : senF base els = 0) (h1 : slotB now = true) (hn : n ≤ 1048576) (h2 : choose now 0 (-1) els < 0) :
    Calls Try.prog 40 #[.agg #[.int .i64 base, .slice A n c], .int .i64 now] w fun x w' => (∃ A0 d0, x = .returned (.agg #[.int .i64 0, .int .i64 base, .slice A0 n d0, .int .i64 0, .int .i64 0, .int .i64 0, .int .i64 0, .bool false, .slice none 0 0]) ∧ (tP A0 n els) w' (rng w.heap.size w'.heap.size)) ∧ Below w.heap.size w w' := by
  have hsf := fun W L => specSenderFault_any base A n c els W L hn
  have hsl := fun W => Slot_any now W
  obtain ⟨hb0, hb1, hnl, hel⟩ := senF_zero h0
  obtain ⟨hs0, hs1⟩ := slotB_bd h1
  rw [h0] at hsf
  rw [h1] at hsl
  clear h0 h1
  have hcp := fun g W (S : Stc W g [.int .i64 base, .slice A n c] 58) (L : Lst PartD.cels 4 W A n els) => l8Sender_any g base A n c els W S L hn (fun e he => by have := (hel e he).1; omega)
  have Hl := Shut.mk h.len
  have hnx := fun g A c W S L => l8NextNone_any g base now A n c els W S L hn (fun e he => by have := (hel e he).2; omega) hs0 (by omega) h2
  clear hel h2 hnl
  have Z0 := (Stc.new (w.alloc (.cells #[.int .i64 base, .slice A n c] 58)) 69 [.int .i64 0, .int .i64 0, .slice none 0 0, .int .i64 0, .int .i64 0, .int .i64 0, .int .i64 0, .bool false, .slice none 0 0] _ rfl)
  have B0 := ab (ab (Below.refl _ w) (.cells #[.int .i64 base, .slice A n c] 58)) (.cells #[.int .i64 0, .int .i64 0, .slice none 0 0, .int .i64 0, .int .i64 0, .int .i64 0, .int .i64 0, .bool false, .slice none 0 0] 69)
  have S0 := (Stc.new w 58 [.int .i64 base, .slice A n c] _ rfl).alloc (.cells #[.int .i64 0, .int .i64 0, .slice none 0 0, .int .i64 0, .int .i64 0, .int .i64 0, .int .i64 0, .bool false, .slice none 0 0] 69)
  simp only [World.size_alloc] at Z0
  have HL := h.below B0
  have s0 := S0.cell (i := 0) rfl
  have s1 := S0.cell (i := 1) rfl
  go_enter Try.func40, Try.ntmps40
  go_wp2_with fail
  refine (hsf _ HL).mono ?_
  rintro x w1 ⟨rfl, b1⟩
  have hz1 := b1.size
  simp only [World.size_alloc] at hz1
  go_wp2_with fail
  refine (hsl _).mono ?_
  rintro x w1' ⟨rfl, rfl⟩
  go_wp2_with fail
  refine (hcp _ _ (S0.below b1 (by simp; omega)) (HL.below b1)).mono ?_
  rintro x w2 ⟨⟨v, rfl, hap⟩, b2⟩
  obtain ⟨A0, d0, rfl, hrm, hlo⟩ := hap.lo Hl.out
  have hz2 := b2.size
  have G2 := Stc.new w2 58 [.int .i64 base, .slice A0 n d0] _ rfl
  have bG := ab (Below.refl _ w2) (.cells #[.int .i64 base, .slice A0 n d0] 58)
  have hlo2 := hlo.below bG (Nat.le_refl _)
  go_wp2_with fail
  refine (hnx _ _ _ _ G2 hlo2.rows).mono ?_
  rintro x w3 ⟨rfl, b3⟩
  have hz3 := b3.size
  simp only [World.size_alloc] at hz3
  have G3 := (G2.below b3 (by simp))
  have hlo3 := hlo2.below b3 (Nat.le_refl _)
  have j1 := ((Z0.below b1 (by simp)).below b2 (by omega)).below bG (by omega)
  have j2 := (j1.below b3 (by simp; omega)).alloc (.cells #[.int .i64 0, .int .i64 0, .int .i64 0, .int .i64 0, .bool false, .slice none 0 0] 67)
  have g30 := G3.cell (i := 0) rfl
  have g31 := G3.cell (i := 1) rfl
  have hG3 := G3.lt
  have q0 := j2.cell (i := 0) rfl
  have q1 := j2.cell (i := 1) rfl
  have q2 := j2.cell (i := 2) rfl
  have q3 := j2.cell (i := 3) rfl
  have q4 := j2.cell (i := 4) rfl
  have q5 := j2.cell (i := 5) rfl
  have q6 := j2.cell (i := 6) rfl
  have q7 := j2.cell (i := 7) rfl
  have q8 := j2.cell (i := 8) rfl
  have qf := j2.frozen
  have B3 := ab (Below.refl _ w3) (.cells #[.int .i64 0, .int .i64 0, .int .i64 0, .int .i64 0, .bool false, .slice none 0 0] 67)
  have hlo4 := hlo3.below B3 (Nat.le_refl _)
  go_wp2
  have J := (((((((((j2.set_ (i := 0) (.int .i64 0)).set_ (i := 1) (.int .i64 base)).set_ (i := 2) (.slice A0 n d0)).set_ (i := 3) (.int .i64 0)).set_ (i := 4) (.int .i64 0)).set_ (i := 5) (.int .i64 0)).set_ (i := 6) (.int .i64 0)).set_ (i := 7) (.bool false)).set_ (i := 8) (.slice none 0 0))
  have r0 := J.cell (i := 0) rfl
  have r1 := J.cell (i := 1) rfl
  have r2 := J.cell (i := 2) rfl
  have r3 := J.cell (i := 3) rfl
  have r4 := J.cell (i := 4) rfl
  have r5 := J.cell (i := 5) rfl
  have r6 := J.cell (i := 6) rfl
  have r7 := J.cell (i := 7) rfl
  have r8 := J.cell (i := 8) rfl
  refine bodyPost_ret (v := .agg #[.int .i64 0, .int .i64 base, .slice A0 n d0, .int .i64 0, .int .i64 0, .int .i64 0, .int .i64 0, .bool false, .slice none 0 0]) (by simp [results, Try.results40, go_sem, r0, r1, r2, r3, r4, r5, r6, r7, r8]) rfl ?_
  have T3 : Tu (fun q => q = w.heap.size + 1) (w3.alloc (.cells #[.int .i64 0, .int .i64 0, .int .i64 0, .int .i64 0, .bool false, .slice none 0 0] 67)) _ := ((((((((((Tu.refl (fun q => q = w.heap.size + 1) (w3.alloc (.cells #[.int .i64 0, .int .i64 0, .int .i64 0, .int .i64 0, .bool false, .slice none 0 0] 67))).set_ (p := ⟨w.heap.size + 1, 0, none⟩) rfl (.int .i64 0)).set_ (p := ⟨w.heap.size + 1, 1, none⟩) rfl (.int .i64 base)).set_ (p := ⟨w.heap.size + 1, 2, none⟩) rfl (.slice A0 n d0)).set_ (p := ⟨w.heap.size + 1, 3, none⟩) rfl (.int .i64 0)).set_ (p := ⟨w.heap.size + 1, 4, none⟩) rfl (.int .i64 0)).set_ (p := ⟨w.heap.size + 1, 5, none⟩) rfl (.int .i64 0)).set_ (p := ⟨w.heap.size + 1, 6, none⟩) rfl (.int .i64 0)).set_ (p := ⟨w.heap.size + 1, 7, none⟩) rfl (.bool false)).set_ (p := ⟨w.heap.size + 1, 8, none⟩) rfl (.slice none 0 0))
  have hz4 := T3.size
  simp only [World.size_alloc] at hz4
  have hlo5 := hlo4.tu T3 (fun q hq e => by have := hq.1; omega)
  refine ⟨⟨_, _, rfl, (okP _ _ _).widen (T := tP A0 n els) hlo5 (by omega) (by omega)⟩, ?_⟩
  exact (((((ac B0 b1).trans (b2.mono (by omega))).trans (bG.mono (by omega))).trans (b3.mono (by simp; omega))).trans (B3.mono (by omega))).trans (T3.below (C := w.heap.size) (by simp; omega) (fun q hq => by omega))

set_option linter.unusedVariables false in
set_option maxHeartbeats 4000000 in
theorem specNextSome_any (base now : Int) (A : Option Addr) (n c : Nat) (els : List PartD) (w : World) (h : Lst PartD.cels 4 w A n els) (h0 : senF base els = 0) (h1 : slotB now = true) (hn : n ≤ 1048576) (k : Nat) (e : PartD) (he : els[k]? = some e) (h2 : choose now 0 (-1) els = (k : Int)) :
    Calls Try.prog 40 #[.agg #[.int .i64 base, .slice A n c], .int .i64 now] w fun x w' => (∃ A0 d0 A1 d1, x = .returned (.agg #[.int .i64 0, .int .i64 base, .slice A0 n d0, .int .i64 1, .int .i64 (base + (k : Int)), .int .i64 0, .int .i64 0, .bool e.f1, .slice A1 e.f0.length d1]) ∧ (Thing.sep (tP A0 n (els.set k (slotAt now e))) (tR A1 e.f0.length e.f0)) w' (rng w.heap.size w'.heap.size)) ∧ Below w.heap.size w w' := by
  have hsf := fun W L => specSenderFault_any base A n c els W L hn
  have hsl := fun W => Slot_any now W
  obtain ⟨hb0, hb1, hnl, hel⟩ := senF_zero h0
  obtain ⟨hs0, hs1⟩ := slotB_bd h1
  rw [h0] at hsf
  rw [h1] at hsl
  clear h0 h1
  have hcp := fun g W (S : Stc W g [.int .i64 base, .slice A n c] 58) (L : Lst PartD.cels 4 W A n els) => l8Sender_any g base A n c els W S L hn (fun e he => by have := (hel e he).1; omega)
  have Hl := Shut.mk h.len
  have hnx := fun g A c F W S hg hF L => l8NextSome_any g base now A n c els F W S hg hF L hn (fun e he => by have := (hel e he).2; omega) hs0 (by omega) hb0 (by omega) k e he (by have := (hel e (List.mem_of_getElem? he)).1; omega) h2
  clear hel h2 hnl he
  have Z0 := (Stc.new (w.alloc (.cells #[.int .i64 base, .slice A n c] 58)) 69 [.int .i64 0, .int .i64 0, .slice none 0 0, .int .i64 0, .int .i64 0, .int .i64 0, .int .i64 0, .bool false, .slice none 0 0] _ rfl)
  have B0 := ab (ab (Below.refl _ w) (.cells #[.int .i64 base, .slice A n c] 58)) (.cells #[.int .i64 0, .int .i64 0, .slice none 0 0, .int .i64 0, .int .i64 0, .int .i64 0, .int .i64 0, .bool false, .slice none 0 0] 69)
  have S0 := (Stc.new w 58 [.int .i64 base, .slice A n c] _ rfl).alloc (.cells #[.int .i64 0, .int .i64 0, .slice none 0 0, .int .i64 0, .int .i64 0, .int .i64 0, .int .i64 0, .bool false, .slice none 0 0] 69)
  simp only [World.size_alloc] at Z0
  have HL := h.below B0
  have s0 := S0.cell (i := 0) rfl
  have s1 := S0.cell (i := 1) rfl
  go_enter Try.func40, Try.ntmps40
  go_wp2_with fail
  refine (hsf _ HL).mono ?_
  rintro x w1 ⟨rfl, b1⟩
  have hz1 := b1.size
  simp only [World.size_alloc] at hz1
  go_wp2_with fail
  refine (hsl _).mono ?_
  rintro x w1' ⟨rfl, rfl⟩
  go_wp2_with fail
  refine (hcp _ _ (S0.below b1 (by simp; omega)) (HL.below b1)).mono ?_
  rintro x w2 ⟨⟨v, rfl, hap⟩, b2⟩
  obtain ⟨A0, d0, rfl, hrm, hlo⟩ := hap.lo Hl.out
  have hz2 := b2.size
  have G2 := Stc.new w2 58 [.int .i64 base, .slice A0 n d0] _ rfl
  have bG := ab (Below.refl _ w2) (.cells #[.int .i64 base, .slice A0 n d0] 58)
  have hlo2 := hlo.below bG (Nat.le_refl _)
  go_wp2_with fail
  refine (hnx _ _ _ (rng w1.heap.size w2.heap.size) _ G2 (fun hq => by have := hq.2; omega) (fun q hq => by have := hq.2; simp; omega) hlo2).mono ?_
  rintro x w3 ⟨⟨A1, d1, hx, hbo⟩, hlo3, htu⟩
  obtain rfl := hx
  have hz3 := htu.size
  simp only [World.size_alloc] at hz3 hbo
  have G3 := (G2.tu htu (fun hq => by have := hq.2; omega))
  have j1 := ((Z0.below b1 (by simp)).below b2 (by omega)).below bG (by omega)
  have j2 := (j1.tu htu (fun hq => by have := hq.1; omega)).alloc (.cells #[.int .i64 1, .int .i64 (base + (k : Int)), .int .i64 0, .int .i64 0, .bool e.f1, .slice A1 e.f0.length d1] 67)
  have g30 := G3.cell (i := 0) rfl
  have g31 := G3.cell (i := 1) rfl
  have hG3 := G3.lt
  have q0 := j2.cell (i := 0) rfl
  have q1 := j2.cell (i := 1) rfl
  have q2 := j2.cell (i := 2) rfl
  have q3 := j2.cell (i := 3) rfl
  have q4 := j2.cell (i := 4) rfl
  have q5 := j2.cell (i := 5) rfl
  have q6 := j2.cell (i := 6) rfl
  have q7 := j2.cell (i := 7) rfl
  have q8 := j2.cell (i := 8) rfl
  have qf := j2.frozen
  have B3 := ab (Below.refl _ w3) (.cells #[.int .i64 1, .int .i64 (base + (k : Int)), .int .i64 0, .int .i64 0, .bool e.f1, .slice A1 e.f0.length d1] 67)
  have hlo4 := hlo3.below B3 (Nat.le_refl _)
  have hbo4 := hbo.below B3 (Nat.le_refl _)
  go_wp2
  have J := (((((((((j2.set_ (i := 0) (.int .i64 0)).set_ (i := 1) (.int .i64 base)).set_ (i := 2) (.slice A0 n d0)).set_ (i := 3) (.int .i64 1)).set_ (i := 4) (.int .i64 (base + (k : Int)))).set_ (i := 5) (.int .i64 0)).set_ (i := 6) (.int .i64 0)).set_ (i := 7) (.bool e.f1)).set_ (i := 8) (.slice A1 e.f0.length d1))
  have r0 := J.cell (i := 0) rfl
  have r1 := J.cell (i := 1) rfl
  have r2 := J.cell (i := 2) rfl
  have r3 := J.cell (i := 3) rfl
  have r4 := J.cell (i := 4) rfl
  have r5 := J.cell (i := 5) rfl
  have r6 := J.cell (i := 6) rfl
  have r7 := J.cell (i := 7) rfl
  have r8 := J.cell (i := 8) rfl
  refine bodyPost_ret (v := .agg #[.int .i64 0, .int .i64 base, .slice A0 n d0, .int .i64 1, .int .i64 (base + (k : Int)), .int .i64 0, .int .i64 0, .bool e.f1, .slice A1 e.f0.length d1]) (by simp [results, Try.results40, go_sem, r0, r1, r2, r3, r4, r5, r6, r7, r8]) rfl ?_
  have T3 : Tu (fun q => q = w.heap.size + 1) (w3.alloc (.cells #[.int .i64 1, .int .i64 (base + (k : Int)), .int .i64 0, .int .i64 0, .bool e.f1, .slice A1 e.f0.length d1] 67)) _ := ((((((((((Tu.refl (fun q => q = w.heap.size + 1) (w3.alloc (.cells #[.int .i64 1, .int .i64 (base + (k : Int)), .int .i64 0, .int .i64 0, .bool e.f1, .slice A1 e.f0.length d1] 67))).set_ (p := ⟨w.heap.size + 1, 0, none⟩) rfl (.int .i64 0)).set_ (p := ⟨w.heap.size + 1, 1, none⟩) rfl (.int .i64 base)).set_ (p := ⟨w.heap.size + 1, 2, none⟩) rfl (.slice A0 n d0)).set_ (p := ⟨w.heap.size + 1, 3, none⟩) rfl (.int .i64 1)).set_ (p := ⟨w.heap.size + 1, 4, none⟩) rfl (.int .i64 (base + (k : Int)))).set_ (p := ⟨w.heap.size + 1, 5, none⟩) rfl (.int .i64 0)).set_ (p := ⟨w.heap.size + 1, 6, none⟩) rfl (.int .i64 0)).set_ (p := ⟨w.heap.size + 1, 7, none⟩) rfl (.bool e.f1)).set_ (p := ⟨w.heap.size + 1, 8, none⟩) rfl (.slice A1 e.f0.length d1))
  have hz4 := T3.size
  simp only [World.size_alloc] at hz4
  have hlo5 := hlo4.tu T3 (fun q hq e => by have := hq.1; omega)
  have hbo5 := hbo4.tu T3 (fun q hq e => by have := hq.1; omega)
  have hsep := Thing.sep.mk (S := tP A0 n (els.set k (slotAt now e))) (T := tR A1 e.f0.length e.f0) hlo5 ((okR _ _ _).widen hbo5 (Nat.le_succ _) (Nat.le_refl _)) (by omega) (by omega)
  refine ⟨⟨_, _, _, _, rfl, ((okP _ _ _).sep (okR _ _ _)).widen hsep (by omega) (by omega)⟩, ?_⟩
  have b3 := htu.below (C := w.heap.size) (by simp; omega) (fun q hq => by have := hq.1; omega)
  exact (((((ac B0 b1).trans (b2.mono (by omega))).trans (bG.mono (by omega))).trans b3).trans (B3.mono (by omega))).trans (T3.below (C := w.heap.size) (by simp; omega) (fun q hq => by omega))


end Go.Proofs.Ytgmbofoneeagiaa
