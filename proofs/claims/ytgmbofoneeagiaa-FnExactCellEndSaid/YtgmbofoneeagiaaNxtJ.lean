/- NextCell of the program. -/
import Derived.Test.YtgmbofoneeagiaaNxtI
import Derived.Deep.CutRange
import Derived.BigRegion
namespace Go.Proofs.Ytgmbofoneeagiaa
open Go.RowKit

set_option linter.unusedVariables false in
set_option maxHeartbeats 2000000 in
theorem implNextFault_any (base now : Int) (A : Option Addr) (n c : Nat) (els : List PartD) (w : World) (h : Lst PartD.cels 4 w A n els) (z : Int) (hz : senF base els = z) (h0 : z ≠ 0) (hn : n ≤ 1048576) :
    Calls Try.prog 36 #[.agg #[.int .i64 base, .slice A n c], .int .i64 now] w fun x w' => x = .returned (.agg #[.int .i64 z, .int .i64 0, .slice none 0 0, .int .i64 0, .int .i64 0, .int .i64 0, .int .i64 0, .bool false, .slice none 0 0]) ∧ Below w.heap.size w w' := by
  have hsf := fun W L => implSenderFault_any base A n c els W L hn
  rw [hz] at hsf
  have t0 : (z != 0) = true := by simpa using h0
  clear hz
  have Z0 := (Stc.new (w.alloc (.cells #[.int .i64 base, .slice A n c] 58)) 69 [.int .i64 0, .int .i64 0, .slice none 0 0, .int .i64 0, .int .i64 0, .int .i64 0, .int .i64 0, .bool false, .slice none 0 0] _ rfl)
  have B0 := ab (ab (Below.refl _ w) (.cells #[.int .i64 base, .slice A n c] 58)) (.cells #[.int .i64 0, .int .i64 0, .slice none 0 0, .int .i64 0, .int .i64 0, .int .i64 0, .int .i64 0, .bool false, .slice none 0 0] 69)
  have S0 := (Stc.new w 58 [.int .i64 base, .slice A n c] _ rfl).alloc (.cells #[.int .i64 0, .int .i64 0, .slice none 0 0, .int .i64 0, .int .i64 0, .int .i64 0, .int .i64 0, .bool false, .slice none 0 0] 69)
  simp only [World.size_alloc] at Z0
  have HL := h.below B0
  have s0 := S0.cell (i := 0) rfl
  have s1 := S0.cell (i := 1) rfl
  go_enter Try.func36, Try.ntmps36
  go_wp2_with fail
  refine (hsf _ HL).mono ?_
  rintro x w1 ⟨rfl, b1⟩
  have j2 := Z0.below b1 (by simp)
  have q0 := j2.cell (i := 0) rfl
  have q1 := j2.cell (i := 1) rfl
  have q2 := j2.cell (i := 2) rfl
  have q3 := j2.cell (i := 3) rfl
  have q4 := j2.cell (i := 4) rfl
  have q5 := j2.cell (i := 5) rfl
  have q6 := j2.cell (i := 6) rfl
  have q7 := j2.cell (i := 7) rfl
  have q8 := j2.cell (i := 8) rfl
  have qf := j2.frozen
  go_wp2
  have J := (((((((((j2.set_ (i := 0) (.int .i64 z)).set_ (i := 1) (.int .i64 0)).set_ (i := 2) (.slice none 0 0)).set_ (i := 3) (.int .i64 0)).set_ (i := 4) (.int .i64 0)).set_ (i := 5) (.int .i64 0)).set_ (i := 6) (.int .i64 0)).set_ (i := 7) (.bool false)).set_ (i := 8) (.slice none 0 0))
  have r0 := J.cell (i := 0) rfl
  have r1 := J.cell (i := 1) rfl
  have r2 := J.cell (i := 2) rfl
  have r3 := J.cell (i := 3) rfl
  have r4 := J.cell (i := 4) rfl
  have r5 := J.cell (i := 5) rfl
  have r6 := J.cell (i := 6) rfl
  have r7 := J.cell (i := 7) rfl
  have r8 := J.cell (i := 8) rfl
  refine bodyPost_ret (v := .agg #[.int .i64 z, .int .i64 0, .slice none 0 0, .int .i64 0, .int .i64 0, .int .i64 0, .int .i64 0, .bool false, .slice none 0 0]) (by simp [results, Try.results36, go_sem, r0, r1, r2, r3, r4, r5, r6, r7, r8]) rfl ?_
  have T3 : Tu (fun q => q = w.heap.size + 1) w1 _ := ((((((((((Tu.refl (fun q => q = w.heap.size + 1) w1).set_ (p := ⟨w.heap.size + 1, 0, none⟩) rfl (.int .i64 z)).set_ (p := ⟨w.heap.size + 1, 1, none⟩) rfl (.int .i64 0)).set_ (p := ⟨w.heap.size + 1, 2, none⟩) rfl (.slice none 0 0)).set_ (p := ⟨w.heap.size + 1, 3, none⟩) rfl (.int .i64 0)).set_ (p := ⟨w.heap.size + 1, 4, none⟩) rfl (.int .i64 0)).set_ (p := ⟨w.heap.size + 1, 5, none⟩) rfl (.int .i64 0)).set_ (p := ⟨w.heap.size + 1, 6, none⟩) rfl (.int .i64 0)).set_ (p := ⟨w.heap.size + 1, 7, none⟩) rfl (.bool false)).set_ (p := ⟨w.heap.size + 1, 8, none⟩) rfl (.slice none 0 0))
  exact ⟨rfl, (ac B0 b1).trans (T3.below (C := w.heap.size) (by have := b1.size; simp at this; omega) (fun q hq => by omega))⟩

set_option linter.unusedVariables false in
set_option maxHeartbeats 2000000 in
theorem implNextRange_any (base now : Int) (A : Option Addr) (n c : Nat) (els : List PartD) (w : World) (h : Lst PartD.cels 4 w A n els) (h0 : senF base els = 0) (h1 : slotB now = false) (hn : n ≤ 1048576) :
    Calls Try.prog 36 #[.agg #[.int .i64 base, .slice A n c], .int .i64 now] w fun x w' => x = .returned (.agg #[.int .i64 3, .int .i64 0, .slice none 0 0, .int .i64 0, .int .i64 0, .int .i64 0, .int .i64 0, .bool false, .slice none 0 0]) ∧ Below w.heap.size w w' := by
  have hsf := fun W L => implSenderFault_any base A n c els W L hn
  have hsl := fun W => isSlot_any now W
  rw [h0] at hsf
  rw [h1] at hsl
  clear h0 h1
  have Z0 := (Stc.new (w.alloc (.cells #[.int .i64 base, .slice A n c] 58)) 69 [.int .i64 0, .int .i64 0, .slice none 0 0, .int .i64 0, .int .i64 0, .int .i64 0, .int .i64 0, .bool false, .slice none 0 0] _ rfl)
  have B0 := ab (ab (Below.refl _ w) (.cells #[.int .i64 base, .slice A n c] 58)) (.cells #[.int .i64 0, .int .i64 0, .slice none 0 0, .int .i64 0, .int .i64 0, .int .i64 0, .int .i64 0, .bool false, .slice none 0 0] 69)
  have S0 := (Stc.new w 58 [.int .i64 base, .slice A n c] _ rfl).alloc (.cells #[.int .i64 0, .int .i64 0, .slice none 0 0, .int .i64 0, .int .i64 0, .int .i64 0, .int .i64 0, .bool false, .slice none 0 0] 69)
  simp only [World.size_alloc] at Z0
  have HL := h.below B0
  have s0 := S0.cell (i := 0) rfl
  have s1 := S0.cell (i := 1) rfl
  go_enter Try.func36, Try.ntmps36
  go_wp2_with fail
  refine (hsf _ HL).mono ?_
  rintro x w1 ⟨rfl, b1⟩
  have j2 := Z0.below b1 (by simp)
  go_wp2_with fail
  refine (hsl _).mono ?_
  rintro x w2 ⟨rfl, rfl⟩
  have q0 := j2.cell (i := 0) rfl
  have q1 := j2.cell (i := 1) rfl
  have q2 := j2.cell (i := 2) rfl
  have q3 := j2.cell (i := 3) rfl
  have q4 := j2.cell (i := 4) rfl
  have q5 := j2.cell (i := 5) rfl
  have q6 := j2.cell (i := 6) rfl
  have q7 := j2.cell (i := 7) rfl
  have q8 := j2.cell (i := 8) rfl
  have qf := j2.frozen
  go_wp2
  have J := (((((((((j2.set_ (i := 0) (.int .i64 3)).set_ (i := 1) (.int .i64 0)).set_ (i := 2) (.slice none 0 0)).set_ (i := 3) (.int .i64 0)).set_ (i := 4) (.int .i64 0)).set_ (i := 5) (.int .i64 0)).set_ (i := 6) (.int .i64 0)).set_ (i := 7) (.bool false)).set_ (i := 8) (.slice none 0 0))
  have r0 := J.cell (i := 0) rfl
  have r1 := J.cell (i := 1) rfl
  have r2 := J.cell (i := 2) rfl
  have r3 := J.cell (i := 3) rfl
  have r4 := J.cell (i := 4) rfl
  have r5 := J.cell (i := 5) rfl
  have r6 := J.cell (i := 6) rfl
  have r7 := J.cell (i := 7) rfl
  have r8 := J.cell (i := 8) rfl
  refine bodyPost_ret (v := .agg #[.int .i64 3, .int .i64 0, .slice none 0 0, .int .i64 0, .int .i64 0, .int .i64 0, .int .i64 0, .bool false, .slice none 0 0]) (by simp [results, Try.results36, go_sem, r0, r1, r2, r3, r4, r5, r6, r7, r8]) rfl ?_
  have T3 : Tu (fun q => q = w.heap.size + 1) w1 _ := ((((((((((Tu.refl (fun q => q = w.heap.size + 1) w1).set_ (p := ⟨w.heap.size + 1, 0, none⟩) rfl (.int .i64 3)).set_ (p := ⟨w.heap.size + 1, 1, none⟩) rfl (.int .i64 0)).set_ (p := ⟨w.heap.size + 1, 2, none⟩) rfl (.slice none 0 0)).set_ (p := ⟨w.heap.size + 1, 3, none⟩) rfl (.int .i64 0)).set_ (p := ⟨w.heap.size + 1, 4, none⟩) rfl (.int .i64 0)).set_ (p := ⟨w.heap.size + 1, 5, none⟩) rfl (.int .i64 0)).set_ (p := ⟨w.heap.size + 1, 6, none⟩) rfl (.int .i64 0)).set_ (p := ⟨w.heap.size + 1, 7, none⟩) rfl (.bool false)).set_ (p := ⟨w.heap.size + 1, 8, none⟩) rfl (.slice none 0 0))
  exact ⟨rfl, (ac B0 b1).trans (T3.below (C := w.heap.size) (by have := b1.size; simp at this; omega) (fun q hq => by omega))⟩


set_option linter.unusedVariables false in
set_option maxRecDepth 100000 in
set_option maxHeartbeats 4000000 in
theorem implNextNone_any (base now : Int) (A : Option Addr) (n c : Nat) (els : List PartD) (w : World) (h : Lst PartD.cels 4 w A n els) (h0 : senF base els = 0) (h1 : slotB now = true) (hn : n ≤ 1048576) (h2 : choose now 0 (-1) els < 0) :
    Calls Try.prog 36 #[.agg #[.int .i64 base, .slice A n c], .int .i64 now] w fun x w' => (∃ A0 d0, x = .returned (.agg #[.int .i64 0, .int .i64 base, .slice A0 n d0, .int .i64 0, .int .i64 0, .int .i64 0, .int .i64 0, .bool false, .slice none 0 0]) ∧ (tP A0 n els) w' (rng w.heap.size w'.heap.size)) ∧ Below w.heap.size w w' := by
  have hsf := fun W L => implSenderFault_any base A n c els W L hn
  have hsl := fun W => isSlot_any now W
  obtain ⟨hb0, hb1, hnl, hel⟩ := senF_zero h0
  obtain ⟨hs0, hs1⟩ := slotB_bd h1
  rw [h0] at hsf
  rw [h1] at hsl
  clear h0 h1
  have hpw := fun W (L : Lst PartD.cels 4 W A n els) => partWindow_any base A n c els W L hn (fun e he => by have := (hel e he).1; omega)
  have Hl := Shut.mk h.len
  have hdp := fun g A c W S L hr => duePlace_any g base now A n c els W S L hr hn (fun e he => by have := (hel e he).2; omega) hs0 (by omega)
  rw [choose_neg h2] at hdp
  clear hel h2 hnl
  have Z0 := (Stc.new (w.alloc (.cells #[.int .i64 base, .slice A n c] 58)) 69 [.int .i64 0, .int .i64 0, .slice none 0 0, .int .i64 0, .int .i64 0, .int .i64 0, .int .i64 0, .bool false, .slice none 0 0] _ rfl)
  have B0 := ab (ab (Below.refl _ w) (.cells #[.int .i64 base, .slice A n c] 58)) (.cells #[.int .i64 0, .int .i64 0, .slice none 0 0, .int .i64 0, .int .i64 0, .int .i64 0, .int .i64 0, .bool false, .slice none 0 0] 69)
  have S0 := (Stc.new w 58 [.int .i64 base, .slice A n c] _ rfl).alloc (.cells #[.int .i64 0, .int .i64 0, .slice none 0 0, .int .i64 0, .int .i64 0, .int .i64 0, .int .i64 0, .bool false, .slice none 0 0] 69)
  simp only [World.size_alloc] at Z0
  have HL := h.below B0
  have s0 := S0.cell (i := 0) rfl
  have s1 := S0.cell (i := 1) rfl
  go_enter Try.func36, Try.ntmps36
  go_wp2_with fail
  refine (hsf _ HL).mono ?_
  rintro x w1 ⟨rfl, b1⟩
  have hz1 := b1.size
  simp only [World.size_alloc] at hz1
  have s10 := (S0.below b1 (by simp; omega)).cell (i := 0) rfl
  have s11 := (S0.below b1 (by simp; omega)).cell (i := 1) rfl
  go_wp2_with fail
  refine (hsl _).mono ?_
  rintro x w1' ⟨rfl, rfl⟩
  go_wp2_with fail
  refine (hpw _ (HL.below b1)).mono ?_
  rintro x w2 ⟨⟨g, v, rfl, hg, hSw, hap⟩, b2⟩
  obtain ⟨A0, d0, rfl, hrm, hlo⟩ := hap.lo Hl.out
  have hz2 := b2.size
  have hgl := hSw.lt
  go_wp2_with fail
  refine (hdp _ _ _ _ hSw hlo.rows hrm).mono ?_
  rintro x w3 ⟨rfl, b3⟩
  have hz3 := b3.size
  have hSw3 := hSw.below b3 hgl
  have hlo3 := hlo.below b3 (Nat.le_refl _)
  go_wp2_with fail
  refine (senderOf_any g base A0 n d0 _ hSw3).mono ?_
  rintro x w4 ⟨rfl, b4⟩
  have hz4 := b4.size
  have hlo4 := hlo3.below b4 (Nat.le_refl _)
  have j2 := ((Z0.below b1 (by simp)).below b2 (by omega)).below b3 (by omega) |>.below b4 (by omega)
  have q0 := j2.cell (i := 0) rfl
  have q1 := j2.cell (i := 1) rfl
  have q2 := j2.cell (i := 2) rfl
  have q3 := j2.cell (i := 3) rfl
  have q4 := j2.cell (i := 4) rfl
  have q5 := j2.cell (i := 5) rfl
  have q6 := j2.cell (i := 6) rfl
  have q7 := j2.cell (i := 7) rfl
  have q8 := j2.cell (i := 8) rfl
  have qf := j2.frozen
  go_wp2
  have J := (((((((((j2.set_ (i := 0) (.int .i64 0)).set_ (i := 1) (.int .i64 base)).set_ (i := 2) (.slice A0 n d0)).set_ (i := 3) (.int .i64 0)).set_ (i := 4) (.int .i64 0)).set_ (i := 5) (.int .i64 0)).set_ (i := 6) (.int .i64 0)).set_ (i := 7) (.bool false)).set_ (i := 8) (.slice none 0 0))
  have r0 := J.cell (i := 0) rfl
  have r1 := J.cell (i := 1) rfl
  have r2 := J.cell (i := 2) rfl
  have r3 := J.cell (i := 3) rfl
  have r4 := J.cell (i := 4) rfl
  have r5 := J.cell (i := 5) rfl
  have r6 := J.cell (i := 6) rfl
  have r7 := J.cell (i := 7) rfl
  have r8 := J.cell (i := 8) rfl
  refine bodyPost_ret (v := .agg #[.int .i64 0, .int .i64 base, .slice A0 n d0, .int .i64 0, .int .i64 0, .int .i64 0, .int .i64 0, .bool false, .slice none 0 0]) (by simp [results, Try.results36, go_sem, r0, r1, r2, r3, r4, r5, r6, r7, r8]) rfl ?_
  have T3 : Tu (fun q => q = w.heap.size + 1) w4 _ := ((((((((((Tu.refl (fun q => q = w.heap.size + 1) w4).set_ (p := ⟨w.heap.size + 1, 0, none⟩) rfl (.int .i64 0)).set_ (p := ⟨w.heap.size + 1, 1, none⟩) rfl (.int .i64 base)).set_ (p := ⟨w.heap.size + 1, 2, none⟩) rfl (.slice A0 n d0)).set_ (p := ⟨w.heap.size + 1, 3, none⟩) rfl (.int .i64 0)).set_ (p := ⟨w.heap.size + 1, 4, none⟩) rfl (.int .i64 0)).set_ (p := ⟨w.heap.size + 1, 5, none⟩) rfl (.int .i64 0)).set_ (p := ⟨w.heap.size + 1, 6, none⟩) rfl (.int .i64 0)).set_ (p := ⟨w.heap.size + 1, 7, none⟩) rfl (.bool false)).set_ (p := ⟨w.heap.size + 1, 8, none⟩) rfl (.slice none 0 0))
  have hz5 := T3.size
  have hlo5 := hlo4.tu T3 (fun q hq e => by have := hq.1; omega)
  refine ⟨⟨_, _, rfl, (okP _ _ _).widen (T := tP A0 n els) hlo5 (by omega) (by omega)⟩, ?_⟩
  exact ((((ac B0 b1).trans (b2.mono (by omega))).trans (b3.mono (by omega))).trans (b4.mono (by omega))).trans (T3.below (C := w.heap.size) (by omega) (fun q hq => by omega))

set_option linter.unusedVariables false in
set_option maxRecDepth 100000 in
set_option maxHeartbeats 4000000 in
theorem implNextSome_any (base now : Int) (A : Option Addr) (n c : Nat) (els : List PartD) (w : World) (h : Lst PartD.cels 4 w A n els) (h0 : senF base els = 0) (h1 : slotB now = true) (hn : n ≤ 1048576) (k : Nat) (e : PartD) (he : els[k]? = some e) (h2 : choose now 0 (-1) els = (k : Int)) :
    Calls Try.prog 36 #[.agg #[.int .i64 base, .slice A n c], .int .i64 now] w fun x w' => (∃ A0 d0 A1 d1, x = .returned (.agg #[.int .i64 0, .int .i64 base, .slice A0 n d0, .int .i64 1, .int .i64 (base + (k : Int)), .int .i64 0, .int .i64 0, .bool e.f1, .slice A1 e.f0.length d1]) ∧ (Thing.sep (tP A0 n (els.set k (slotAt now e))) (tR A1 e.f0.length e.f0)) w' (rng w.heap.size w'.heap.size)) ∧ Below w.heap.size w w' := by
  have hsf := fun W L => implSenderFault_any base A n c els W L hn
  have hsl := fun W => isSlot_any now W
  obtain ⟨hb0, hb1, hnl, hel⟩ := senF_zero h0
  obtain ⟨hs0, hs1⟩ := slotB_bd h1
  rw [h0] at hsf
  rw [h1] at hsl
  clear h0 h1
  have hpw := fun W (L : Lst PartD.cels 4 W A n els) => partWindow_any base A n c els W L hn (fun e he => by have := (hel e he).1; omega)
  have Hl := Shut.mk h.len
  have hdp := fun g A c W S L hr => duePlace_any g base now A n c els W S L hr hn (fun e he => by have := (hel e he).2; omega) hs0 (by omega)
  rw [h2] at hdp
  have hem := (hel e (List.mem_of_getElem? he)).1
  have hk : k < n := by rw [← Hl.out]; exact (List.getElem?_eq_some_iff.1 he).1
  have HE := Shut.mk he
  have t0 : ((k : Int) == -1) = false := by simp
  have hwq : IntKind.i64.wrap (base + (k : Int)) = base + (k : Int) := IntWalk.i64_in _ (by omega)
  clear hel h2 hnl he
  have Z0 := (Stc.new (w.alloc (.cells #[.int .i64 base, .slice A n c] 58)) 69 [.int .i64 0, .int .i64 0, .slice none 0 0, .int .i64 0, .int .i64 0, .int .i64 0, .int .i64 0, .bool false, .slice none 0 0] _ rfl)
  have B0 := ab (ab (Below.refl _ w) (.cells #[.int .i64 base, .slice A n c] 58)) (.cells #[.int .i64 0, .int .i64 0, .slice none 0 0, .int .i64 0, .int .i64 0, .int .i64 0, .int .i64 0, .bool false, .slice none 0 0] 69)
  have S0 := (Stc.new w 58 [.int .i64 base, .slice A n c] _ rfl).alloc (.cells #[.int .i64 0, .int .i64 0, .slice none 0 0, .int .i64 0, .int .i64 0, .int .i64 0, .int .i64 0, .bool false, .slice none 0 0] 69)
  simp only [World.size_alloc] at Z0
  have HL := h.below B0
  have s0 := S0.cell (i := 0) rfl
  have s1 := S0.cell (i := 1) rfl
  go_enter Try.func36, Try.ntmps36
  go_wp2_with fail
  refine (hsf _ HL).mono ?_
  rintro x w1 ⟨rfl, b1⟩
  have hz1 := b1.size
  simp only [World.size_alloc] at hz1
  have s10 := (S0.below b1 (by simp; omega)).cell (i := 0) rfl
  have s11 := (S0.below b1 (by simp; omega)).cell (i := 1) rfl
  go_wp2_with fail
  refine (hsl _).mono ?_
  rintro x w1' ⟨rfl, rfl⟩
  go_wp2_with fail
  refine (hpw _ (HL.below b1)).mono ?_
  rintro x w2 ⟨⟨g, v, rfl, hg, hSw, hap⟩, b2⟩
  obtain ⟨A0, d0, rfl, hrm, hlo⟩ := hap.lo Hl.out
  have hz2 := b2.size
  have hgl := hSw.lt
  go_wp2_with fail
  refine (hdp _ _ _ _ hSw hlo.rows hrm).mono ?_
  rintro x w3 ⟨rfl, b3⟩
  have hz3 := b3.size
  have hSw3 := hSw.below b3 hgl
  have hlo3 := hlo.below b3 (Nat.le_refl _)
  obtain ⟨b, off, B, m, d, rfl, hF, hbl, hfz, hm, ⟨x2, hx2⟩, hup⟩ := hlo3.setSent HE.out now
  have hmm : m ≤ 1048576 := by have := hm.out; omega
  have hbg : g ≠ b := by have := hF.1; omega
  have v31 := hSw3.cell (i := 1) rfl
  have hgl3 := hSw3.lt
  go_upto_region 12 with fail
  obtain ⟨hs1, hlo4, e0, e1, e2, e3, hBs, hzz, hT1⟩ := hup.out _ rfl
  have hSw4 := hSw3.far (p := ⟨b, off + k * 4 + 2, none⟩) hbg (.int .i64 now)
  have j4 := (((Z0.below b1 (by simp)).below b2 (by omega)).below b3 (by omega)).far (p := ⟨b, off + k * 4 + 2, none⟩) (by have := hF.1; simp; omega) (.int .i64 now)
  clear hup v31 hx2 hfz
  generalize w3.setCell ⟨b, off + k * 4 + 2, none⟩ (.int .i64 now) = W1 at *
  have hcp : Calls Try.prog 118 #[.agg #[.slice B m d, .bool e.f1, .int .i64 now, .bool e.f3]] W1 fun x w' => (∃ A' c', x = .returned (.agg #[.slice A' m c', .bool e.f1, .int .i64 now, .bool e.f3]) ∧ Ow w' W1.heap.size A' m e.f0 ∧ Rm A' m c') ∧ Below W1.heap.size W1 w' := copied_any (slotAt now e) B m d W1 hBs hzz hmm
  go_wp2_with fail
  refine hcp.mono ?_
  rintro x w4 ⟨⟨A1, d1, rfl, ho, hrm1⟩, b4⟩
  have hz4 := b4.size
  go_wp2
  have hgW1 := hSw4.lt
  have hgl4 : g < w4.heap.size := by omega
  have w40 := (hSw4.below b4 hgW1).cell (i := 0) rfl
  have W5 : Below w4.heap.size w4 (w4.alloc (.cells #[.slice A1 m d1, .bool e.f1, .int .i64 now, .bool e.f3] 77)) := ab (Below.refl _ w4) _
  have hp9 : Stc (w4.alloc (.cells #[.slice A1 m d1, .bool e.f1, .int .i64 now, .bool e.f3] 77)) w4.heap.size [.slice A1 m d1, .bool e.f1, .int .i64 now, .bool e.f3] 77 := Stc.new w4 _ _ _ rfl
  have w50 := (hSw4.below b4 hgW1 |>.below W5 hgl4).cell (i := 0) rfl
  have p90 := hp9.cell (i := 0) rfl
  have p91 := hp9.cell (i := 1) rfl
  have hs5 : (w4.alloc (.cells #[.slice A1 m d1, .bool e.f1, .int .i64 now, .bool e.f3] 77)).heap.size = w4.heap.size + 1 := World.size_alloc _ _
  clear w40
  generalize w4.alloc (.cells #[.slice A1 m d1, .bool e.f1, .int .i64 now, .bool e.f3] 77) = w5 at *
  have hl5 : w4.heap.size < w5.heap.size := by omega
  have hg5 : g < w5.heap.size := by omega
  go_region
  have bC : Below w5.heap.size w5 (w5.alloc (.cells #[.int .i64 1, .int .i64 (base + (k : Int)), .int .i64 0, .int .i64 0, .bool e.f1, .slice A1 m d1] 67)).drew := (ab (Below.refl _ w5) _).drew
  have C6 : Stc (w5.alloc (.cells #[.int .i64 1, .int .i64 (base + (k : Int)), .int .i64 0, .int .i64 0, .bool e.f1, .slice A1 m d1] 67)).drew w5.heap.size [.int .i64 1, .int .i64 (base + (k : Int)), .int .i64 0, .int .i64 0, .bool e.f1, .slice A1 m d1] 67 := Stc.new w5 _ _ _ rfl
  have S6 := (hSw4.below b4 hgW1 |>.below W5 hgl4).below bC hg5
  have j6 := ((j4.below b4 (by omega)).below W5 (by omega)).below bC (by omega)
  have hlo6 := ((hlo4.below b4 (Nat.le_refl _)).below W5 (Nat.le_refl _)).below bC (Nat.le_refl _)
  have ho6 := ((ho.below W5 (Nat.le_refl _)).below bC (by omega))
  have hs6 : (w5.alloc (.cells #[.int .i64 1, .int .i64 (base + (k : Int)), .int .i64 0, .int .i64 0, .bool e.f1, .slice A1 m d1] 67)).drew.heap.size = w5.heap.size + 1 := World.size_alloc _ _
  clear w50 p90 p91
  rw [hs5] at C6
  go_wp2
  generalize (w5.alloc (.cells #[.int .i64 1, .int .i64 (base + (k : Int)), .int .i64 0, .int .i64 0, .bool e.f1, .slice A1 m d1] 67)).drew = w6 at *
  have hso := fun W (hW : Below w6.heap.size w6 W) => senderOf_any g base (some ⟨b, off, none⟩) n d0 W (S6.below hW S6.lt)
  have hAf : ∀ W, Below w6.heap.size w6 W → Stc W (w4.heap.size + 1) [.int .i64 1, .int .i64 (base + (k : Int)), .int .i64 0, .int .i64 0, .bool e.f1, .slice A1 m d1] 67 ∧ Stc W (w.heap.size + 1) [.int .i64 0, .int .i64 0, .slice none 0 0, .int .i64 0, .int .i64 0, .int .i64 0, .int .i64 0, .bool false, .slice none 0 0] 69 := fun W hb => ⟨C6.below hb C6.lt, j6.below hb j6.lt⟩
  have c60 := C6.cell (i := 0) rfl
  have c61 := C6.cell (i := 1) rfl
  have c62 := C6.cell (i := 2) rfl
  have c63 := C6.cell (i := 3) rfl
  have c64 := C6.cell (i := 4) rfl
  have c65 := C6.cell (i := 5) rfl
  go_region_law (first | (go_simp; go_at_call 115; refine (hso _ ?hb).mono ?_; (case hb => first | exact Below.refl _ _ | exact (Below.refl _ _).drew | exact (Below.refl _ _).drew.drew); rintro x w7 ⟨rfl, b7⟩; obtain ⟨C7, j7⟩ := hAf w7 ((Below.refl _ w6).drew.trans b7); have k0 := C7.cell (i := 0) rfl; have k1 := C7.cell (i := 1) rfl; have k2 := C7.cell (i := 2) rfl; have k3 := C7.cell (i := 3) rfl; have k4 := C7.cell (i := 4) rfl; have k5 := C7.cell (i := 5) rfl; have q0 := j7.cell (i := 0) rfl; have q1 := j7.cell (i := 1) rfl; have q2 := j7.cell (i := 2) rfl; have q3 := j7.cell (i := 3) rfl; have q4 := j7.cell (i := 4) rfl; have q5 := j7.cell (i := 5) rfl; have q6 := j7.cell (i := 6) rfl; have q7 := j7.cell (i := 7) rfl; have q8 := j7.cell (i := 8) rfl; have qf := j7.frozen))
  all_goals
    go_wp2
    have b7' := (Below.refl w6.heap.size w6).drew.trans b7
    have hz7 := b7'.size
    have J := (((((((((j7.set_ (i := 0) (.int .i64 0)).set_ (i := 1) (.int .i64 base)).set_ (i := 2) (.slice (some ⟨b, off, none⟩) n d0)).set_ (i := 3) (.int .i64 1)).set_ (i := 4) (.int .i64 (base + (k : Int)))).set_ (i := 5) (.int .i64 0)).set_ (i := 6) (.int .i64 0)).set_ (i := 7) (.bool e.f1)).set_ (i := 8) (.slice A1 m d1))
    have r0 := J.cell (i := 0) rfl
    have r1 := J.cell (i := 1) rfl
    have r2 := J.cell (i := 2) rfl
    have r3 := J.cell (i := 3) rfl
    have r4 := J.cell (i := 4) rfl
    have r5 := J.cell (i := 5) rfl
    have r6 := J.cell (i := 6) rfl
    have r7 := J.cell (i := 7) rfl
    have r8 := J.cell (i := 8) rfl
    refine bodyPost_ret (v := .agg #[.int .i64 0, .int .i64 base, .slice (some ⟨b, off, none⟩) n d0, .int .i64 1, .int .i64 (base + (k : Int)), .int .i64 0, .int .i64 0, .bool e.f1, .slice A1 m d1]) (by simp [results, Try.results36, go_sem, r0, r1, r2, r3, r4, r5, r6, r7, r8]) rfl ?_
    have T3 : Tu (fun q => q = w.heap.size + 1) w7 _ := ((((((((((Tu.refl (fun q => q = w.heap.size + 1) w7).set_ (p := ⟨w.heap.size + 1, 0, none⟩) rfl (.int .i64 0)).set_ (p := ⟨w.heap.size + 1, 1, none⟩) rfl (.int .i64 base)).set_ (p := ⟨w.heap.size + 1, 2, none⟩) rfl (.slice (some ⟨b, off, none⟩) n d0)).set_ (p := ⟨w.heap.size + 1, 3, none⟩) rfl (.int .i64 1)).set_ (p := ⟨w.heap.size + 1, 4, none⟩) rfl (.int .i64 (base + (k : Int)))).set_ (p := ⟨w.heap.size + 1, 5, none⟩) rfl (.int .i64 0)).set_ (p := ⟨w.heap.size + 1, 6, none⟩) rfl (.int .i64 0)).set_ (p := ⟨w.heap.size + 1, 7, none⟩) rfl (.bool e.f1)).set_ (p := ⟨w.heap.size + 1, 8, none⟩) rfl (.slice A1 m d1))
    have hlo7 := (hlo6.below b7' (Nat.le_refl _)).tu T3 (fun q hq e => by have := hq.1; omega)
    have ho7 := ho6.below b7' (by omega)
    have hbo7 := (Bo.ofOw (F := rng w2.heap.size w7.heap.size) ho7 (fun q _ _ h1 h2 => ⟨by omega, h2⟩)).tu T3 (fun q hq e => by have := hq.1; omega)
    have hz8 := T3.size
    have hsep := Thing.sep.mk (S := tP (some ⟨b, off, none⟩) n (els.set k (slotAt now e))) (T := tR A1 m e.f0) hlo7 hbo7 (by omega) (by omega)
    rw [hm.out]
    refine ⟨⟨_, _, _, _, rfl, ((okP _ _ _).sep (okR _ _ _)).widen hsep (by omega) (by omega)⟩, ?_⟩
    have bT := hT1.below (C := w.heap.size) (by omega) (fun q hq => by have := hq.1; omega)
    exact ((((((((ac B0 b1).trans (b2.mono (by omega))).trans (b3.mono (by omega))).trans bT).trans (b4.mono (by omega))).trans (W5.mono (by omega))).trans (bC.mono (by omega))).trans (b7'.mono (by omega))).trans (T3.below (C := w.heap.size) (by omega) (fun q hq => by omega))

end Go.Proofs.Ytgmbofoneeagiaa
