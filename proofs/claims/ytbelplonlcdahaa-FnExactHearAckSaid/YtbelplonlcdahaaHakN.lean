/- HearAck of the model. -/
import Derived.Test.YtbelplonlcdahaaHakS
import Derived.Test.YtbelplonlcdahaaNxtN
namespace Go.Proofs.Ytbelplonlcdahaa
open Go.RowKit
theorem ackB_split {ack mask : Int} (h : ackB ack mask = true) : (0 ≤ ack ∧ ack ≤ 10000) ∧ 0 ≤ mask ∧ mask ≤ 255 := by
  unfold ackB at h
  have := of_decide_eq_true h
  exact ⟨⟨this.1, this.2.1⟩, this.2.2⟩

set_option linter.unusedVariables false in
set_option maxRecDepth 100000 in
set_option maxHeartbeats 4000000 in
theorem specHearFault_any (base ack mask : Int) (A : Option Addr) (n c : Nat) (els : List PartD) (w : World) (h : Lst PartD.cels 4 w A n els) (z : Int) (hz : senF base els = z) (h0 : z ≠ 0) (hn : n ≤ 1048576) :
    Calls Try.prog 34 #[.agg #[.int .i64 base, .slice A n c], .int .i64 ack, .int .i64 mask] w fun x w' => x = .returned (.agg #[.int .i64 z, .int .i64 0, .slice none 0 0]) ∧ Below w.heap.size w w' := by
  have hsf := fun W L => specSenderFault_any base A n c els W L hn
  rw [hz] at hsf
  have t0 : (z != 0) = true := by simpa using h0
  clear hz
  have Z0 := (Stc.new (w.alloc (.cells #[.int .i64 base, .slice A n c] 26)) 30 [.int .i64 0, .int .i64 0, .slice none 0 0] _ rfl)
  have B0 := ab (ab (Below.refl _ w) (.cells #[.int .i64 base, .slice A n c] 26)) (.cells #[.int .i64 0, .int .i64 0, .slice none 0 0] 30)
  have S0 := (Stc.new w 26 [.int .i64 base, .slice A n c] _ rfl).alloc (.cells #[.int .i64 0, .int .i64 0, .slice none 0 0] 30)
  simp only [World.size_alloc] at Z0
  have HL := h.below B0
  have s0 := S0.cell (i := 0) rfl
  have s1 := S0.cell (i := 1) rfl
  go_enter Try.func34, Try.ntmps34
  go_wp2_with fail
  refine (hsf _ HL).mono ?_
  rintro x w1 ⟨rfl, b1⟩
  have j2 := Z0.below b1 (by simp)
  have q0 := j2.cell (i := 0) rfl
  have q1 := j2.cell (i := 1) rfl
  have q2 := j2.cell (i := 2) rfl
  have qf := j2.frozen
  go_wp2
  have J := (((j2.set_ (i := 0) (.int .i64 z)).set_ (i := 1) (.int .i64 0)).set_ (i := 2) (.slice none 0 0))
  have r0 := J.cell (i := 0) rfl
  have r1 := J.cell (i := 1) rfl
  have r2 := J.cell (i := 2) rfl
  refine bodyPost_ret (v := .agg #[.int .i64 z, .int .i64 0, .slice none 0 0]) (by simp [results, Try.results34, go_sem, r0, r1, r2]) rfl ?_
  have T3 : Tu (fun q => q = w.heap.size + 1) w1 _ := ((((Tu.refl (fun q => q = w.heap.size + 1) w1).set_ (p := ⟨w.heap.size + 1, 0, none⟩) rfl (.int .i64 z)).set_ (p := ⟨w.heap.size + 1, 1, none⟩) rfl (.int .i64 0)).set_ (p := ⟨w.heap.size + 1, 2, none⟩) rfl (.slice none 0 0))
  exact ⟨rfl, (ac B0 b1).trans (T3.below (C := w.heap.size) (by have := b1.size; simp at this; omega) (fun q hq => by omega))⟩

set_option linter.unusedVariables false in
set_option maxRecDepth 100000 in
set_option maxHeartbeats 4000000 in
theorem specHearRangeA_any (base ack mask : Int) (A : Option Addr) (n c : Nat) (els : List PartD) (w : World) (h : Lst PartD.cels 4 w A n els) (h0 : senF base els = 0) (h1 : inB ack 0 10000 = false) (hn : n ≤ 1048576) :
    Calls Try.prog 34 #[.agg #[.int .i64 base, .slice A n c], .int .i64 ack, .int .i64 mask] w fun x w' => x = .returned (.agg #[.int .i64 3, .int .i64 0, .slice none 0 0]) ∧ Below w.heap.size w w' := by
  have hsf := fun W L => specSenderFault_any base A n c els W L hn
  have hsl := fun W => In_any ack 0 10000 W
  have hsm := fun W => In_any mask 0 255 W
  rw [h0] at hsf
  rw [h1] at hsl
  clear h0 h1
  have Z0 := (Stc.new (w.alloc (.cells #[.int .i64 base, .slice A n c] 26)) 30 [.int .i64 0, .int .i64 0, .slice none 0 0] _ rfl)
  have B0 := ab (ab (Below.refl _ w) (.cells #[.int .i64 base, .slice A n c] 26)) (.cells #[.int .i64 0, .int .i64 0, .slice none 0 0] 30)
  have S0 := (Stc.new w 26 [.int .i64 base, .slice A n c] _ rfl).alloc (.cells #[.int .i64 0, .int .i64 0, .slice none 0 0] 30)
  simp only [World.size_alloc] at Z0
  have HL := h.below B0
  have s0 := S0.cell (i := 0) rfl
  have s1 := S0.cell (i := 1) rfl
  go_enter Try.func34, Try.ntmps34
  go_wp2_with fail
  refine (hsf _ HL).mono ?_
  rintro x w1 ⟨rfl, b1⟩
  have j2 := Z0.below b1 (by simp)
  go_wp2_with fail
  refine (hsl _).mono ?_
  rintro x w2 ⟨rfl, rfl⟩
  have q0 := j2.cell (i := 0) rfl
  have q1 := j2.cell (i := 1) rfl
  have q2 := j2.cell (i := 2) rfl
  have qf := j2.frozen
  go_wp2
  have J := (((j2.set_ (i := 0) (.int .i64 3)).set_ (i := 1) (.int .i64 0)).set_ (i := 2) (.slice none 0 0))
  have r0 := J.cell (i := 0) rfl
  have r1 := J.cell (i := 1) rfl
  have r2 := J.cell (i := 2) rfl
  refine bodyPost_ret (v := .agg #[.int .i64 3, .int .i64 0, .slice none 0 0]) (by simp [results, Try.results34, go_sem, r0, r1, r2]) rfl ?_
  have T3 : Tu (fun q => q = w.heap.size + 1) w1 _ := ((((Tu.refl (fun q => q = w.heap.size + 1) w1).set_ (p := ⟨w.heap.size + 1, 0, none⟩) rfl (.int .i64 3)).set_ (p := ⟨w.heap.size + 1, 1, none⟩) rfl (.int .i64 0)).set_ (p := ⟨w.heap.size + 1, 2, none⟩) rfl (.slice none 0 0))
  exact ⟨rfl, (ac B0 b1).trans (T3.below (C := w.heap.size) (by have := b1.size; simp at this; omega) (fun q hq => by omega))⟩

set_option linter.unusedVariables false in
set_option maxRecDepth 100000 in
set_option maxHeartbeats 4000000 in
theorem specHearRangeB_any (base ack mask : Int) (A : Option Addr) (n c : Nat) (els : List PartD) (w : World) (h : Lst PartD.cels 4 w A n els) (h0 : senF base els = 0) (h1 : inB ack 0 10000 = true) (h2 : inB mask 0 255 = false) (hn : n ≤ 1048576) :
    Calls Try.prog 34 #[.agg #[.int .i64 base, .slice A n c], .int .i64 ack, .int .i64 mask] w fun x w' => x = .returned (.agg #[.int .i64 3, .int .i64 0, .slice none 0 0]) ∧ Below w.heap.size w w' := by
  have hsf := fun W L => specSenderFault_any base A n c els W L hn
  have hsl := fun W => In_any ack 0 10000 W
  have hsm := fun W => In_any mask 0 255 W
  rw [h0] at hsf
  rw [h1] at hsl
  rw [h2] at hsm
  clear h0 h1
  have Z0 := (Stc.new (w.alloc (.cells #[.int .i64 base, .slice A n c] 26)) 30 [.int .i64 0, .int .i64 0, .slice none 0 0] _ rfl)
  have B0 := ab (ab (Below.refl _ w) (.cells #[.int .i64 base, .slice A n c] 26)) (.cells #[.int .i64 0, .int .i64 0, .slice none 0 0] 30)
  have S0 := (Stc.new w 26 [.int .i64 base, .slice A n c] _ rfl).alloc (.cells #[.int .i64 0, .int .i64 0, .slice none 0 0] 30)
  simp only [World.size_alloc] at Z0
  have HL := h.below B0
  have s0 := S0.cell (i := 0) rfl
  have s1 := S0.cell (i := 1) rfl
  go_enter Try.func34, Try.ntmps34
  go_wp2_with fail
  refine (hsf _ HL).mono ?_
  rintro x w1 ⟨rfl, b1⟩
  have j2 := Z0.below b1 (by simp)
  go_wp2_with fail
  refine (hsl _).mono ?_
  rintro x w2 ⟨rfl, rfl⟩
  go_wp2_with fail
  refine (hsm _).mono ?_
  rintro x w2 ⟨rfl, rfl⟩
  have q0 := j2.cell (i := 0) rfl
  have q1 := j2.cell (i := 1) rfl
  have q2 := j2.cell (i := 2) rfl
  have qf := j2.frozen
  go_wp2
  have J := (((j2.set_ (i := 0) (.int .i64 3)).set_ (i := 1) (.int .i64 0)).set_ (i := 2) (.slice none 0 0))
  have r0 := J.cell (i := 0) rfl
  have r1 := J.cell (i := 1) rfl
  have r2 := J.cell (i := 2) rfl
  refine bodyPost_ret (v := .agg #[.int .i64 3, .int .i64 0, .slice none 0 0]) (by simp [results, Try.results34, go_sem, r0, r1, r2]) rfl ?_
  have T3 : Tu (fun q => q = w.heap.size + 1) w1 _ := ((((Tu.refl (fun q => q = w.heap.size + 1) w1).set_ (p := ⟨w.heap.size + 1, 0, none⟩) rfl (.int .i64 3)).set_ (p := ⟨w.heap.size + 1, 1, none⟩) rfl (.int .i64 0)).set_ (p := ⟨w.heap.size + 1, 2, none⟩) rfl (.slice none 0 0))
  exact ⟨rfl, (ac B0 b1).trans (T3.below (C := w.heap.size) (by have := b1.size; simp at this; omega) (fun q hq => by omega))⟩


set_option linter.unusedVariables false in
set_option maxRecDepth 100000 in
set_option maxHeartbeats 4000000 in
theorem specHearOk_any (base ack mask : Int) (A : Option Addr) (n c : Nat) (els : List PartD) (w : World) (h : Lst PartD.cels 4 w A n els) (h0 : senF base els = 0) (h1 : ackB ack mask = true) (hn : n ≤ 1048576) :
    Calls Try.prog 34 #[.agg #[.int .i64 base, .slice A n c], .int .i64 ack, .int .i64 mask] w fun x w' => (∃ A0 d0, x = .returned (.agg #[.int .i64 0, .int .i64 (slid base (ackL ack mask base els)).1, .slice A0 (slid base (ackL ack mask base els)).2.length d0]) ∧ (tP A0 (slid base (ackL ack mask base els)).2.length (slid base (ackL ack mask base els)).2) w' (rng w.heap.size w'.heap.size)) ∧ Below w.heap.size w w' := by
  obtain ⟨⟨ha0, ha1⟩, hm0, hm1⟩ := ackB_split h1
  have hsf := fun W L => specSenderFault_any base A n c els W L hn
  have hsl := fun W => In_any ack 0 10000 W
  have hsm := fun W => In_any mask 0 255 W
  obtain ⟨hb0, hb1, hnl, hel⟩ := senF_zero h0
  have e1 : inB ack 0 10000 = true := by unfold inB; exact decide_eq_true ⟨ha0, ha1⟩
  have e2 : inB mask 0 255 = true := by unfold inB; exact decide_eq_true ⟨hm0, hm1⟩
  rw [h0] at hsf
  rw [e1] at hsl
  rw [e2] at hsm
  have hl := h.len
  have Hl := Shut.mk hl
  have hcp := fun g W (S : Stc W g [.int .i64 base, .slice A n c] 26) (L : Lst PartD.cels 4 W A n els) => l8Sender_any g base A n c els W S L hn (fun e he => by have := (hel e he).1; omega)
  have hak := fun g A c F W S hg L hr => l8Ack_any g base ack mask A n c els F W S hg L hr (by omega) hb0 (by omega) ha0 ha1 hm0 hm1
  obtain ⟨P, hP⟩ : ∃ P, P = slid base (ackL ack mask base els) := ⟨_, rfl⟩
  rw [← hP] at hak ⊢
  clear hP hel hnl h0 h1 e1 e2 hl
  have Z0 := (Stc.new (w.alloc (.cells #[.int .i64 base, .slice A n c] 26)) 30 [.int .i64 0, .int .i64 0, .slice none 0 0] _ rfl)
  have B0 := ab (ab (Below.refl _ w) (.cells #[.int .i64 base, .slice A n c] 26)) (.cells #[.int .i64 0, .int .i64 0, .slice none 0 0] 30)
  have S0 := (Stc.new w 26 [.int .i64 base, .slice A n c] _ rfl).alloc (.cells #[.int .i64 0, .int .i64 0, .slice none 0 0] 30)
  simp only [World.size_alloc] at Z0
  have HL := h.below B0
  have s0 := S0.cell (i := 0) rfl
  have s1 := S0.cell (i := 1) rfl
  go_enter Try.func34, Try.ntmps34
  go_wp2_with fail
  refine (hsf _ HL).mono ?_
  rintro x w1 ⟨rfl, b1⟩
  have hz1 := b1.size
  simp only [World.size_alloc] at hz1
  go_wp2_with fail
  refine (hsl _).mono ?_
  rintro x w1' ⟨rfl, rfl⟩
  go_wp2_with fail
  refine (hsm _).mono ?_
  rintro x w1' ⟨rfl, rfl⟩
  go_wp2_with fail
  refine (hcp _ _ (S0.below b1 (by simp; omega)) (HL.below b1)).mono ?_
  rintro x w2 ⟨⟨v, rfl, hap⟩, b2⟩
  obtain ⟨A0, d0, rfl, hrm, hlo⟩ := hap.lo Hl.out
  have hz2 := b2.size
  have G2 := Stc.new w2 26 [.int .i64 base, .slice A0 n d0] _ rfl
  have bG := ab (Below.refl _ w2) (.cells #[.int .i64 base, .slice A0 n d0] 26)
  have hlo2 := hlo.below bG (Nat.le_refl _)
  go_wp2_with fail
  refine (hak _ _ _ (rng w1.heap.size w2.heap.size) _ G2 (fun hq => by have := hq.2; omega) hlo2 hrm).mono ?_
  rintro x w3 ⟨rfl, ⟨A1, n1, d1, hn1, G3, hlo3, hrm3⟩, htu⟩
  subst hn1
  have hz3 := htu.size
  simp only [World.size_alloc] at hz3
  have j1 := ((Z0.below b1 (by simp)).below b2 (by omega)).below bG (by omega)
  have j2 := j1.tu htu (fun hq => by rcases hq with ⟨q1, q2⟩ | hq <;> omega)
  have g30 := G3.cell (i := 0) rfl
  have g31 := G3.cell (i := 1) rfl
  have q0 := j2.cell (i := 0) rfl
  have q1 := j2.cell (i := 1) rfl
  have q2 := j2.cell (i := 2) rfl
  have qf := j2.frozen
  go_wp2
  have J := (((j2.set_ (i := 0) (.int .i64 0)).set_ (i := 1) (.int .i64 P.1)).set_ (i := 2) (.slice A1 P.2.length d1))
  have r0 := J.cell (i := 0) rfl
  have r1 := J.cell (i := 1) rfl
  have r2 := J.cell (i := 2) rfl
  refine bodyPost_ret (v := .agg #[.int .i64 0, .int .i64 P.1, .slice A1 P.2.length d1]) (by simp [results, Try.results34, go_sem, r0, r1, r2]) rfl ?_
  have T3 : Tu (fun q => q = w.heap.size + 1) w3 _ := ((((Tu.refl (fun q => q = w.heap.size + 1) w3).set_ (p := ⟨w.heap.size + 1, 0, none⟩) rfl (.int .i64 0)).set_ (p := ⟨w.heap.size + 1, 1, none⟩) rfl (.int .i64 P.1)).set_ (p := ⟨w.heap.size + 1, 2, none⟩) rfl (.slice A1 P.2.length d1))
  have hz4 := T3.size
  have hlo5 := hlo3.tu T3 (fun q hq e => by have := hq.1; omega)
  refine ⟨⟨_, _, rfl, (okP _ _ _).widen (T := tP A1 P.2.length P.2) hlo5 (by omega) (by omega)⟩, ?_⟩
  have b3 := htu.below (C := w.heap.size) (by simp; omega) (fun q hq => by rcases hq with ⟨q1, q2⟩ | hq <;> omega)
  exact ((((ac B0 b1).trans (b2.mono (by omega))).trans (bG.mono (by omega))).trans b3).trans (T3.below (C := w.heap.size) (by omega) (fun q hq => by omega))

end Go.Proofs.Ytbelplonlcdahaa
