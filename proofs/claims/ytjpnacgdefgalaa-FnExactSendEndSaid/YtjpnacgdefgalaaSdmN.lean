/- SendMessage of the model. -/
import Derived.Test.YtjpnacgdefgalaaSdmS
namespace Go.Proofs.Ytjpnacgdefgalaa
open Go.RowKit

set_option linter.unusedVariables false in
set_option maxRecDepth 100000 in
set_option maxHeartbeats 4000000 in
theorem specSendFault_any (base : Int) (A : Option Addr) (n c : Nat) (els : List PartD) (Bm : Option Addr) (m d : Nat) (l : List Int) (w : World) (h : Lst PartD.cels 4 w A n els) (hb : Bs w Bm m l) (hmd : m ≤ d) (z : Int) (hz : senF base els = z) (h0 : z ≠ 0) (hn : n ≤ 1048576) :
    Calls Try.prog 31 #[.agg #[.int .i64 base, .slice A n c], .slice Bm m d] w fun x w' => x = .returned (.agg #[.int .i64 z, .int .i64 0, .slice none 0 0]) ∧ Below w.heap.size w w' := by
  have hsf := fun W L => specSenderFault_any base A n c els W L hn
  rw [hz] at hsf
  have t0 : (z != 0) = true := by simpa using h0
  clear hz
  have Z0 := (Stc.new (w.alloc (.cells #[.int .i64 base, .slice A n c] 36)) 61 [.int .i64 0, .int .i64 0, .slice none 0 0] _ rfl)
  have B0 := ab (ab (Below.refl _ w) (.cells #[.int .i64 base, .slice A n c] 36)) (.cells #[.int .i64 0, .int .i64 0, .slice none 0 0] 61)
  have S0 := (Stc.new w 36 [.int .i64 base, .slice A n c] _ rfl).alloc (.cells #[.int .i64 0, .int .i64 0, .slice none 0 0] 61)
  simp only [World.size_alloc] at Z0
  have HL := h.below B0
  have s0 := S0.cell (i := 0) rfl
  have s1 := S0.cell (i := 1) rfl
  go_enter Try.func31, Try.ntmps31
  go_wp2_with fail
  refine (hsf _ HL).mono ?_
  rintro x w1 ⟨rfl, b1⟩
  have j2 := Z0.below b1 (by simp)
  have q0 := j2.cell (i := 0) rfl
  have q1 := j2.cell (i := 1) rfl
  have q2 := j2.cell (i := 2) rfl
  have qf := j2.frozen
  go_wp2
  have J := (((j2.set_ (i := 0) (.int .i64 z)).set_ (i := 1) (.int .i64 0)).set_ (i := 2) (.slice none 0 0))
  have r0 := J.cell (i := 0) rfl
  have r1 := J.cell (i := 1) rfl
  have r2 := J.cell (i := 2) rfl
  refine bodyPost_ret (v := .agg #[.int .i64 z, .int .i64 0, .slice none 0 0]) (by simp [results, Try.results31, go_sem, r0, r1, r2]) rfl ?_
  have T3 : Tu (fun q => q = w.heap.size + 1) w1 _ := ((((Tu.refl (fun q => q = w.heap.size + 1) w1).set_ (p := ⟨w.heap.size + 1, 0, none⟩) rfl (.int .i64 z)).set_ (p := ⟨w.heap.size + 1, 1, none⟩) rfl (.int .i64 0)).set_ (p := ⟨w.heap.size + 1, 2, none⟩) rfl (.slice none 0 0))
  exact ⟨rfl, (ac B0 b1).trans (T3.below (C := w.heap.size) (by have := b1.size; simp at this; omega) (fun q hq => by omega))⟩

set_option linter.unusedVariables false in
set_option maxRecDepth 100000 in
set_option maxHeartbeats 4000000 in
theorem specSendEmpty_any (base : Int) (A : Option Addr) (n c : Nat) (els : List PartD) (Bm : Option Addr) (m d : Nat) (l : List Int) (w : World) (h : Lst PartD.cels 4 w A n els) (hb : Bs w Bm m l) (hmd : m ≤ d) (h0 : senF base els = 0) (h1 : m = 0) (hn : n ≤ 1048576) :
    Calls Try.prog 31 #[.agg #[.int .i64 base, .slice A n c], .slice Bm m d] w fun x w' => x = .returned (.agg #[.int .i64 2, .int .i64 0, .slice none 0 0]) ∧ Below w.heap.size w w' := by
  have hsf := fun W L => specSenderFault_any base A n c els W L hn
  rw [h0] at hsf
  clear h0
  subst h1
  have Z0 := (Stc.new (w.alloc (.cells #[.int .i64 base, .slice A n c] 36)) 61 [.int .i64 0, .int .i64 0, .slice none 0 0] _ rfl)
  have B0 := ab (ab (Below.refl _ w) (.cells #[.int .i64 base, .slice A n c] 36)) (.cells #[.int .i64 0, .int .i64 0, .slice none 0 0] 61)
  have S0 := (Stc.new w 36 [.int .i64 base, .slice A n c] _ rfl).alloc (.cells #[.int .i64 0, .int .i64 0, .slice none 0 0] 61)
  simp only [World.size_alloc] at Z0
  have HL := h.below B0
  have s0 := S0.cell (i := 0) rfl
  have s1 := S0.cell (i := 1) rfl
  go_enter Try.func31, Try.ntmps31
  go_wp2_with fail
  refine (hsf _ HL).mono ?_
  rintro x w1 ⟨rfl, b1⟩
  have j2 := Z0.below b1 (by simp)
  have q0 := j2.cell (i := 0) rfl
  have q1 := j2.cell (i := 1) rfl
  have q2 := j2.cell (i := 2) rfl
  have qf := j2.frozen
  go_wp2
  have J := (((j2.set_ (i := 0) (.int .i64 2)).set_ (i := 1) (.int .i64 0)).set_ (i := 2) (.slice none 0 0))
  have r0 := J.cell (i := 0) rfl
  have r1 := J.cell (i := 1) rfl
  have r2 := J.cell (i := 2) rfl
  refine bodyPost_ret (v := .agg #[.int .i64 2, .int .i64 0, .slice none 0 0]) (by simp [results, Try.results31, go_sem, r0, r1, r2]) rfl ?_
  have T3 : Tu (fun q => q = w.heap.size + 1) w1 _ := ((((Tu.refl (fun q => q = w.heap.size + 1) w1).set_ (p := ⟨w.heap.size + 1, 0, none⟩) rfl (.int .i64 2)).set_ (p := ⟨w.heap.size + 1, 1, none⟩) rfl (.int .i64 0)).set_ (p := ⟨w.heap.size + 1, 2, none⟩) rfl (.slice none 0 0))
  exact ⟨rfl, (ac B0 b1).trans (T3.below (C := w.heap.size) (by have := b1.size; simp at this; omega) (fun q hq => by omega))⟩

set_option linter.unusedVariables false in
set_option maxRecDepth 100000 in
set_option maxHeartbeats 4000000 in
theorem specSendMany_any (base : Int) (A : Option Addr) (n c : Nat) (els : List PartD) (Bm : Option Addr) (m d : Nat) (l : List Int) (w : World) (h : Lst PartD.cels 4 w A n els) (hb : Bs w Bm m l) (hmd : m ≤ d) (h0 : senF base els = 0) (h1 : 200 < m) (hn : n ≤ 1048576) :
    Calls Try.prog 31 #[.agg #[.int .i64 base, .slice A n c], .slice Bm m d] w fun x w' => x = .returned (.agg #[.int .i64 2, .int .i64 0, .slice none 0 0]) ∧ Below w.heap.size w w' := by
  have hsf := fun W L => specSenderFault_any base A n c els W L hn
  rw [h0] at hsf
  clear h0
  have t0 : decide ((m : Int) < 1) = false := by simp; omega
  have t1 : decide ((m : Int) > 200) = true := by simp; omega
  have t2 : ((m : Int) == 0) = false := by simp; omega
  clear h1
  have Z0 := (Stc.new (w.alloc (.cells #[.int .i64 base, .slice A n c] 36)) 61 [.int .i64 0, .int .i64 0, .slice none 0 0] _ rfl)
  have B0 := ab (ab (Below.refl _ w) (.cells #[.int .i64 base, .slice A n c] 36)) (.cells #[.int .i64 0, .int .i64 0, .slice none 0 0] 61)
  have S0 := (Stc.new w 36 [.int .i64 base, .slice A n c] _ rfl).alloc (.cells #[.int .i64 0, .int .i64 0, .slice none 0 0] 61)
  simp only [World.size_alloc] at Z0
  have HL := h.below B0
  have s0 := S0.cell (i := 0) rfl
  have s1 := S0.cell (i := 1) rfl
  go_enter Try.func31, Try.ntmps31
  go_wp2_with fail
  refine (hsf _ HL).mono ?_
  rintro x w1 ⟨rfl, b1⟩
  have j2 := Z0.below b1 (by simp)
  have q0 := j2.cell (i := 0) rfl
  have q1 := j2.cell (i := 1) rfl
  have q2 := j2.cell (i := 2) rfl
  have qf := j2.frozen
  go_wp2
  have J := (((j2.set_ (i := 0) (.int .i64 2)).set_ (i := 1) (.int .i64 0)).set_ (i := 2) (.slice none 0 0))
  have r0 := J.cell (i := 0) rfl
  have r1 := J.cell (i := 1) rfl
  have r2 := J.cell (i := 2) rfl
  refine bodyPost_ret (v := .agg #[.int .i64 2, .int .i64 0, .slice none 0 0]) (by simp [results, Try.results31, go_sem, r0, r1, r2]) rfl ?_
  have T3 : Tu (fun q => q = w.heap.size + 1) w1 _ := ((((Tu.refl (fun q => q = w.heap.size + 1) w1).set_ (p := ⟨w.heap.size + 1, 0, none⟩) rfl (.int .i64 2)).set_ (p := ⟨w.heap.size + 1, 1, none⟩) rfl (.int .i64 0)).set_ (p := ⟨w.heap.size + 1, 2, none⟩) rfl (.slice none 0 0))
  exact ⟨rfl, (ac B0 b1).trans (T3.below (C := w.heap.size) (by have := b1.size; simp at this; omega) (fun q hq => by omega))⟩


set_option linter.unusedVariables false in
set_option maxRecDepth 100000 in
set_option maxHeartbeats 4000000 in
theorem specSendFull_any (base : Int) (A : Option Addr) (n c : Nat) (els : List PartD) (Bm : Option Addr) (m d : Nat) (l : List Int) (w : World) (h : Lst PartD.cels 4 w A n els) (hb : Bs w Bm m l) (hmd : m ≤ d) (h0 : senF base els = 0) (h1 : 0 < m) (h2 : m ≤ 200) (h3 : fullB base n m = true) (hn : n ≤ 1048576) :
    Calls Try.prog 31 #[.agg #[.int .i64 base, .slice A n c], .slice Bm m d] w fun x w' => x = .returned (.agg #[.int .i64 7, .int .i64 0, .slice none 0 0]) ∧ Below w.heap.size w w' := by
  have hsf := fun W L => specSenderFault_any base A n c els W L hn
  obtain ⟨hb0, hb1, hnl, hel⟩ := senF_zero h0
  have hl := h.len
  have Hl := Shut.mk hl
  have hfl := fun g A c B d W S => l8Full_any g base A n c B m d W S (by omega) (by omega) hb0 (by omega)
  rw [h0] at hsf
  rw [h3] at hfl
  have t0 : decide ((m : Int) < 1) = false := by simp; omega
  have t1 : decide ((m : Int) > 200) = false := by simp; omega
  clear h0 h1 h2 h3 hel hl
  have Z0 := (Stc.new (w.alloc (.cells #[.int .i64 base, .slice A n c] 36)) 61 [.int .i64 0, .int .i64 0, .slice none 0 0] _ rfl)
  have B0 := ab (ab (Below.refl _ w) (.cells #[.int .i64 base, .slice A n c] 36)) (.cells #[.int .i64 0, .int .i64 0, .slice none 0 0] 61)
  have S0 := (Stc.new w 36 [.int .i64 base, .slice A n c] _ rfl).alloc (.cells #[.int .i64 0, .int .i64 0, .slice none 0 0] 61)
  simp only [World.size_alloc] at Z0
  have HL := h.below B0
  have s0 := S0.cell (i := 0) rfl
  have s1 := S0.cell (i := 1) rfl
  go_enter Try.func31, Try.ntmps31
  go_wp2_with fail
  refine (hsf _ HL).mono ?_
  rintro x w1 ⟨rfl, b1⟩
  go_wp2_with fail
  refine (hfl _ _ _ _ _ _ (S0.below b1 (by simp; omega))).mono ?_
  rintro x w2 ⟨rfl, rfl⟩
  have j2 := Z0.below b1 (by simp)
  have q0 := j2.cell (i := 0) rfl
  have q1 := j2.cell (i := 1) rfl
  have q2 := j2.cell (i := 2) rfl
  have qf := j2.frozen
  go_wp2
  have J := (((j2.set_ (i := 0) (.int .i64 7)).set_ (i := 1) (.int .i64 0)).set_ (i := 2) (.slice none 0 0))
  have r0 := J.cell (i := 0) rfl
  have r1 := J.cell (i := 1) rfl
  have r2 := J.cell (i := 2) rfl
  refine bodyPost_ret (v := .agg #[.int .i64 7, .int .i64 0, .slice none 0 0]) (by simp [results, Try.results31, go_sem, r0, r1, r2]) rfl ?_
  have T3 : Tu (fun q => q = w.heap.size + 1) w1 _ := ((((Tu.refl (fun q => q = w.heap.size + 1) w1).set_ (p := ⟨w.heap.size + 1, 0, none⟩) rfl (.int .i64 7)).set_ (p := ⟨w.heap.size + 1, 1, none⟩) rfl (.int .i64 0)).set_ (p := ⟨w.heap.size + 1, 2, none⟩) rfl (.slice none 0 0))
  exact ⟨rfl, (ac B0 b1).trans (T3.below (C := w.heap.size) (by have := b1.size; simp at this; omega) (fun q hq => by omega))⟩


set_option linter.unusedVariables false in
set_option maxRecDepth 100000 in
set_option maxHeartbeats 4000000 in
theorem specSendOk_any (base : Int) (A : Option Addr) (n c : Nat) (els : List PartD) (Bm : Option Addr) (m d : Nat) (l : List Int) (w : World) (h : Lst PartD.cels 4 w A n els) (hb : Bs w Bm m l) (hmd : m ≤ d) (h0 : senF base els = 0) (h1 : 0 < m) (h2 : m ≤ 200) (h3 : fullB base n m = false) (hn : n ≤ 1048576) :
    Calls Try.prog 31 #[.agg #[.int .i64 base, .slice A n c], .slice Bm m d] w fun x w' => (∃ A0 d0, x = .returned (.agg #[.int .i64 0, .int .i64 base, .slice A0 (n + cntL l) d0]) ∧ (tP A0 (n + cntL l) (els ++ cutL l (cntL l))) w' (rng w.heap.size w'.heap.size)) ∧ Below w.heap.size w w' := by
  have hsf := fun W L => specSenderFault_any base A n c els W L hn
  obtain ⟨hb0, hb1, hnl, hel⟩ := senF_zero h0
  have hl := h.len
  have Hl := Shut.mk hl
  have hfl := fun g A c B d W S => l8Full_any g base A n c B m d W S (by omega) (by omega) hb0 (by omega)
  rw [h0] at hsf
  rw [h3] at hfl
  have t0 : decide ((m : Int) < 1) = false := by simp; omega
  have t1 : decide ((m : Int) > 200) = false := by simp; omega
  have hcp := fun g W (S : Stc W g [.int .i64 base, .slice A n c] 36) (L : Lst PartD.cels 4 W A n els) => l8Sender_any g base A n c els W S L hn (fun e he => by have := (hel e he).1; omega)
  have hsd := fun g lo v W S hap hlo hB => l8Send_any g lo base v els Bm m d l W S hap hlo hB hmd (by omega) (by omega)
  have Hn : Shut ((els ++ cutL l (cntL l)).length = n + cntL l) := ⟨by rw [List.length_append, cutL_len, hl]⟩
  obtain ⟨P, hP⟩ : ∃ P, P = els ++ cutL l (cntL l) := ⟨_, rfl⟩
  obtain ⟨N, hN⟩ : ∃ N, N = n + cntL l := ⟨_, rfl⟩
  rw [← hP, ← hN] at Hn ⊢
  rw [← hP] at hsd
  clear hP hN hel h0 h1 h2 h3 hl
  have Z0 := (Stc.new (w.alloc (.cells #[.int .i64 base, .slice A n c] 36)) 61 [.int .i64 0, .int .i64 0, .slice none 0 0] _ rfl)
  have B0 := ab (ab (Below.refl _ w) (.cells #[.int .i64 base, .slice A n c] 36)) (.cells #[.int .i64 0, .int .i64 0, .slice none 0 0] 61)
  have S0 := (Stc.new w 36 [.int .i64 base, .slice A n c] _ rfl).alloc (.cells #[.int .i64 0, .int .i64 0, .slice none 0 0] 61)
  simp only [World.size_alloc] at Z0
  have HL := h.below B0
  have s0 := S0.cell (i := 0) rfl
  have s1 := S0.cell (i := 1) rfl
  go_enter Try.func31, Try.ntmps31
  go_wp2_with fail
  refine (hsf _ HL).mono ?_
  rintro x w1 ⟨rfl, b1⟩
  have hz1 := b1.size
  simp only [World.size_alloc] at hz1
  go_wp2_with fail
  refine (hfl _ _ _ _ _ _ (S0.below b1 (by simp; omega))).mono ?_
  rintro x w2 ⟨rfl, rfl⟩
  go_wp2_with fail
  refine (hcp _ _ (S0.below b1 (by simp; omega)) (HL.below b1)).mono ?_
  rintro x w2 ⟨⟨v, rfl, hap⟩, b2⟩
  have hz2 := b2.size
  have hbW : ∀ W, Below w1.heap.size w1 W → Bs W Bm m l := fun W hW => (hb.below B0).below b1 |>.below hW
  have G2 := Stc.new w2 36 [.int .i64 base, v] _ rfl
  have bG := ab (Below.refl _ w2) (.cells #[.int .i64 base, v] 36)
  have hapx := (Ap.apx hap (X := fun b => b = w2.heap.size) (fun b e => by rw [e]; exact Nat.le_refl _)).alloc (.cells #[.int .i64 base, v] 36)
  obtain ⟨A7, d7, rfl, _, _⟩ := hap.lo Hl.out
  go_wp2_with fail
  refine (hsd _ w1.heap.size _ _ G2 hapx hz2 (fun W hW => hbW W ((b2.trans (bG.mono hz2)).trans hW))).mono ?_
  rintro x w3 ⟨rfl, ⟨v3, G3, hap3⟩, b3⟩
  obtain ⟨A1, d1, rfl, hrm3, hlo3⟩ := hap3.ap.lo Hn.out
  have hz3 := b3.size
  simp only [World.size_alloc] at hz3
  have j2 := (((Z0.below b1 (by simp)).below b2 (by omega)).below bG (by omega)).below b3 (by omega)
  have g30 := G3.cell (i := 0) rfl
  have g31 := G3.cell (i := 1) rfl
  have q0 := j2.cell (i := 0) rfl
  have q1 := j2.cell (i := 1) rfl
  have q2 := j2.cell (i := 2) rfl
  have qf := j2.frozen
  go_wp2
  have J := (((j2.set_ (i := 0) (.int .i64 0)).set_ (i := 1) (.int .i64 base)).set_ (i := 2) (.slice A1 N d1))
  have r0 := J.cell (i := 0) rfl
  have r1 := J.cell (i := 1) rfl
  have r2 := J.cell (i := 2) rfl
  refine bodyPost_ret (v := .agg #[.int .i64 0, .int .i64 base, .slice A1 N d1]) (by simp [results, Try.results31, go_sem, r0, r1, r2]) rfl ?_
  have T3 : Tu (fun q => q = w.heap.size + 1) w3 _ := ((((Tu.refl (fun q => q = w.heap.size + 1) w3).set_ (p := ⟨w.heap.size + 1, 0, none⟩) rfl (.int .i64 0)).set_ (p := ⟨w.heap.size + 1, 1, none⟩) rfl (.int .i64 base)).set_ (p := ⟨w.heap.size + 1, 2, none⟩) rfl (.slice A1 N d1))
  have hz4 := T3.size
  have hlo5 := hlo3.tu T3 (fun q hq e => by have := hq.1; omega)
  refine ⟨⟨_, _, rfl, (okP _ _ _).widen (T := tP A1 N P) hlo5 (by omega) (by omega)⟩, ?_⟩
  exact ((((ac B0 b1).trans (b2.mono (by omega))).trans (bG.mono (by omega))).trans (b3.mono (by omega))).trans (T3.below (C := w.heap.size) (by omega) (fun q hq => by omega))

end Go.Proofs.Ytjpnacgdefgalaa
