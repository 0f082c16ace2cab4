/- SendMessage of the program. -/
import Derived.Test.YtjpnacgdefgalaaSdmN
import Derived.Test.YtjpnacgdefgalaaCutP
import Derived.Test.YtjpnacgdefgalaaSndG
import Derived.Test.YtjpnacgdefgalaaWinP
namespace Go.Proofs.Ytjpnacgdefgalaa
open Go.RowKit

def mesB (m : Nat) : Bool := decide (0 < m ∧ m ≤ 200)
theorem isMessage_any (B : Option Addr) (m d : Nat) (w : World) (hm : m ≤ 9223372036854775807) :
    Calls Try.prog 99 #[.slice B m d] w fun e w' => e = .returned (.bool (mesB m)) ∧ w = w' := by
  unfold mesB
  by_cases h0 : m = 0
  · subst h0
    go_enter Try.func99, Try.ntmps99
    go_wp2
    go_ret
    exact ⟨rfl, rfl⟩
  · by_cases h1 : m ≤ 200
    · rw [decide_eq_true (by omega)]
      have t0 : decide ((m : Int) > 0) = true := by simp; omega
      have t1 : decide ((m : Int) ≤ 200) = true := by simp; omega
      go_enter Try.func99, Try.ntmps99
      go_wp2
      go_ret
      exact ⟨rfl, rfl⟩
    · rw [decide_eq_false (by omega)]
      have t0 : decide ((m : Int) > 0) = true := by simp; omega
      have t1 : decide ((m : Int) ≤ 200) = false := by simp; omega
      go_enter Try.func99, Try.ntmps99
      go_wp2
      go_ret
      exact ⟨rfl, rfl⟩

set_option linter.unusedVariables false in
set_option maxRecDepth 100000 in
set_option maxHeartbeats 4000000 in
theorem implSendFault_any (base : Int) (A : Option Addr) (n c : Nat) (els : List PartD) (Bm : Option Addr) (m d : Nat) (l : List Int) (w : World) (h : Lst PartD.cels 4 w A n els) (hb : Bs w Bm m l) (hmd : m ≤ d) (z : Int) (hz : senF base els = z) (h0 : z ≠ 0) (hn : n ≤ 1048576) :
    Calls Try.prog 33 #[.agg #[.int .i64 base, .slice A n c], .slice Bm m d] w fun x w' => x = .returned (.agg #[.int .i64 z, .int .i64 0, .slice none 0 0]) ∧ Below w.heap.size w w' := by
  have hsf := fun W L => implSenderFault_any base A n c els W L hn
  rw [hz] at hsf
  have t0 : (z != 0) = true := by simpa using h0
  clear hz
  have Z0 := (Stc.new (w.alloc (.cells #[.int .i64 base, .slice A n c] 36)) 61 [.int .i64 0, .int .i64 0, .slice none 0 0] _ rfl)
  have B0 := ab (ab (Below.refl _ w) (.cells #[.int .i64 base, .slice A n c] 36)) (.cells #[.int .i64 0, .int .i64 0, .slice none 0 0] 61)
  have S0 := (Stc.new w 36 [.int .i64 base, .slice A n c] _ rfl).alloc (.cells #[.int .i64 0, .int .i64 0, .slice none 0 0] 61)
  simp only [World.size_alloc] at Z0
  have HL := h.below B0
  have s0 := S0.cell (i := 0) rfl
  have s1 := S0.cell (i := 1) rfl
  go_enter Try.func33, Try.ntmps33
  go_wp2_with fail
  refine (hsf _ HL).mono ?_
  rintro x w1 ⟨rfl, b1⟩
  have j2 := Z0.below b1 (by simp)
  have q0 := j2.cell (i := 0) rfl
  have q1 := j2.cell (i := 1) rfl
  have q2 := j2.cell (i := 2) rfl
  have qf := j2.frozen
  go_wp2
  have J := (((j2.set_ (i := 0) (.int .i64 z)).set_ (i := 1) (.int .i64 0)).set_ (i := 2) (.slice none 0 0))
  have r0 := J.cell (i := 0) rfl
  have r1 := J.cell (i := 1) rfl
  have r2 := J.cell (i := 2) rfl
  refine bodyPost_ret (v := .agg #[.int .i64 z, .int .i64 0, .slice none 0 0]) (by simp [results, Try.results33, go_sem, r0, r1, r2]) rfl ?_
  have T3 : Tu (fun q => q = w.heap.size + 1) w1 _ := ((((Tu.refl (fun q => q = w.heap.size + 1) w1).set_ (p := ⟨w.heap.size + 1, 0, none⟩) rfl (.int .i64 z)).set_ (p := ⟨w.heap.size + 1, 1, none⟩) rfl (.int .i64 0)).set_ (p := ⟨w.heap.size + 1, 2, none⟩) rfl (.slice none 0 0))
  exact ⟨rfl, (ac B0 b1).trans (T3.below (C := w.heap.size) (by have := b1.size; simp at this; omega) (fun q hq => by omega))⟩

set_option linter.unusedVariables false in
set_option maxRecDepth 100000 in
set_option maxHeartbeats 4000000 in
theorem implSendMany_any (base : Int) (A : Option Addr) (n c : Nat) (els : List PartD) (Bm : Option Addr) (m d : Nat) (l : List Int) (w : World) (h : Lst PartD.cels 4 w A n els) (hb : Bs w Bm m l) (hmd : m ≤ d) (h0 : senF base els = 0) (h1 : mesB m = false) (hm : m ≤ 1048576) (hn : n ≤ 1048576) :
    Calls Try.prog 33 #[.agg #[.int .i64 base, .slice A n c], .slice Bm m d] w fun x w' => x = .returned (.agg #[.int .i64 2, .int .i64 0, .slice none 0 0]) ∧ Below w.heap.size w w' := by
  have hsf := fun W L => implSenderFault_any base A n c els W L hn
  have hmes := fun W => isMessage_any Bm m d W (by omega)
  rw [h0] at hsf
  rw [h1] at hmes
  clear h0 h1
  have Z0 := (Stc.new (w.alloc (.cells #[.int .i64 base, .slice A n c] 36)) 61 [.int .i64 0, .int .i64 0, .slice none 0 0] _ rfl)
  have B0 := ab (ab (Below.refl _ w) (.cells #[.int .i64 base, .slice A n c] 36)) (.cells #[.int .i64 0, .int .i64 0, .slice none 0 0] 61)
  have S0 := (Stc.new w 36 [.int .i64 base, .slice A n c] _ rfl).alloc (.cells #[.int .i64 0, .int .i64 0, .slice none 0 0] 61)
  simp only [World.size_alloc] at Z0
  have HL := h.below B0
  have s0 := S0.cell (i := 0) rfl
  have s1 := S0.cell (i := 1) rfl
  go_enter Try.func33, Try.ntmps33
  go_wp2_with fail
  refine (hsf _ HL).mono ?_
  rintro x w1 ⟨rfl, b1⟩
  go_wp2_with fail
  refine (hmes _).mono ?_
  rintro x w1' ⟨rfl, rfl⟩
  have j2 := Z0.below b1 (by simp)
  have q0 := j2.cell (i := 0) rfl
  have q1 := j2.cell (i := 1) rfl
  have q2 := j2.cell (i := 2) rfl
  have qf := j2.frozen
  go_wp2
  have J := (((j2.set_ (i := 0) (.int .i64 2)).set_ (i := 1) (.int .i64 0)).set_ (i := 2) (.slice none 0 0))
  have r0 := J.cell (i := 0) rfl
  have r1 := J.cell (i := 1) rfl
  have r2 := J.cell (i := 2) rfl
  refine bodyPost_ret (v := .agg #[.int .i64 2, .int .i64 0, .slice none 0 0]) (by simp [results, Try.results33, go_sem, r0, r1, r2]) rfl ?_
  have T3 : Tu (fun q => q = w.heap.size + 1) w1 _ := ((((Tu.refl (fun q => q = w.heap.size + 1) w1).set_ (p := ⟨w.heap.size + 1, 0, none⟩) rfl (.int .i64 2)).set_ (p := ⟨w.heap.size + 1, 1, none⟩) rfl (.int .i64 0)).set_ (p := ⟨w.heap.size + 1, 2, none⟩) rfl (.slice none 0 0))
  exact ⟨rfl, (ac B0 b1).trans (T3.below (C := w.heap.size) (by have := b1.size; simp at this; omega) (fun q hq => by omega))⟩

set_option linter.unusedVariables false in
set_option maxRecDepth 100000 in
set_option maxHeartbeats 4000000 in
theorem implSendFull_any (base : Int) (A : Option Addr) (n c : Nat) (els : List PartD) (Bm : Option Addr) (m d : Nat) (l : List Int) (w : World) (h : Lst PartD.cels 4 w A n els) (hb : Bs w Bm m l) (hmd : m ≤ d) (h0 : senF base els = 0) (h1 : mesB m = true) (h3 : fullB base n m = true) (hn : n ≤ 1048576) :
    Calls Try.prog 33 #[.agg #[.int .i64 base, .slice A n c], .slice Bm m d] w fun x w' => x = .returned (.agg #[.int .i64 7, .int .i64 0, .slice none 0 0]) ∧ Below w.heap.size w w' := by
  have hsf := fun W L => implSenderFault_any base A n c els W L hn
  obtain ⟨hm0, hm1⟩ : 0 < m ∧ m ≤ 200 := of_decide_eq_true h1
  have hmes := fun W => isMessage_any Bm m d W (by omega)
  obtain ⟨hb0, hb1, hnl, hel⟩ := senF_zero h0
  have hl := hb.len
  obtain ⟨bb, boff, rfl, hbl, hbc⟩ := hb.at_ hm0
  have hcut := fun W H => cut_any bb boff m d l W H hm0 hm1 hmd
  obtain ⟨q, hq⟩ : ∃ q, q = cntL l := ⟨_, rfl⟩
  rw [← hq] at hcut
  have hqm : q = (m + 31) / 32 := by rw [hq]; unfold cntL; rw [hl]
  have hq7 : q ≤ 7 := by omega
  have hwN : IntKind.i64.wrap ((n : Int) + (q : Int)) = ((n + q : Nat) : Int) := by rw [IntKind.wrap_i64]; push_cast; omega
  unfold fullB at h3
  rw [← hqm] at h3
  rw [h0] at hsf
  rw [h1] at hmes
  obtain ⟨N, hN⟩ : ∃ N, N = n + q := ⟨_, rfl⟩
  rw [← hN] at hwN h3
  have hnum := fun W => hasNumbers_any base N (by omega) W
  clear h0 h1 hbc hel hq hqm hl
  have Z0 := (Stc.new (w.alloc (.cells #[.int .i64 base, .slice A n c] 36)) 61 [.int .i64 0, .int .i64 0, .slice none 0 0] _ rfl)
  have B0 := ab (ab (Below.refl _ w) (.cells #[.int .i64 base, .slice A n c] 36)) (.cells #[.int .i64 0, .int .i64 0, .slice none 0 0] 61)
  have S0 := (Stc.new w 36 [.int .i64 base, .slice A n c] _ rfl).alloc (.cells #[.int .i64 0, .int .i64 0, .slice none 0 0] 61)
  simp only [World.size_alloc] at Z0
  have HL := h.below B0
  have HB := hb.below B0
  have s0 := S0.cell (i := 0) rfl
  have s1 := S0.cell (i := 1) rfl
  go_enter Try.func33, Try.ntmps33
  go_wp2_with fail
  refine (hsf _ HL).mono ?_
  rintro x w1 ⟨rfl, b1⟩
  go_wp2_with fail
  refine (hmes _).mono ?_
  rintro x w1' ⟨rfl, rfl⟩
  go_wp2_with fail
  refine (hcut _ (HB.below b1)).mono ?_
  rintro x w2 ⟨⟨A2, c2, rfl, _, _⟩, b2⟩
  have hz1 := b1.size
  simp only [World.size_alloc] at hz1
  have S2 := (S0.below b1 (by simp; omega)).below b2 (by omega)
  have s20 := S2.cell (i := 0) rfl
  have s21 := S2.cell (i := 1) rfl
  have j2 := (Z0.below b1 (by simp)).below b2 (by omega)
  have q0 := j2.cell (i := 0) rfl
  have q1 := j2.cell (i := 1) rfl
  have q2 := j2.cell (i := 2) rfl
  have qf := j2.frozen
  have J := (((j2.set_ (i := 0) (.int .i64 7)).set_ (i := 1) (.int .i64 0)).set_ (i := 2) (.slice none 0 0))
  have r0 := J.cell (i := 0) rfl
  have r1 := J.cell (i := 1) rfl
  have r2 := J.cell (i := 2) rfl
  have T3 : Tu (fun q => q = w.heap.size + 1) w2 _ := ((((Tu.refl (fun q => q = w.heap.size + 1) w2).set_ (p := ⟨w.heap.size + 1, 0, none⟩) rfl (.int .i64 7)).set_ (p := ⟨w.heap.size + 1, 1, none⟩) rfl (.int .i64 0)).set_ (p := ⟨w.heap.size + 1, 2, none⟩) rfl (.slice none 0 0))
  have FIN := ((ac B0 b1).trans (b2.mono (by omega))).trans (T3.below (C := w.heap.size) (by have := b2.size; omega) (fun q hq => by omega))
  by_cases hN2 : 24 < N
  · have t0 : decide ((N : Int) > 24) = true := by simp; omega
    clear hN h3 T3 J
    go_wp2
    refine bodyPost_ret (v := .agg #[.int .i64 7, .int .i64 0, .slice none 0 0]) (by simp [results, Try.results33, go_sem, r0, r1, r2]) rfl ?_
    exact ⟨rfl, FIN⟩
  · have t0 : decide ((N : Int) > 24) = false := by simp; omega
    have hnb : numsB base N = false := by
      unfold numsB
      rw [decide_eq_false hN2, Bool.false_or] at h3
      have := of_decide_eq_true h3
      exact decide_eq_false (by omega)
    rw [hnb] at hnum
    clear hN h3 T3 J
    go_wp2_with fail
    refine (hnum _).mono ?_
    rintro x w9 ⟨rfl, rfl⟩
    go_wp2
    refine bodyPost_ret (v := .agg #[.int .i64 7, .int .i64 0, .slice none 0 0]) (by simp [results, Try.results33, go_sem, r0, r1, r2]) rfl ?_
    exact ⟨rfl, FIN⟩

set_option linter.unusedVariables false in
set_option maxRecDepth 100000 in
set_option maxHeartbeats 4000000 in
theorem implSendOk_any (base : Int) (A : Option Addr) (n c : Nat) (els : List PartD) (Bm : Option Addr) (m d : Nat) (l : List Int) (w : World) (h : Lst PartD.cels 4 w A n els) (hb : Bs w Bm m l) (hmd : m ≤ d) (h0 : senF base els = 0) (h1 : mesB m = true) (h3 : fullB base n m = false) (hn : n ≤ 1048576) :
    Calls Try.prog 33 #[.agg #[.int .i64 base, .slice A n c], .slice Bm m d] w fun x w' => (∃ A0 d0, x = .returned (.agg #[.int .i64 0, .int .i64 base, .slice A0 (n + cntL l) d0]) ∧ (tP A0 (n + cntL l) (els ++ cutL l (cntL l))) w' (rng w.heap.size w'.heap.size)) ∧ Below w.heap.size w w' := by
  have hsf := fun W L => implSenderFault_any base A n c els W L hn
  obtain ⟨hm0, hm1⟩ : 0 < m ∧ m ≤ 200 := of_decide_eq_true h1
  have hmes := fun W => isMessage_any Bm m d W (by omega)
  obtain ⟨hb0, hb1, hnl, hel⟩ := senF_zero h0
  have hl := hb.len
  obtain ⟨bb, boff, rfl, hbl, hbc⟩ := hb.at_ hm0
  have hcut := fun W H => cut_any bb boff m d l W H hm0 hm1 hmd
  have Hn : Shut ((els ++ cutL l (cntL l)).length = n + cntL l) := ⟨by rw [List.length_append, cutL_len, h.len]⟩
  obtain ⟨q, hq⟩ : ∃ q, q = cntL l := ⟨_, rfl⟩
  rw [← hq] at hcut Hn ⊢
  have hqm : q = (m + 31) / 32 := by rw [hq]; unfold cntL; rw [hl]
  have hq7 : q ≤ 7 := by omega
  have hq0 : 0 < q := by omega
  obtain ⟨L, hL⟩ : ∃ L, L = cutL l q := ⟨_, rfl⟩
  rw [← hL] at hcut Hn ⊢
  have hwN : IntKind.i64.wrap ((n : Int) + (q : Int)) = ((n + q : Nat) : Int) := by rw [IntKind.wrap_i64]; push_cast; omega
  unfold fullB at h3
  rw [← hqm] at h3
  rw [h0] at hsf
  rw [h1] at hmes
  obtain ⟨N, hN⟩ : ∃ N, N = n + q := ⟨_, rfl⟩
  rw [← hN] at hwN h3 Hn ⊢
  have hnum := fun W => hasNumbers_any base N (by omega) W
  obtain ⟨e24, e99⟩ := Bool.or_eq_false_iff.1 h3
  have hN24 := of_decide_eq_false e24
  have hnb : numsB base N = true := by
    unfold numsB
    have := of_decide_eq_false e99
    exact decide_eq_true (by omega)
  rw [hnb] at hnum
  have t0 : decide ((N : Int) > 24) = false := by simp; omega
  have hpw := fun W (L : Lst PartD.cels 4 W A n els) => partWindow_any base A n c els W L hn (fun e he => by have := (hel e he).1; omega)
  have Hl := Shut.mk h.len
  have hn24 : els.length ≤ 10000000 := by rw [h.len]; omega
  clear h0 h1 hbc hel hq hqm hl hN h3 e24 e99 hnb hL hnl
  have Z0 := (Stc.new (w.alloc (.cells #[.int .i64 base, .slice A n c] 36)) 61 [.int .i64 0, .int .i64 0, .slice none 0 0] _ rfl)
  have B0 := ab (ab (Below.refl _ w) (.cells #[.int .i64 base, .slice A n c] 36)) (.cells #[.int .i64 0, .int .i64 0, .slice none 0 0] 61)
  have S0 := (Stc.new w 36 [.int .i64 base, .slice A n c] _ rfl).alloc (.cells #[.int .i64 0, .int .i64 0, .slice none 0 0] 61)
  simp only [World.size_alloc] at Z0
  have HL := h.below B0
  have HB := hb.below B0
  have s0 := S0.cell (i := 0) rfl
  have s1 := S0.cell (i := 1) rfl
  go_enter Try.func33, Try.ntmps33
  go_wp2_with fail
  refine (hsf _ HL).mono ?_
  rintro x w1 ⟨rfl, b1⟩
  go_wp2_with fail
  refine (hmes _).mono ?_
  rintro x w1' ⟨rfl, rfl⟩
  go_wp2_with fail
  refine (hcut _ (HB.below b1)).mono ?_
  rintro x w2 ⟨⟨A2, c2, rfl, hrm2, hlo2⟩, b2⟩
  have hz1 := b1.size
  simp only [World.size_alloc] at hz1
  have hz2 := b2.size
  have S2 := (S0.below b1 (by simp; omega)).below b2 (by omega)
  have s20 := S2.cell (i := 0) rfl
  have s21 := S2.cell (i := 1) rfl
  go_wp2_with fail
  refine (hnum _).mono ?_
  rintro x w9 ⟨rfl, rfl⟩
  go_wp2_with fail
  refine (hpw _ ((HL.below b1).below b2)).mono ?_
  rintro x w3 ⟨⟨g, v, rfl, hg, hSw, hap⟩, b3⟩
  have hz3 := b3.size
  have hgl := hSw.lt
  have hlo3 := hlo2.below b3 (Nat.le_refl _)
  obtain ⟨A7, c7, rfl, hrm7, _⟩ := hap.lo Hl.out
  have g0 := hSw.cell (i := 0) rfl
  have g1 := hSw.cell (i := 1) rfl
  have gf := hSw.frozen
  go_wp2_with (at_builtin; refine wpList_ap_many (cels := PartD.cels) Try.underlying34 info_Part rfl (by decide) (by decide) (fun _ => rfl) onePart rfl _ _ rfl w3 (g + 1) w1.heap.size _ els hap (by omega) (by omega) hn24 _ A2 q c2 L hlo3 hq0 (by omega) (fun b hb => ⟨hb.1, by have := hb.2; omega⟩) (fun b => b = g) (fun b hb => ⟨by omega, fun hF => by have := hF.2; omega⟩) rfl rfl ?_; intro v4 w4 hap4 hb4 hlay helse; obtain ⟨A4, c4, rfl, _, _⟩ := hap4.ap.lo Hn.out; have hS4 : Stc w4 g [.int .i64 base, .slice A7 n c7] 135 := (hb4.block g (by omega)).trans hSw; have y0 := hS4.cell (i := 0) rfl; have y1 := hS4.cell (i := 1) rfl; have yf := hS4.frozen)
  have hS5 := hS4.set_ (i := 1) (.slice A4 N c4)
  have hap5 := hap4.far (p := ⟨g, 1, none⟩) rfl (.slice A4 N c4)
  obtain ⟨A4', c4', e4, _, hlo5⟩ := hap5.ap.lo Hn.out
  injection e4 with e4 _ e4'
  subst e4 e4'
  have hz4 := hb4.size
  refine (senderOf_any g base A4 N c4 _ hS5).mono ?_
  rintro x w5 ⟨rfl, b5⟩
  have hz5 := b5.size
  simp only [World.size_setCell] at hz5 hlo5
  have hlo6 := hlo5.below b5 (by simp)
  have j2 := ((((Z0.below b1 (by simp)).below b2 (by omega)).below b3 (by omega)).below hb4 (by omega) |>.far (p := ⟨g, 1, none⟩) (by show ¬ (w.heap.size + 1 = g); omega) (.slice A4 N c4)).below b5 (by simp; omega)
  have q0 := j2.cell (i := 0) rfl
  have q1 := j2.cell (i := 1) rfl
  have q2 := j2.cell (i := 2) rfl
  have qf := j2.frozen
  go_wp2
  have J := (((j2.set_ (i := 0) (.int .i64 0)).set_ (i := 1) (.int .i64 base)).set_ (i := 2) (.slice A4 N c4))
  have r0 := J.cell (i := 0) rfl
  have r1 := J.cell (i := 1) rfl
  have r2 := J.cell (i := 2) rfl
  refine bodyPost_ret (v := .agg #[.int .i64 0, .int .i64 base, .slice A4 N c4]) (by simp [results, Try.results33, go_sem, r0, r1, r2]) rfl ?_
  have T3 : Tu (fun q => q = w.heap.size + 1) w5 _ := ((((Tu.refl (fun q => q = w.heap.size + 1) w5).set_ (p := ⟨w.heap.size + 1, 0, none⟩) rfl (.int .i64 0)).set_ (p := ⟨w.heap.size + 1, 1, none⟩) rfl (.int .i64 base)).set_ (p := ⟨w.heap.size + 1, 2, none⟩) rfl (.slice A4 N c4))
  have hz6 := T3.size
  have hlo7 := hlo6.tu T3 (fun q hq e => by have := hq.1; omega)
  refine ⟨⟨_, _, rfl, (okP _ _ _).widen (T := tP A4 N (els ++ L)) hlo7 (by omega) (by omega)⟩, ?_⟩
  exact (((((ac B0 b1).trans (b2.mono (by omega))).trans (b3.mono (by omega))).trans (hb4.mono (by omega))).setCell (p := ⟨g, 1, none⟩) (by show w.heap.size ≤ g; omega) _ |>.trans (b5.mono (by simp; omega))).trans (T3.below (C := w.heap.size) (by omega) (fun q hq => by omega))
end Go.Proofs.Ytjpnacgdefgalaa
