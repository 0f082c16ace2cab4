/- HearAck of the program. -/
import Derived.Test.YtbelplonlcdahaaSldP
import Derived.Test.YtbelplonlcdahaaHakN
namespace Go.Proofs.Ytbelplonlcdahaa
open Go.RowKit

set_option linter.unusedVariables false in
set_option maxRecDepth 100000 in
set_option maxHeartbeats 4000000 in
theorem implHearFault_any (base ack mask : Int) (A : Option Addr) (n c : Nat) (els : List PartD) (w : World) (h : Lst PartD.cels 4 w A n els) (z : Int) (hz : senF base els = z) (h0 : z ≠ 0) (hn : n ≤ 1048576) :
    Calls Try.prog 31 #[.agg #[.int .i64 base, .slice A n c], .int .i64 ack, .int .i64 mask] w fun x w' => x = .returned (.agg #[.int .i64 z, .int .i64 0, .slice none 0 0]) ∧ Below w.heap.size w w' := by
  have hsf := fun W L => implSenderFault_any base A n c els W L hn
  rw [hz] at hsf
  have t0 : (z != 0) = true := by simpa using h0
  clear hz
  have Z0 := (Stc.new (w.alloc (.cells #[.int .i64 base, .slice A n c] 26)) 30 [.int .i64 0, .int .i64 0, .slice none 0 0] _ rfl)
  have B0 := ab (ab (Below.refl _ w) (.cells #[.int .i64 base, .slice A n c] 26)) (.cells #[.int .i64 0, .int .i64 0, .slice none 0 0] 30)
  have S0 := (Stc.new w 26 [.int .i64 base, .slice A n c] _ rfl).alloc (.cells #[.int .i64 0, .int .i64 0, .slice none 0 0] 30)
  simp only [World.size_alloc] at Z0
  have HL := h.below B0
  have s0 := S0.cell (i := 0) rfl
  have s1 := S0.cell (i := 1) rfl
  go_enter Try.func31, Try.ntmps31
  go_wp2_with fail
  refine (hsf _ HL).mono ?_
  rintro x w1 ⟨rfl, b1⟩
  have j2 := Z0.below b1 (by simp)
  have q0 := j2.cell (i := 0) rfl
  have q1 := j2.cell (i := 1) rfl
  have q2 := j2.cell (i := 2) rfl
  have qf := j2.frozen
  go_wp2
  have J := (((j2.set_ (i := 0) (.int .i64 z)).set_ (i := 1) (.int .i64 0)).set_ (i := 2) (.slice none 0 0))
  have r0 := J.cell (i := 0) rfl
  have r1 := J.cell (i := 1) rfl
  have r2 := J.cell (i := 2) rfl
  refine bodyPost_ret (v := .agg #[.int .i64 z, .int .i64 0, .slice none 0 0]) (by simp [results, Try.results31, go_sem, r0, r1, r2]) rfl ?_
  have T3 : Tu (fun q => q = w.heap.size + 1) w1 _ := ((((Tu.refl (fun q => q = w.heap.size + 1) w1).set_ (p := ⟨w.heap.size + 1, 0, none⟩) rfl (.int .i64 z)).set_ (p := ⟨w.heap.size + 1, 1, none⟩) rfl (.int .i64 0)).set_ (p := ⟨w.heap.size + 1, 2, none⟩) rfl (.slice none 0 0))
  exact ⟨rfl, (ac B0 b1).trans (T3.below (C := w.heap.size) (by have := b1.size; simp at this; omega) (fun q hq => by omega))⟩

set_option linter.unusedVariables false in
set_option maxRecDepth 100000 in
set_option maxHeartbeats 4000000 in
theorem implHearRange_any (base ack mask : Int) (A : Option Addr) (n c : Nat) (els : List PartD) (w : World) (h : Lst PartD.cels 4 w A n els) (h0 : senF base els = 0) (h1 : ackB ack mask = false) (hn : n ≤ 1048576) :
    Calls Try.prog 31 #[.agg #[.int .i64 base, .slice A n c], .int .i64 ack, .int .i64 mask] w fun x w' => x = .returned (.agg #[.int .i64 3, .int .i64 0, .slice none 0 0]) ∧ Below w.heap.size w w' := by
  have hsf := fun W L => implSenderFault_any base A n c els W L hn
  have hsl := fun W => isAck_any ack mask W
  rw [h0] at hsf
  rw [h1] at hsl
  clear h0 h1
  have Z0 := (Stc.new (w.alloc (.cells #[.int .i64 base, .slice A n c] 26)) 30 [.int .i64 0, .int .i64 0, .slice none 0 0] _ rfl)
  have B0 := ab (ab (Below.refl _ w) (.cells #[.int .i64 base, .slice A n c] 26)) (.cells #[.int .i64 0, .int .i64 0, .slice none 0 0] 30)
  have S0 := (Stc.new w 26 [.int .i64 base, .slice A n c] _ rfl).alloc (.cells #[.int .i64 0, .int .i64 0, .slice none 0 0] 30)
  simp only [World.size_alloc] at Z0
  have HL := h.below B0
  have s0 := S0.cell (i := 0) rfl
  have s1 := S0.cell (i := 1) rfl
  go_enter Try.func31, Try.ntmps31
  go_wp2_with fail
  refine (hsf _ HL).mono ?_
  rintro x w1 ⟨rfl, b1⟩
  have j2 := Z0.below b1 (by simp)
  go_wp2_with fail
  refine (hsl _).mono ?_
  rintro x w2 ⟨rfl, rfl⟩
  have q0 := j2.cell (i := 0) rfl
  have q1 := j2.cell (i := 1) rfl
  have q2 := j2.cell (i := 2) rfl
  have qf := j2.frozen
  go_wp2
  have J := (((j2.set_ (i := 0) (.int .i64 3)).set_ (i := 1) (.int .i64 0)).set_ (i := 2) (.slice none 0 0))
  have r0 := J.cell (i := 0) rfl
  have r1 := J.cell (i := 1) rfl
  have r2 := J.cell (i := 2) rfl
  refine bodyPost_ret (v := .agg #[.int .i64 3, .int .i64 0, .slice none 0 0]) (by simp [results, Try.results31, go_sem, r0, r1, r2]) rfl ?_
  have T3 : Tu (fun q => q = w.heap.size + 1) w1 _ := ((((Tu.refl (fun q => q = w.heap.size + 1) w1).set_ (p := ⟨w.heap.size + 1, 0, none⟩) rfl (.int .i64 3)).set_ (p := ⟨w.heap.size + 1, 1, none⟩) rfl (.int .i64 0)).set_ (p := ⟨w.heap.size + 1, 2, none⟩) rfl (.slice none 0 0))
  exact ⟨rfl, (ac B0 b1).trans (T3.below (C := w.heap.size) (by have := b1.size; simp at this; omega) (fun q hq => by omega))⟩


set_option linter.unusedVariables false in
set_option maxRecDepth 100000 in
set_option maxHeartbeats 4000000 in
theorem implHearOk_any (base ack mask : Int) (A : Option Addr) (n c : Nat) (els : List PartD) (w : World) (h : Lst PartD.cels 4 w A n els) (h0 : senF base els = 0) (h1 : ackB ack mask = true) (hn : n ≤ 1048576) :
    Calls Try.prog 31 #[.agg #[.int .i64 base, .slice A n c], .int .i64 ack, .int .i64 mask] w fun x w' => (∃ A0 d0, x = .returned (.agg #[.int .i64 0, .int .i64 (slid base (ackL ack mask base els)).1, .slice A0 (slid base (ackL ack mask base els)).2.length d0]) ∧ (tP A0 (slid base (ackL ack mask base els)).2.length (slid base (ackL ack mask base els)).2) w' (rng w.heap.size w'.heap.size)) ∧ Below w.heap.size w w' := by
  obtain ⟨⟨ha0, ha1⟩, hm0, hm1⟩ := ackB_split h1
  have hsf := fun W L => implSenderFault_any base A n c els W L hn
  have hsl := fun W => isAck_any ack mask W
  obtain ⟨hb0, hb1, hnl, hel⟩ := senF_zero h0
  rw [h0] at hsf
  rw [h1] at hsl
  have hl := h.len
  have Hl := Shut.mk hl
  have hn24 : n ≤ 24 := by omega
  have hpw := fun W (L : Lst PartD.cels 4 W A n els) => partWindow_any base A n c els W L hn (fun e he => by have := (hel e he).1; omega)
  have hsd := fun g A c F W S hg hFl L hr => slideP_any g base A n c (ackL ack mask base els) F W S hg hFl L hr (by omega) hb0 (by omega)
  obtain ⟨P, hP⟩ : ∃ P, P = slid base (ackL ack mask base els) := ⟨_, rfl⟩
  rw [← hP] at hsd ⊢
  have hso := fun g A n c W S => senderOf_any g P.1 A n c W S
  clear hP hel hnl h0 h1 hl
  have Z0 := (Stc.new (w.alloc (.cells #[.int .i64 base, .slice A n c] 26)) 30 [.int .i64 0, .int .i64 0, .slice none 0 0] _ rfl)
  have B0 := ab (ab (Below.refl _ w) (.cells #[.int .i64 base, .slice A n c] 26)) (.cells #[.int .i64 0, .int .i64 0, .slice none 0 0] 30)
  have S0 := (Stc.new w 26 [.int .i64 base, .slice A n c] _ rfl).alloc (.cells #[.int .i64 0, .int .i64 0, .slice none 0 0] 30)
  simp only [World.size_alloc] at Z0
  have HL := h.below B0
  have s0 := S0.cell (i := 0) rfl
  have s1 := S0.cell (i := 1) rfl
  go_enter Try.func31, Try.ntmps31
  go_wp2_with fail
  refine (hsf _ HL).mono ?_
  rintro x w1 ⟨rfl, b1⟩
  have hz1 := b1.size
  simp only [World.size_alloc] at hz1
  have s10 := (S0.below b1 (by simp; omega)).cell (i := 0) rfl
  have s11 := (S0.below b1 (by simp; omega)).cell (i := 1) rfl
  go_wp2_with fail
  refine (hsl _).mono ?_
  rintro x w1' ⟨rfl, rfl⟩
  go_wp2_with fail
  refine (hpw _ (HL.below b1)).mono ?_
  rintro x w2 ⟨⟨g, v, rfl, hg, hSw, hap⟩, b2⟩
  obtain ⟨A0, d0, rfl, hrm, hlo⟩ := hap.lo Hl.out
  have hz2 := b2.size
  have hgl := hSw.lt
  have v1 := hSw.cell (i := 1) rfl
  have HRM := Shut.mk hrm
  have Z2 := ((Z0.below b1 (by simp)).below b2 (by omega))
  have bb2 := (ac B0 b1).trans (b2.mono (by omega))
  clear hrm hap s0 s1 s10 s11 hpw hsf hsl h HL B0 b1 b2 Z0 S0
  go_wp2
  go_loopw [29] (fun i wr => ∃ k : Nat, k ≤ n ∧ i = .int .i64 k ∧ Lo PartD.cels 4 wr (rng (g + 1) w2.heap.size) A0 n (markd_ (ackE ack mask) one1 base els k) ∧ Stc wr g [.int .i64 base, .slice A0 n d0] 111 ∧ Tu (rng (g + 1) w2.heap.size) w2 wr) (fun i _ => n - (intOf i).toNat)
  case atStart => exact ⟨0, Nat.zero_le _, rfl, by rw [markd_zero_]; exact hlo, hSw, Tu.refl _ _⟩
  case round =>
    obtain ⟨k, hk, rfl, hlo, hS1, htu⟩ := hrel
    have u0 := hS1.cell (i := 0) rfl
    have u1 := hS1.cell (i := 1) rfl
    have hgl1 := hS1.lt
    clear v1 hSw
    by_cases hlt : k < n
    · have he : els[k]? = some (els[k]'(by rw [Hl.out]; exact hlt)) := List.getElem?_eq_getElem _
      generalize els[k]'(by rw [Hl.out]; exact hlt) = e at he
      have hst := markd_set_ (ackE ack mask) one1 base he
      have hidx : base + (sumE one1 (els.take k) : Int) = base + (k : Int) := by rw [sum_one, List.length_take, Nat.min_eq_left (by rw [Hl.out]; exact Nat.le_of_lt hlt)]
      rw [hidx] at hst
      have hget := markd_get_ (ackE ack mask) one1 base he
      obtain ⟨b, off, B, m, d, rfl, hF, hbl, hfz, c0, c1, c2, c3, hset⟩ := hlo.setGot hget
      have hbg : ¬ g = b := by have := hF.1; omega
      have hbg2 : ¬ b = g := by have := hF.1; omega
      obtain ⟨sq, hsq⟩ : ∃ sq, sq = base + (k : Int) := ⟨_, rfl⟩
      have hwq : IntKind.i64.wrap (base + (k : Int)) = sq := by rw [hsq]; exact IntWalk.i64_in _ (by omega)
      have hsame : (markd_ (ackE ack mask) one1 base els k).set k e = markd_ (ackE ack mask) one1 base els k := by
        apply List.ext_getElem? ; intro i
        by_cases hi : k = i
        · subst hi; rw [hget, List.getElem?_set_self (List.getElem?_eq_some_iff.1 hget).1]
        · rw [List.getElem?_set_ne hi]
      have Hsame := Shut.mk hsame
      have Hget := Shut.mk hget
      rw [← hsq] at hst
      have hq0 : 0 ≤ sq ∧ sq ≤ 11000 := by omega
      have Hst := Shut.mk hst
      have Hsq := Shut.mk hsq
      have hws := fun W => wasSent_any e B m d W
      have hsc := fun W => saysCame_any ack mask sq W ha0 ha1 hm0 hm1 hq0.1 (by omega)
      have t9 : decide ((k : Int) < (n : Int)) = true := by simp; omega
      clear hst hidx hget he hsq hsame hset hfz
      obtain ⟨cm, hcm⟩ : ∃ cm, cm = cameB ack mask sq := ⟨_, rfl⟩
      obtain ⟨sn, hsn⟩ : ∃ sn, sn = sentB e := ⟨_, rfl⟩
      rw [← hcm] at hsc
      rw [← hsn] at hws
      have Hcm := Shut.mk hcm
      have Hsn := Shut.mk hsn
      clear hcm hsn
      cases sn
      · have Hnx : Shut (Lo PartD.cels 4 wr (rng (g + 1) w2.heap.size) (some ⟨b, off, none⟩) n (markd_ (ackE ack mask) one1 base els (k + 1))) := ⟨by rw [← Hst.out, ackE_no (.inl Hsn.out.symm), Hsame.out]; exact hlo⟩
        clear hlo
        go_wp2_with fail
        refine (hws _).mono ?_
        rintro x w9 ⟨rfl, b9⟩
        have z9 := hS1.below b9 hgl1
        go_wp2
        go_roundw
        case rel => exact ⟨k + 1, by omega, by go_num, Hnx.out.below b9 (Nat.le_refl _), z9, htu.trans (Tu.ofBelow b9)⟩
        case measure => (simp [intOf]; omega)
      · cases cm
        · have Hnx : Shut (Lo PartD.cels 4 wr (rng (g + 1) w2.heap.size) (some ⟨b, off, none⟩) n (markd_ (ackE ack mask) one1 base els (k + 1))) := ⟨by rw [← Hst.out, ackE_no (.inr Hcm.out.symm), Hsame.out]; exact hlo⟩
          clear hlo
          go_wp2_with fail
          refine (hws _).mono ?_
          rintro x w9 ⟨rfl, b9⟩
          have z9 := hS1.below b9 hgl1
          have y0 := z9.cell (i := 0) rfl
          go_wp2_with fail
          refine (hsc _).mono ?_
          rintro x w9' ⟨rfl, rfl⟩
          go_wp2
          go_roundw
          case rel => exact ⟨k + 1, by omega, by go_num, Hnx.out.below b9 (Nat.le_refl _), z9, htu.trans (Tu.ofBelow b9)⟩
          case measure => (simp [intOf]; omega)
        · go_wp2_with fail
          refine (hws _).mono ?_
          rintro x w9 ⟨rfl, b9⟩
          have z9 := hS1.below b9 hgl1
          have y0 := z9.cell (i := 0) rfl
          obtain ⟨b', off', B', m', d', hA, hF', hbl', hfz', c0', c1', c2', c3', hset⟩ := (hlo.below b9 (Nat.le_refl _)).setGot Hget.out
          injection hA with hA
          injection hA with hA1 hA2
          subst hA1
          subst hA2
          have Hnx : Shut (Lo PartD.cels 4 (w9.setCell ⟨b, off + k * 4 + 3, none⟩ (.bool true)) (rng (g + 1) w2.heap.size) (some ⟨b, off, none⟩) n (markd_ (ackE ack mask) one1 base els (k + 1))) := ⟨by rw [← Hst.out, ackE_yes Hsn.out.symm Hcm.out.symm]; exact hset.out⟩
          clear hset hlo c0 c1 c2 c3
          go_wp2_with fail
          refine (hsc _).mono ?_
          rintro x w9' ⟨rfl, rfl⟩
          go_wp2
          go_roundw
          case rel => exact ⟨k + 1, by omega, by go_num, Hnx.out, z9.far hbg _, (htu.trans (Tu.ofBelow b9)).set_ (p := ⟨b, off + k * 4 + 3, none⟩) hF _⟩
          case measure => (simp [intOf]; omega)
    · obtain rfl : k = n := by omega
      rw [markd_full_ _ _ _ _ _ Hl.out] at hlo
      change Lo PartD.cels 4 wr (rng (g + 1) w2.heap.size) A0 k (ackL ack mask base els) at hlo
      have hz3 := htu.size
      go_wp2_with fail
      refine (hsd g A0 d0 (rng (g + 1) w2.heap.size) _ hS1 (fun hq => by have := hq.1; omega) (fun q hq => by have := hq.2; omega) hlo HRM.out).mono ?_
      rintro x w4 ⟨⟨vv, rfl⟩, ⟨A1, n1, d1, hn1, hS4, hlo4, hrm4⟩, htu4⟩
      subst hn1
      have hz4 := htu4.size
      go_wp2_with fail
      refine (hso g A1 _ d1 _ hS4).mono ?_
      rintro x w5 ⟨rfl, b5⟩
      have hz5 := b5.size
      have hlo5 := hlo4.below b5 (Nat.le_refl _)
      have j2 := ((Z2.tu htu (fun hq => by have := hq.1; omega)).tu htu4 (fun hq => by rcases hq with ⟨q1, q2⟩ | hq <;> omega)).below b5 (by omega)
      have q0 := j2.cell (i := 0) rfl
      have q1 := j2.cell (i := 1) rfl
      have q2 := j2.cell (i := 2) rfl
      have qf := j2.frozen
      go_wp2
      have J := (((j2.set_ (i := 0) (.int .i64 0)).set_ (i := 1) (.int .i64 P.1)).set_ (i := 2) (.slice A1 P.2.length d1))
      have r0 := J.cell (i := 0) rfl
      have r1 := J.cell (i := 1) rfl
      have r2 := J.cell (i := 2) rfl
      refine bodyPost_ret (v := .agg #[.int .i64 0, .int .i64 P.1, .slice A1 P.2.length d1]) (by simp [results, Try.results31, go_sem, r0, r1, r2]) rfl ?_
      have T3 : Tu (fun q => q = w.heap.size + 1) w5 _ := ((((Tu.refl (fun q => q = w.heap.size + 1) w5).set_ (p := ⟨w.heap.size + 1, 0, none⟩) rfl (.int .i64 0)).set_ (p := ⟨w.heap.size + 1, 1, none⟩) rfl (.int .i64 P.1)).set_ (p := ⟨w.heap.size + 1, 2, none⟩) rfl (.slice A1 P.2.length d1))
      have hz6 := T3.size
      have hlo6 := hlo5.tu T3 (fun q hq e => by have := hq.1; omega)
      refine ⟨⟨_, _, rfl, (okP _ _ _).widen (T := tP A1 P.2.length P.2) hlo6 (by omega) (by omega)⟩, ?_⟩
      have b3 := htu.below (C := w.heap.size) (by omega) (fun q hq => by have := hq.1; omega)
      have b4 := htu4.below (C := w.heap.size) (by omega) (fun q hq => by rcases hq with ⟨q1, q2⟩ | hq <;> omega)
      exact (((bb2.trans b3).trans b4).trans (b5.mono (by omega))).trans (T3.below (C := w.heap.size) (by omega) (fun q hq => by omega))

end Go.Proofs.Ytbelplonlcdahaa
