/- An end and what it holds, copied by the program. -/
import Derived.Test.YtgmbofoneeagiaaCpyE
import Derived.Test.YtgmbofoneeagiaaWinP
namespace Go.Proofs.Ytgmbofoneeagiaa
open Go.RowKit

set_option linter.unusedVariables false in
set_option maxRecDepth 100000 in
set_option maxHeartbeats 4000000 in
theorem recCopied_any (next : Int) (A : Option Addr) (n c : Nat) (els : List HeldD) (A2 : Option Addr) (n2 c2 : Nat) (l : List Int) (w : World) (h : Lst HeldD.cels 3 w A n els) (h2 : Bs w A2 n2 l) (hz2 : A2 = none → c2 = 0) (hn : n ≤ 1048576) (hb : ∀ e ∈ els, e.f1.length ≤ 1048576) (hn2 : n2 ≤ 1048576) :
    Calls Try.prog 198 #[.agg #[.int .i64 next, .slice A n c, .slice A2 n2 c2]] w fun e w' => (∃ A' c' A2' c2', e = .returned (.agg #[.int .i64 next, .slice A' n c', .slice A2' n2 c2']) ∧ Rm A' n c' ∧ Rm A2' n2 c2' ∧ (Thing.sep (tH A' n els) (tR A2' n2 l)) w' (rng w.heap.size w'.heap.size)) ∧ Below w.heap.size w w' := by
  have Hl := Shut.mk h.len
  have S0 := (Stc.new w 85 [.int .i64 next, .slice A n c, .slice A2 n2 c2] _ rfl).alloc (.cells #[.int .i64 0, .slice none 0 0, .slice none 0 0] 85)
  have S1 := Stc.new (w.alloc (.cells #[.int .i64 next, .slice A n c, .slice A2 n2 c2] 85)) 85 [.int .i64 0, .slice none 0 0, .slice none 0 0] _ rfl
  have B0 := ab (ab (Below.refl _ w) (.cells #[.int .i64 next, .slice A n c, .slice A2 n2 c2] 85)) (.cells #[.int .i64 0, .slice none 0 0, .slice none 0 0] 85)
  simp only [World.size_alloc] at S1
  have hnw := newWindowH_any next A n c els _ (h.below B0) hn hb
  go_enter Try.func198, Try.ntmps198
  go_wp2_with fail
  refine hnw.mono ?_
  rintro x w1 ⟨⟨v, rfl, hSw, hap⟩, b1⟩
  have z1 := b1.size
  simp only [World.size_alloc] at z1 hSw hap
  replace S0 := S0.below b1 S0.lt
  replace S1 := S1.below b1 S1.lt
  obtain ⟨A1, c1, rfl, hrm, hlo⟩ := hap.lo Hl.out
  have B1 := ac B0 b1
  have k1 := hSw.cell (i := 1) rfl
  have p0 := S0.cell (i := 0) rfl
  have p1 := S0.cell (i := 1) rfl
  have p2 := S0.cell (i := 2) rfl
  have pf := S0.frozen
  clear hnw h b1
  go_wp2_with fail
  clear k1 p0 p1 p2 pf
  generalize hW : w1.setCell ⟨w.heap.size, 1, none⟩ (.slice A1 n c1) = W1
  have T1 : Tu (fun b => b = w.heap.size) w1 W1 := by rw [← hW]; exact (Tu.refl (fun b => b = w.heap.size) w1).set_ (p := ⟨w.heap.size, 1, none⟩) rfl _
  have y1 : W1.heap.size = w1.heap.size := by rw [← hW]; simp
  have B2 : Below w.heap.size w W1 := B1.trans (T1.below (by omega) (fun b e => by omega))
  replace S1 := S1.tu T1 (by omega)
  replace S0 : Stc W1 w.heap.size [.int .i64 next, .slice A1 n c1, .slice A2 n2 c2] 85 := by rw [← hW]; exact S0.set_ (i := 1) _
  replace hlo := hlo.tu T1 (fun b hb e => by have := hb.1; omega)
  clear hW T1
  refine (clone_any A2 n2 c2 l _ (h2.below B2) hz2 (by omega)).mono ?_
  rintro x w2 ⟨⟨A4, c4, rfl, ho, hrm4⟩, b2⟩
  have z2 := b2.size
  replace S0 := S0.below b2 S0.lt
  replace S1 := S1.below b2 S1.lt
  replace hlo := hlo.below b2 (Nat.le_refl _)
  have B3 := ac B2 b2
  have p0 := S0.cell (i := 0) rfl
  have p1 := S0.cell (i := 1) rfl
  have p2 := S0.cell (i := 2) rfl
  have pf := S0.frozen
  have q0 := S1.cell (i := 0) rfl
  have q1 := S1.cell (i := 1) rfl
  have q2 := S1.cell (i := 2) rfl
  have qf := S1.frozen
  have hne : ¬ w.heap.size + 1 = w.heap.size := by omega
  go_wp2
  refine bodyPost_ret (v := .agg #[.int .i64 next, .slice A1 n c1, .slice A4 n2 c4]) (by simp [results, Try.results198, go_sem, q0, q1, q2]) rfl ?_
  have TF : Tu (fun b => b = w.heap.size ∨ b = w.heap.size + 1) w2 _ := ((((Tu.refl (fun b => b = w.heap.size ∨ b = w.heap.size + 1) w2).set_ (p := ⟨w.heap.size, 2, none⟩) (.inl rfl) (.slice A4 n2 c4)).set_ (p := ⟨w.heap.size + 1, 0, none⟩) (.inr rfl) (.int .i64 next)).set_ (p := ⟨w.heap.size + 1, 1, none⟩) (.inr rfl) (.slice A1 n c1)).set_ (p := ⟨w.heap.size + 1, 2, none⟩) (.inr rfl) (.slice A4 n2 c4)
  have hlo2 := hlo.tu TF (fun b hb e => by have := hb.1; omega)
  have hbo2 := (Bo.ofOw (F := rng W1.heap.size w2.heap.size) ho (fun b _ _ h1 h2 => ⟨h1, h2⟩)).tu TF (fun b hb e => by have := hb.1; omega)
  refine ⟨⟨A1, c1, A4, c4, rfl, hrm, hrm4, ?_⟩, B3.trans (TF.below (by omega) (fun b e => by omega))⟩
  refine ⟨rng (w.heap.size + 1 + 1 + 1) w1.heap.size, rng W1.heap.size w2.heap.size, fun b hb => ?_, fun b hb => ?_, fun b hb hb' => ?_, hlo2, hbo2⟩
  · simp only [World.size_setCell]; unfold rng at *; omega
  · simp only [World.size_setCell]; unfold rng at *; omega
  · unfold rng at *; omega

theorem run_make_Byt0 (n : Nat) (hn : n ≤ 1048576) (w : World) : ∃ cs : Array Value, cs.size = n * 1 ∧
    (Instr.makeSlice 39 (.int .i64 0) (.int .i64 (n : Int))).run Try.prog w = .ok (.slice (some ⟨w.heap.size, 0, none⟩) 0 n) (w.alloc (.cells cs 22)) := by
  obtain ⟨i, hi, hz0, hz1, hz2⟩ := info_parts info_Byt
  have hr := run_make (P := Try.prog) w 39 22 i _ Try.underlying39 hi hz0 .i64 .i64 0 n (by omega) (by omega) (by rw [hz2]; omega) (by omega)
  simp only [Int.toNat_natCast] at hr
  exact ⟨_, by rw [made_size, hz1], hr⟩

set_option linter.unusedVariables false in
set_option maxRecDepth 100000 in
set_option maxHeartbeats 8000000 in
theorem endCopied_any (slot base next bad : Int) (A0 : Option Addr) (n0 c0 : Nat) (els : List PartD) (A1 : Option Addr) (n1 c1 : Nat) (hs : List HeldD) (A2 : Option Addr) (n2 c2 : Nat) (l : List Int) (A3 : Option Addr) (n3 c3 : Nat) (got : List (List Int)) (w : World)
    (h0 : Lst PartD.cels 4 w A0 n0 els) (h1 : Lst HeldD.cels 3 w A1 n1 hs) (h2 : Bs w A2 n2 l) (hz2 : A2 = none → c2 = 0) (h3 : Lst bytC 1 w A3 n3 got) (hn0 : n0 ≤ 1048576) (hb0 : ∀ e ∈ els, e.f0.length ≤ 1048576) (hn1 : n1 ≤ 1048576) (hb1 : ∀ e ∈ hs, e.f1.length ≤ 1048576) (hn2 : n2 ≤ 1048576) (hn3 : n3 ≤ 1048576) (hb3 : ∀ e ∈ got, e.length ≤ 1048576) :
    Calls Try.prog 173 #[.agg #[.int .i64 slot, .int .i64 base, .slice A0 n0 c0, .int .i64 next, .slice A1 n1 c1, .slice A2 n2 c2, .slice A3 n3 c3, .int .i64 bad]] w fun e w' => (∃ A0' c0' A1' c1' A2' c2' A3' c3', e = .returned (.agg #[.int .i64 slot, .int .i64 base, .slice A0' n0 c0', .int .i64 next, .slice A1' n1 c1', .slice A2' n2 c2', .slice A3' n3 c3', .int .i64 bad]) ∧ Rm A0' n0 c0' ∧ Rm A1' n1 c1' ∧ Rm A2' n2 c2' ∧ EndT A0' n0 els A1' n1 hs A2' n2 l (.slice A3' n3 c3') got w' (rng w.heap.size w'.heap.size)) ∧ Below w.heap.size w w' := by
  have Hl0 := Shut.mk h0.len
  have Hl3 := Shut.mk h3.len
  have S0 := (Stc.new w 119 [.int .i64 slot, .int .i64 base, .slice A0 n0 c0, .int .i64 next, .slice A1 n1 c1, .slice A2 n2 c2, .slice A3 n3 c3, .int .i64 bad] _ rfl).alloc (.cells #[.int .i64 0, .int .i64 0, .slice none 0 0, .int .i64 0, .slice none 0 0, .slice none 0 0, .slice none 0 0, .int .i64 0] 119)
  have S1 := Stc.new (w.alloc (.cells #[.int .i64 slot, .int .i64 base, .slice A0 n0 c0, .int .i64 next, .slice A1 n1 c1, .slice A2 n2 c2, .slice A3 n3 c3, .int .i64 bad] 119)) 119 [.int .i64 0, .int .i64 0, .slice none 0 0, .int .i64 0, .slice none 0 0, .slice none 0 0, .slice none 0 0, .int .i64 0] _ rfl
  have B0 := ab (ab (Below.refl _ w) (.cells #[.int .i64 slot, .int .i64 base, .slice A0 n0 c0, .int .i64 next, .slice A1 n1 c1, .slice A2 n2 c2, .slice A3 n3 c3, .int .i64 bad] 119)) (.cells #[.int .i64 0, .int .i64 0, .slice none 0 0, .int .i64 0, .slice none 0 0, .slice none 0 0, .slice none 0 0, .int .i64 0] 119)
  simp only [World.size_alloc] at S1
  have hpw := partWindow_any base A0 n0 c0 els _ (h0.below B0) hn0 hb0
  have hrc := fun W L M => recCopied_any next A1 n1 c1 hs A2 n2 c2 l W L M hz2 hn1 hb1 hn2
  go_enter Try.func173, Try.ntmps173
  go_wp2_with fail
  refine hpw.mono ?_
  rintro x w1 ⟨⟨g, v, rfl, hg, hSw, hap⟩, b1⟩
  have z1 := b1.size
  simp only [World.size_alloc] at z1 hg
  obtain ⟨A0', c0', rfl, hrm0, hlo0⟩ := hap.lo Hl0.out
  go_wp2_with fail
  refine (senderOf_any g base A0' n0 c0' _ hSw).mono ?_
  rintro x w2 ⟨rfl, b2⟩
  have z2 := b2.size
  have hgl := hSw.lt
  have B2 := ac (ac B0 b1) b2
  replace S0 := (S0.below b1 S0.lt).below b2 (S0.below b1 S0.lt).lt
  replace S1 := (S1.below b1 S1.lt).below b2 (S1.below b1 S1.lt).lt
  replace hlo0 := hlo0.below b2 (Nat.le_refl _)
  have p1 := S0.cell (i := 1) rfl
  have p2 := S0.cell (i := 2) rfl
  have p3 := S0.cell (i := 3) rfl
  have p4 := S0.cell (i := 4) rfl
  have p5 := S0.cell (i := 5) rfl
  have pf := S0.frozen
  clear hpw h0 hSw
  go_wp2_with fail
  clear p1 p2 p3 p4 p5 pf
  generalize hW : (w2.setCell ⟨w.heap.size, 1, none⟩ (.int .i64 base)).setCell ⟨w.heap.size, 2, none⟩ (.slice A0' n0 c0') = W2
  have T2 : Tu (fun b => b = w.heap.size) w2 W2 := by rw [← hW]; exact ((Tu.refl (fun b => b = w.heap.size) w2).set_ (p := ⟨w.heap.size, 1, none⟩) rfl _).set_ (p := ⟨w.heap.size, 2, none⟩) rfl _
  have y2 : W2.heap.size = w2.heap.size := by rw [← hW]; simp
  have B3 : Below w.heap.size w W2 := B2.trans (T2.below (by omega) (fun b e => by omega))
  replace S1 := S1.tu T2 (by omega)
  replace S0 : Stc W2 w.heap.size [.int .i64 slot, .int .i64 base, .slice A0' n0 c0', .int .i64 next, .slice A1 n1 c1, .slice A2 n2 c2, .slice A3 n3 c3, .int .i64 bad] 119 := by rw [← hW]; exact (S0.set_ (i := 1) _).set_ (i := 2) _
  replace hlo0 := hlo0.tu T2 (fun b hb e => by have := hb.1; omega)
  clear hW T2 B0 B2
  refine (hrc _ (h1.below B3) (h2.below B3)).mono ?_
  rintro x w3 ⟨⟨A1', c1', A2', c2', rfl, hrm1, hrm2, R1⟩, b3⟩
  have z3 := b3.size
  have B4 := ac B3 b3
  replace S0 := S0.below b3 S0.lt
  replace S1 := S1.below b3 S1.lt
  replace hlo0 := hlo0.below b3 (Nat.le_refl _)
  have p3 := S0.cell (i := 3) rfl
  have p4 := S0.cell (i := 4) rfl
  have p5 := S0.cell (i := 5) rfl
  have pf := S0.frozen
  clear hrc h1 h2
  go_upto_region 3 with fail
  clear p3 p4 p5 pf
  have ZW : (((w3.setCell ⟨w.heap.size, 3, none⟩ (.int .i64 next)).setCell ⟨w.heap.size, 4, none⟩ (.slice A1' n1 c1')).setCell ⟨w.heap.size, 5, none⟩ (.slice A2' n2 c2')).heap.size = w3.heap.size := by simp
  generalize hW : ((w3.setCell ⟨w.heap.size, 3, none⟩ (.int .i64 next)).setCell ⟨w.heap.size, 4, none⟩ (.slice A1' n1 c1')).setCell ⟨w.heap.size, 5, none⟩ (.slice A2' n2 c2') = W3 at *
  have T3 : Tu (fun b => b = w.heap.size) w3 W3 := by rw [← hW]; exact (((Tu.refl (fun b => b = w.heap.size) w3).set_ (p := ⟨w.heap.size, 3, none⟩) rfl _).set_ (p := ⟨w.heap.size, 4, none⟩) rfl _).set_ (p := ⟨w.heap.size, 5, none⟩) rfl _
  have B5 : Below w.heap.size w W3 := B4.trans (T3.below (by omega) (fun b e => by omega))
  replace S1 := S1.tu T3 (by omega)
  replace S0 : Stc W3 w.heap.size [.int .i64 slot, .int .i64 base, .slice A0' n0 c0', .int .i64 next, .slice A1' n1 c1', .slice A2' n2 c2', .slice A3 n3 c3, .int .i64 bad] 119 := by rw [← hW]; exact ((S0.set_ (i := 3) _).set_ (i := 4) _).set_ (i := 5) _
  replace hlo0 := hlo0.tu T3 (fun b hb e => by have := hb.1; omega)
  replace R1 := ((okH _ _ _).sep (okR _ _ _)).tu R1 T3 (fun b hb e => by have := hb.1; omega)
  obtain ⟨cs, hcs, hmk⟩ := run_make_Byt0 n3 hn3 W3
  have p6 := S0.cell (i := 6) rfl
  have S0' := S0.alloc (.cells cs 22)
  have S1' := S1.alloc (.cells cs 22)
  have q6 := S0'.cell (i := 6) rfl
  have HE : Ap bytC 1 22 (W3.alloc (.cells cs 22)) W3.heap.size (.slice (some ⟨W3.heap.size, 0, none⟩) 0 n3) [] := Ap.room (Spn.new W3 cs _ hcs) (Nat.le_refl _) (by unfold maxLen; omega)
  have H3 := h3.below B5
  have Y0 : (W3.alloc (.cells cs 22)).heap.size = W3.heap.size + 1 := by simp
  replace Y0 := Shut.mk Y0
  have BA := ab (Below.refl W3.heap.size W3) (.cells cs 22)
  obtain ⟨zw1, zw2⟩ : w3.heap.size ≤ W3.heap.size ∧ W3.heap.size ≤ w3.heap.size := by omega
  obtain ⟨zy1, zy2⟩ : w2.heap.size ≤ W2.heap.size ∧ W2.heap.size ≤ w2.heap.size := by omega
  clear hW T3 B3 B4 ZW y2
  go_wp2
  clear p6 q6 hmk
  go_loopw [3, 22] (fun v i wr => ∃ k : Nat, k ≤ n3 ∧ i = .int .i64 k ∧ Ap bytC 1 22 wr W3.heap.size v (got.take k) ∧ Below W3.heap.size W3 wr) (fun v i _ => n3 - (intOf i).toNat)
  case atStart => exact ⟨0, Nat.zero_le _, rfl, HE, BA⟩
  case round =>
    obtain ⟨k, hk, rfl, hap3, hbel⟩ := hrel
    have hsz := hbel.size
    have hb' := bcell hbel
    by_cases hlt : k < n3
    · obtain ⟨b, off, e, B, m, c', rfl, hbs, he, g0, hB, hz⟩ := H3.getByt hlt
      have hem : e ∈ got := List.mem_of_getElem? he.out
      have hm : m ≤ 1048576 := by have := hB.len; have := hb3 e hem; omega
      have hcp := fun W (hh : Below W3.heap.size W3 W) => clone_any B m c' e W (hB.below hh) hz.out (by omega)
      clear h3 H3
      go_wp2_with fail
      refine (hcp _ hbel).mono ?_
      rintro x w4 ⟨⟨A4, c4, rfl, ho, hrm⟩, b4⟩
      have hlen : (got.take k).length ≤ 10000000 := by rw [List.length_take]; omega
      have HOW := ho.alloc (.cells #[.slice A4 m c4] 22)
      have HBW := ab b4 (.cells #[.slice A4 m c4] 22)
      have hlk : (got.take k ++ [e]).length = k + 1 := by rw [List.length_append, List.length_take, Hl3.out]; simp; omega
      have htk : got.take (k + 1) = got.take k ++ [e] := by rw [List.take_add_one, he.out]; rfl
      have Htk := Shut.mk htk
      have Hlk := Shut.mk hlk
      clear htk hlk hb' g0
      go_wp2_with (at_builtin; refine wpList_ap_append (cels := bytC) Try.underlying39 info_Byt rfl (by decide) (by decide) (fun _ => rfl) rfl _ _ rfl wr _ W3.heap.size _ (got.take k) hap3 HBW hsz rfl hlen _ _ [.slice A4 m c4] rfl rfl (cells_new (by simp) _ _) (by simp [Value.oneCell']) e (Gone 0 m A4) (fun j b hb => Gone.in_ HOW j b hb) Gone.dis ?hnew ?_; (case hnew => intro j d hj; rcases j with _ | j <;> simp [bytC] at hj <;> subst hj; exact ⟨_, rfl, Gone.ow HOW hrm.2⟩); intro v' w5 hap' hb2 hlay helse; obtain ⟨A5, c5, rfl, _, _⟩ := hap'.lo Hlk.out)
      go_roundw
      case rel => exact ⟨k + 1, by omega, by go_num, by rw [Htk.out]; exact hap', (hbel.trans (HBW.mono hsz)).trans hb2⟩
      case measure => simp [intOf]; omega
    · obtain rfl : k = n3 := by omega
      rw [List.take_of_length_le (by rw [Hl3.out]; exact Nat.le_refl _)] at hap3
      obtain ⟨A3', c3', rfl, hrm3, hlo3⟩ := hap3.lo Hl3.out
      have S2 := S0.below hbel S0.lt
      have S3 := S1.below hbel S1.lt
      have hloF := hlo0.below hbel (Nat.le_refl _)
      have RF := ((okH _ _ _).sep (okR _ _ _)).below R1 hbel
      have a0 := S2.cell (i := 0) rfl
      have a1 := S2.cell (i := 1) rfl
      have a2 := S2.cell (i := 2) rfl
      have a3 := S2.cell (i := 3) rfl
      have a4 := S2.cell (i := 4) rfl
      have a5 := S2.cell (i := 5) rfl
      have a6 := S2.cell (i := 6) rfl
      have a7 := S2.cell (i := 7) rfl
      have af := S2.frozen
      have d0 := S3.cell (i := 0) rfl
      have d1 := S3.cell (i := 1) rfl
      have d2 := S3.cell (i := 2) rfl
      have d3 := S3.cell (i := 3) rfl
      have d4 := S3.cell (i := 4) rfl
      have d5 := S3.cell (i := 5) rfl
      have d6 := S3.cell (i := 6) rfl
      have d7 := S3.cell (i := 7) rfl
      have df := S3.frozen
      have hne : ¬ w.heap.size + 1 = w.heap.size := by omega
      clear h3 H3
      go_wp2
      have SF := stcE (S3.far (p := ⟨w.heap.size, 6, none⟩) (by show ¬ w.heap.size + 1 = w.heap.size; omega) (.slice A3' k c3')) (.int .i64 slot) (.int .i64 base) (.slice A0' n0 c0') (.int .i64 next) (.slice A1' n1 c1') (.slice A2' n2 c2') (.slice A3' k c3') (.int .i64 bad)
      have y0 := SF.cell (i := 0) rfl
      have y1 := SF.cell (i := 1) rfl
      have y2 := SF.cell (i := 2) rfl
      have y3 := SF.cell (i := 3) rfl
      have y4 := SF.cell (i := 4) rfl
      have y5 := SF.cell (i := 5) rfl
      have y6 := SF.cell (i := 6) rfl
      have y7 := SF.cell (i := 7) rfl
      refine bodyPost_ret (v := .agg #[.int .i64 slot, .int .i64 base, .slice A0' n0 c0', .int .i64 next, .slice A1' n1 c1', .slice A2' n2 c2', .slice A3' k c3', .int .i64 bad]) (by simp [results, Try.results173, go_sem, y0, y1, y2, y3, y4, y5, y6, y7]) rfl ?_
      have TF := (((Tu.refl (fun b => b = w.heap.size ∨ b = w.heap.size + 1) wr).set_ (p := ⟨w.heap.size, 6, none⟩) (.inl rfl) (.slice A3' k c3'))).trans ((tuE (wr.setCell ⟨w.heap.size, 6, none⟩ (.slice A3' k c3')) (w.heap.size + 1) (.int .i64 slot) (.int .i64 base) (.slice A0' n0 c0') (.int .i64 next) (.slice A1' n1 c1') (.slice A2' n2 c2') (.slice A3' k c3') (.int .i64 bad)).wider (G := fun b => b = w.heap.size ∨ b = w.heap.size + 1) (fun b e => .inr e))
      have hasF := hap3.as_
      have OK1 := okP A0' n0 els
      have OK2 := (okH A1' n1 hs).sep (okR A2' n2 l)
      have OK3 := okG (.slice A3' k c3') got
      have RR := sep3 (S := tP A0' n0 els) (T := Thing.sep (tH A1' n1 hs) (tR A2' n2 l)) (U := tG (.slice A3' k c3') got) (lo := w.heap.size + 1 + 1) (hi := wr.heap.size) (OK1.widen hloF (lo' := g + 1) (hi' := W2.heap.size) (Nat.le_refl _) (by omega)) (OK2.widen RF (lo' := W2.heap.size) (hi' := W3.heap.size) (Nat.le_refl _) (by omega)) hasF (.inl (Nat.le_refl _)) (.inl (by omega)) (.inl (Nat.le_refl _)) (by omega) (by omega) (by omega) (by omega) (by omega) (Nat.le_refl _)
      have OK := OK1.sep (OK2.sep OK3)
      refine ⟨⟨A0', c0', A1', c1', A2', c2', A3', c3', rfl, hrm0, hrm1, hrm2, ?_⟩, ?_⟩
      · try simp only [World.size_setCell]
        exact OK.widen (OK.tu RR TF (fun b hF e => by unfold rng at hF; omega)) (by omega) (Nat.le_refl _)
      · exact (B5.trans (hbel.mono (by omega))).trans (TF.below (by omega) (fun b e => by omega))
end Go.Proofs.Ytgmbofoneeagiaa
