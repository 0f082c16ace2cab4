/- What goes out of the window, of the program. -/
import Derived.Test.YtbelplonlcdahaaHakA
import Derived.Test.YtbelplonlcdahaaWinP
import Derived.StillTailTactics
namespace Go.Proofs.Ytbelplonlcdahaa
open Go.RowKit

theorem isGot_any (k : Int) (e : PartD) (A : Option Addr) (m c : Nat) (w : World) :
    Calls Try.prog 100 #[.int .i64 k, .agg #[.slice A m c, .bool e.f1, .int .i64 e.f2, .bool e.f3]] w fun e' w' => e' = .returned (.bool e.f3) ∧ Below w.heap.size w w' := by
  go_enter Try.func100, Try.ntmps100
  go_wp2
  go_ret
  exact ⟨rfl, ab (Below.refl _ _) _⟩

/-- what a part is, cell by cell, with no claim on its body -/
structure Raw where
  (a b c d : Value)
def Raw.cels (x : Raw) : List Cel := [.v x.a, .v x.b, .v x.c, .v x.d]

def cntP (g : Nat) (w : World) : Nat := match w.cell? ⟨g, 1, none⟩ with | some (.slice _ n _) => n | _ => 0

set_option linter.unusedVariables false in
set_option maxRecDepth 100000 in
set_option maxHeartbeats 4000000 in
theorem slideP_any (g : Nat) (base : Int) (A : Option Addr) (n c : Nat) (els : List PartD) (F : Nat → Prop) (w : World) (hS : Stc w g [.int .i64 base, .slice A n c] 111) (hg : ¬ F g) (hFl : ∀ b, F b → b < w.heap.size) (h : Lo PartD.cels 4 w F A n els) (hr : Rm A n c) (hn : n ≤ 1000) (hb0 : 0 ≤ base) (hb1 : base ≤ 10000) :
    Calls Try.prog 99 #[.pointer (some ⟨g, 0, none⟩), .func (.func 100) #[] #[]] w fun x w' => (∃ v, x = .returned v) ∧ (∃ A' n' c', n' = (slid base els).2.length ∧ Stc w' g [.int .i64 (slid base els).1, .slice A' n' c'] 111 ∧ Lo PartD.cels 4 w' F A' n' (slid base els).2 ∧ Rm A' n' c') ∧ Tu (fun b => F b ∨ b = g) w w' := by
  have hgl := hS.lt
  obtain ⟨L, hL⟩ : ∃ L, L = slid base els := ⟨_, rfl⟩
  rw [← hL]
  have HL := Shut.mk hL
  clear hL
  have HR := Shut.mk hr
  clear hr
  go_enter Try.func99, Try.ntmps99
  go_wp2
  go_loopw [5] (fun t wr => ∃ (ts : List Raw) (b' : Int) (A' : Option Addr) (n' c' : Nat) (els' : List PartD), Shut (L = slid b' els') ∧ base ≤ b' ∧ b' + (n' : Int) = base + (n : Int) ∧ (ts.length : Int) + (n' : Int) = (n : Int) ∧ Ap Raw.cels 4 45 wr w.heap.size t ts ∧ Stc wr g [.int .i64 b', .slice A' n' c'] 111 ∧ Lo PartD.cels 4 wr F A' n' els' ∧ Shut (Rm A' n' c') ∧ Tu (fun b => F b ∨ b = g) w wr) (fun t wr => cntP g wr)
  case atStart => exact ⟨[], base, A, n, c, els, HL, by omega, by omega, by simp, Ap.nil_ _ _, hS, h, HR, Tu.refl _ _⟩
  case round =>
    obtain ⟨ts, b', A', n', c', els', hE, hb2, hb3, hb4, hap, hS2, hlo, hr2, htu⟩ := hrel
    have u0 := hS2.cell (i := 0) rfl
    have u1 := hS2.cell (i := 1) rfl
    have uf := hS2.frozen
    have hgl1 := hS2.lt
    have hcnt : cntP g wr = n' := by unfold cntP; rw [u1]
    have hlen := hlo.len
    rcases els' with _ | ⟨e, r⟩
    · obtain rfl : n' = 0 := by rw [← hlen]; rfl
      have hE2 : Shut (L = (b', [])) := ⟨by rw [hE.out]; rfl⟩
      clear hE HL h hS
      go_wp2_with fail
      go_quiet (fail)
      go_wp2
      go_ret
      exact ⟨⟨_, rfl⟩, ⟨_, _, _, by rw [hE2.out]; rfl, by rw [hE2.out]; exact hS2.drewN _, by rw [hE2.out]; exact hlo.tu (H := fun _ => False) ((Tu.refl _ _).drewN _) (fun _ _ h => h), hr2.out⟩, htu.drewN _⟩
    · obtain ⟨m, rfl⟩ : ∃ m, n' = m + 1 := ⟨r.length, by rw [← hlen]; rfl⟩
      obtain ⟨b, off, e', B, mm, d, rfl, hbl, he, c0, c1, c2, c3, hB, hz⟩ := hlo.rows.getPart (k := 0) (by omega)
      obtain rfl : e = e' := by have := he.out; simpa using this
      simp only [Nat.zero_mul, Nat.add_zero] at c0 c1 c2 c3
      have hr2' := hr2.out.1
      have hgt : decide (((m + 1 : Nat) : Int) > 0) = true := by simp
      have hig := fun W => isGot_any b' e B mm d W
      have hAf : ∀ W, Below wr.heap.size wr W → Stc W g [.int .i64 b', .slice (some ⟨b, off, none⟩) (m + 1) c'] 111 := fun W hb => hS2.below hb hgl1
      clear HL h hS
      go_wp2_with fail
      go_still_tail 18, (by kernel_rfl)
      change wpList _ _ _ _ _ wr.drew
      go_wp2_with fail
      refine (hig _).mono ?_
      rintro x w1 ⟨rfl, b1⟩
      have b1' := (Below.refl wr.heap.size wr).drew.trans b1
      have S3 := hS2.below b1' hgl1
      have L3 := hlo.below b1' (Nat.le_refl _)
      have P3 := hap.below b1' (Nat.le_refl _)
      have T3 := htu.trans (Tu.ofBelow b1')
      have d0 := (b1'.cell (p := ⟨b, off, none⟩) hbl).trans c0
      have d1 := (b1'.cell (p := ⟨b, off + 1, none⟩) hbl).trans c1
      have d2 := (b1'.cell (p := ⟨b, off + 2, none⟩) hbl).trans c2
      have d3 := (b1'.cell (p := ⟨b, off + 3, none⟩) hbl).trans c3
      have z0 := S3.cell (i := 0) rfl
      have z1 := S3.cell (i := 1) rfl
      have zf := S3.frozen
      have hgl3 := S3.lt
      clear c0 c1 c2 c3 u0 u1 uf b1 hAf hig htu hap hlo hS2
      cases hf : e.f3
      · rw [hf] at d3
        have E2 := slid_not (b := b') (r := r) hf
        rw [← hE.out] at E2
        have HE2 := Shut.mk E2
        have Hlen := Shut.mk hlen
        clear E2 hlen
        go_wp2
        go_ret
        exact ⟨⟨_, rfl⟩, ⟨_, _, _, by rw [HE2.out]; exact Hlen.out.symm, by rw [HE2.out]; exact S3, by rw [HE2.out]; exact L3, hr2.out⟩, T3⟩
      · rw [hf] at d3
        have E2 := slid_got (b := b') (r := r) hf
        rw [← hE.out] at E2
        have HE2 := Shut.mk E2
        clear E2 hlen hE
        have htl : ts.length ≤ 10000000 := by omega
        have HBW := ab (Below.refl _ w1) (.cells #[.slice B mm d, .bool e.f1, .int .i64 e.f2, .bool true] 45)
        go_wp2_with (at_builtin; refine wpList_ap_append (cels := Raw.cels) Try.underlying24 info_Part rfl (by decide) (by decide) (fun _ => rfl) rfl _ _ rfl w1 _ w.heap.size u5 ts P3 HBW ?hsz rfl htl _ _ [.slice B mm d, .bool e.f1, .int .i64 e.f2, .bool true] rfl rfl (cells_new (by simp) _ _) (by simp [Value.oneCell']) ⟨.slice B mm d, .bool e.f1, .int .i64 e.f2, .bool true⟩ (fun _ _ => False) (fun j b hb => hb.elim) (fun _ _ _ hb _ => hb.elim) ?hnew ?_; (case hsz => (have := T3.size; omega)); (case hnew => intro j d hj; rcases j with _ | _ | _ | _ | j <;> simp [Raw.cels] at hj <;> subst hj <;> exact ⟨_, rfl, rfl⟩); intro v' w2 hap' hb2 hlay helse; have S4 := (S3.alloc (.cells #[.slice B mm d, .bool e.f1, .int .i64 e.f2, .bool true] 45)).below hb2 hgl; have L4 := (L3.below HBW (Nat.le_refl _)).keep (w' := w2) hb2.size (fun q hq _ => hb2.block q (hFl q hq)); have T4 := (T3.trans (Tu.ofBelow HBW)); have y0 := S4.cell (i := 0) rfl; have y1 := S4.cell (i := 1) rfl; have yf := S4.frozen; have hgl4 := S4.lt)
        have hS5 := fun v => (S4.set_ (i := 1) v).set_ (i := 0) (.int .i64 (b' + 1))
        have T5 : Tu (fun b => F b ∨ b = g) w w2 := ⟨hb2.os.trans T4.os, hb2.tape.trans T4.tape, hb2.output.trans T4.output, Nat.le_trans T4.size hb2.size, fun q hq hx => (hb2.block q hq).trans (T4.block q hq hx)⟩
        have T6 := fun v => (T5.set_ (p := ⟨g, 1, none⟩) (.inr rfl) v).set_ (p := ⟨g, 0, none⟩) (.inr rfl) (.int .i64 (b' + 1))
        have L5 := fun v => L4.tu (H := fun q => q = g) (((Tu.refl (fun q => q = g) w2).set_ (p := ⟨g, 1, none⟩) rfl v).set_ (p := ⟨g, 0, none⟩) rfl (.int .i64 (b' + 1))) (fun q hq e => hg (e ▸ hq))
        have A5 := fun v => (hap'.far (p := ⟨g, 1, none⟩) hgl v).far (p := ⟨g, 0, none⟩) hgl (.int .i64 (b' + 1))
        go_roundw
        case rel =>
          refine ⟨_, b' + 1, _, m, c' - 1, r, HE2, by omega, by push_cast at hb3; omega, by rw [List.length_append]; push_cast at hb4 ⊢; simp; omega, A5 _, hS5 _, ?_, ⟨by omega, ?_⟩, T6 _⟩
          · by_cases hc1 : c' = 1
            · have hm0 : m = 0 := by omega
              subst hm0
              have hr0 : r = [] := by have := (L5 (.int .i64 0)).len; simpa using this
              subst hr0
              exact Lo.nil_ _ _ _
            · rw [if_neg hc1]; exact (L5 _).tail
          · intro hA
            split at hA <;> cases hA
        case measure =>
          have hq := (hS5 (.slice (if c' = 1 then some ⟨b, off, none⟩ else some ⟨b, off + 4, none⟩) m (c' - 1))).cell (i := 1) rfl
          rw [hcnt]
          unfold cntP
          rw [hq]
          exact Nat.lt_succ_self m
end Go.Proofs.Ytbelplonlcdahaa
