/- What goes on of the window of what came, of the program. -/
import Derived.Test.YtpaemmoopjkppaaHakX
import Derived.Test.YtpaemmoopjkppaaHwnP
import Derived.Test.YtpaemmoopjkppaaHdtF
import Derived.StillTailTactics
namespace Go.Proofs.Ytpaemmoopjkppaa
open Go.RowKit

theorem isAwaited_any (k : Int) (e : HeldD) (A : Option Addr) (m c : Nat) (w : World) :
    Calls Try.prog 49 #[.int .i64 k, .agg #[.int .i64 e.f0, .slice A m c, .bool e.f2]] w fun e' w' => e' = .returned (.bool (e.f0 == k)) ∧ Below w.heap.size w w' := by
  go_enter Try.func49, Try.ntmps49
  go_wp2
  go_ret
  exact ⟨rfl, ab (Below.refl _ _) _⟩

/-- what an element is, cell by cell -/
structure Raw3 where
  (a b c : Value)
def Raw3.cels (x : Raw3) : List Cel := [.v x.a, .v x.b, .v x.c]

def cntH (g : Nat) (w : World) : Nat := match w.cell? ⟨g, 1, none⟩ with | some (.slice _ n _) => n | _ => 0

/-- the elements taken are those of the list -/
theorem raw_reads {w : World} {B b off n : Nat} {F : Nat → Prop} {els : List HeldD} {v : Value} {ts : List Raw3} (h : Lo HeldD.cels 3 w F (some ⟨b, off, none⟩) n els) (hn : 0 < n) (hk : ts.length ≤ n) (hap : Ap Raw3.cels 3 84 w B v ts)
    (hm : ∀ i r, ts[i]? = some r → w.cell? ⟨b, off + i * 3, none⟩ = some r.a ∧ w.cell? ⟨b, off + i * 3 + 1, none⟩ = some r.b ∧ w.cell? ⟨b, off + i * 3 + 2, none⟩ = some r.c) : ∃ T q, v = .slice T ts.length q ∧ Lst HeldD.cels 3 w T ts.length (els.take ts.length) := by
  obtain ⟨T, q, rfl, _, hlo⟩ := hap.lo rfl
  refine ⟨T, q, rfl, by rw [List.length_take, h.len]; omega, fun h0 => ?_⟩
  obtain ⟨b', off', hA, hlt, hc⟩ := hlo.rows.at_ h0
  refine ⟨b', off', hA, hlt, fun i e hi j d hj => ?_⟩
  have hil : i < ts.length := by
    have := (List.getElem?_eq_some_iff.1 hi).1
    rw [List.length_take] at this
    omega
  rw [List.getElem?_take_of_lt hil] at hi
  obtain ⟨m0, m1, m2⟩ := hm i _ (List.getElem?_eq_getElem hil)
  obtain ⟨b2, off2, e2, _, hc2⟩ := h.rows.at_ hn
  injection e2 with e2
  injection e2 with e3 e4 _
  subst e3 e4
  obtain ⟨x, hx, hr⟩ := hc2 i e hi j d hj
  have rd : ∀ jj y, (Raw3.cels ts[i])[jj]? = some (.v y) → w.cell? ⟨b', off' + i * 3 + jj, none⟩ = some y := fun jj y hy => by
    obtain ⟨z, hz, hz2⟩ := hc i _ (List.getElem?_eq_getElem hil) jj _ hy
    rw [hz, show z = y from hz2]
  have hj3 : j < 3 := (List.getElem?_eq_some_iff.1 hj).1
  refine ⟨x, ?_, hr⟩
  rcases j with _ | _ | _ | j
  · rw [Nat.add_zero] at hx
    rw [m0] at hx
    injection hx with hx
    exact hx ▸ rd 0 _ rfl
  · rw [m1] at hx
    injection hx with hx
    exact hx ▸ rd 1 _ rfl
  · rw [m2] at hx
    injection hx with hx
    exact hx ▸ rd 2 _ rfl
  · omega

theorem waitN_hit {b : Int} {l : List HeldD} {k : Nat} {e : HeldD} (he : l[k]? = some e) (hf : e.f0 = b) : waitN b (l.drop k) = waitN (b + 1) (l.drop (k + 1)) + 1 := by
  rw [drop_cons he]
  conv => lhs; unfold waitN
  rw [if_pos hf]
theorem waitN_miss {b : Int} {l : List HeldD} {k : Nat} {e : HeldD} (he : l[k]? = some e) (hf : ¬ e.f0 = b) : waitN b (l.drop k) = 0 := by
  rw [drop_cons he]
  conv => lhs; unfold waitN
  rw [if_neg hf]

set_option linter.unusedVariables false in
set_option maxRecDepth 100000 in
set_option maxHeartbeats 4000000 in
theorem slideH_any (g : Nat) (first : Int) (A : Option Addr) (n c : Nat) (els : List HeldD) (F : Nat → Prop) (w : World) (hS : Stc w g [.int .i64 first, .slice A n c] 93) (hg : ¬ F g) (hFl : ∀ b, F b → b < w.heap.size) (h : Lo HeldD.cels 3 w F A n els) (hr : Rm A n c) (hn : n ≤ 1000) (hb0 : 0 ≤ first) (hb1 : first ≤ 10000) :
    Calls Try.prog 48 #[.pointer (some ⟨g, 0, none⟩), .func (.func 49) #[] #[]] w fun x w' => (∃ T q, x = .returned (.slice T (waitN first els) q) ∧ Lst HeldD.cels 3 w' T (waitN first els) (els.take (waitN first els))) ∧ (∃ A' n' c', n' = (els.drop (waitN first els)).length ∧ Stc w' g [.int .i64 (first + (waitN first els : Nat)), .slice A' n' c'] 93 ∧ Lo HeldD.cels 3 w' F A' n' (els.drop (waitN first els)) ∧ Rm A' n' c') ∧ Tu (fun b => b = g) w w' := by
  have hgl := hS.lt
  obtain ⟨L, hL⟩ : ∃ L, L = waitN first els := ⟨_, rfl⟩
  rw [← hL]
  have HL : Shut (L = 0 + waitN (first + ((0 : Nat) : Int)) (els.drop 0)) := ⟨by rw [hL]; simp⟩
  clear hL
  have HR := Shut.mk hr
  clear hr
  have Hl := Shut.mk h.len
  obtain ⟨b0, off0, hA⟩ : ∃ b0 off0, 0 < n → A = some ⟨b0, off0, none⟩ := by
    rcases Nat.eq_zero_or_pos n with h0 | h0
    · exact ⟨0, 0, fun h => by omega⟩
    · obtain ⟨b, off, _, e, _⟩ := h.at_ h0
      exact ⟨b, off, fun _ => e⟩
  have HA := Shut.mk hA
  clear hA
  go_enter Try.func48, Try.ntmps48
  go_wp2
  go_loopw [5] (fun t wr => ∃ (ts : List Raw3) (k : Nat) (A' : Option Addr) (n' c' : Nat), Shut (L = k + waitN (first + (k : Int)) (els.drop k)) ∧ k + n' = n ∧ ts.length = k ∧ Shut (0 < n' → A' = some ⟨b0, off0 + k * 3, none⟩) ∧ Ap Raw3.cels 3 84 wr w.heap.size t ts ∧ (∀ i r, ts[i]? = some r → wr.cell? ⟨b0, off0 + i * 3, none⟩ = some r.a ∧ wr.cell? ⟨b0, off0 + i * 3 + 1, none⟩ = some r.b ∧ wr.cell? ⟨b0, off0 + i * 3 + 2, none⟩ = some r.c) ∧ Stc wr g [.int .i64 (first + (k : Int)), .slice A' n' c'] 93 ∧ Lo HeldD.cels 3 wr F A' n' (els.drop k) ∧ Lo HeldD.cels 3 wr F A n els ∧ Shut (Rm A' n' c') ∧ Tu (fun b => b = g) w wr) (fun t wr => cntH g wr)
  case atStart => exact ⟨[], 0, A, n, c, HL, by omega, rfl, ⟨fun h => by simpa using HA.out h⟩, Ap.nil_ _ _, (fun i r h => by simp at h), by simpa using hS, by simpa using h, h, HR, Tu.refl _ _⟩
  case round =>
    obtain ⟨ts, k, A', n', c', hE, hkn, htk, hA2, hap, hraw, hS2, hlo, hfull, hr2, htu⟩ := hrel
    have u0 := hS2.cell (i := 0) rfl
    have u1 := hS2.cell (i := 1) rfl
    have uf := hS2.frozen
    have hgl1 := hS2.lt
    have hcnt : cntH g wr = n' := by unfold cntH; rw [u1]
    have fin : ∀ (W : World) (q : Nat), L = k → Ap Raw3.cels 3 84 W w.heap.size u5 ts → (∀ i r, ts[i]? = some r → W.cell? ⟨b0, off0 + i * 3, none⟩ = some r.a ∧ W.cell? ⟨b0, off0 + i * 3 + 1, none⟩ = some r.b ∧ W.cell? ⟨b0, off0 + i * 3 + 2, none⟩ = some r.c) → Lo HeldD.cels 3 W F A n els → ∃ T q, u5 = .slice T L q ∧ Lst HeldD.cels 3 W T L (els.take L) := fun W q hLk q1 q2 q3 => by
      subst hLk
      rcases Nat.eq_zero_or_pos n with h0 | h0
      · have : ts = [] := List.eq_nil_of_length_eq_zero (by omega)
        subst this
        obtain ⟨T, q, e, _, _⟩ := q1.lo rfl
        have hk0 : L = 0 := by simpa using htk.symm
        subst hk0
        exact ⟨T, q, e, by simpa using Lst.nil_ W T⟩
      · rw [HA.out h0] at q3
        obtain ⟨T, q, e, r⟩ := raw_reads q3 h0 (by omega) q1 q2
        rw [htk] at e r
        exact ⟨T, q, e, r⟩
    have Fin := Shut.mk fin
    clear fin
    rcases Nat.eq_zero_or_pos n' with h0 | h0
    · subst h0
      have hd : els.drop k = [] := List.drop_of_length_le (by rw [Hl.out]; omega)
      have hE2 : Shut (L = k) := ⟨by rw [hE.out, hd]; rfl⟩
      clear HL h hS hd
      go_wp2_with fail
      go_quiet (fail)
      obtain ⟨T, q, rfl, hT⟩ := Fin.out (wr.drewN nq) 0 hE2.out (hap.drewN nq) hraw (hfull.tu (H := fun _ => False) ((Tu.refl _ _).drewN _) (fun _ _ h => h))
      go_wp2
      go_ret
      refine ⟨⟨_, _, rfl, hT⟩, ⟨_, _, _, ?_, ?_, ?_, hr2.out⟩, htu.drewN _⟩
      · rw [hE2.out, List.length_drop, Hl.out]; omega
      · rw [hE2.out]; exact hS2.drewN _
      · rw [hE2.out]; exact hlo.tu (H := fun _ => False) ((Tu.refl _ _).drewN _) (fun _ _ h => h)
    · obtain ⟨m, rfl⟩ : ∃ m, n' = m + 1 := ⟨n' - 1, by omega⟩
      obtain ⟨b, off, e, B, mm, d, hA3, hbl, he, c0, c1, c2, hB, hz⟩ := hlo.rows.getHeld (k := 0) (by omega)
      have he2 : els[k]? = some e := by have := he.out; rw [List.getElem?_drop] at this; simpa using this
      obtain ⟨rfl, rfl⟩ : b = b0 ∧ off = off0 + k * 3 := by
        have := hA2.out (by omega)
        rw [hA3] at this
        injection this with this
        injection this with e1 e2 _
        exact ⟨e1, e2⟩
      subst hA3
      simp only [Nat.zero_mul, Nat.add_zero] at c0 c1 c2
      have hr2' := hr2.out.1
      have hgt : decide (((m + 1 : Nat) : Int) > 0) = true := by simp
      have hig := fun W => isAwaited_any (first + (k : Int)) e B mm d W
      clear HL h hS he hB hA2
      go_wp2_with fail
      go_still_tail 18, (by kernel_rfl)
      change wpList _ _ _ _ _ wr.drew
      go_wp2_with fail
      refine (hig _).mono ?_
      rintro x w1 ⟨rfl, b1⟩
      have b1' := (Below.refl wr.heap.size wr).drew.trans b1
      have S3 := hS2.below b1' hgl1
      have L3 := hlo.below b1' (Nat.le_refl _)
      have F3 := hfull.below b1' (Nat.le_refl _)
      have P3 := hap.below b1' (Nat.le_refl _)
      have T3 := htu.trans (Tu.ofBelow b1')
      have d0 := (b1'.cell (p := ⟨b, off0 + k * 3, none⟩) hbl).trans c0
      have d1 := (b1'.cell (p := ⟨b, off0 + k * 3 + 1, none⟩) hbl).trans c1
      have d2 := (b1'.cell (p := ⟨b, off0 + k * 3 + 2, none⟩) hbl).trans c2
      have R3 : ∀ i r, ts[i]? = some r → w1.cell? ⟨b, off0 + i * 3, none⟩ = some r.a ∧ w1.cell? ⟨b, off0 + i * 3 + 1, none⟩ = some r.b ∧ w1.cell? ⟨b, off0 + i * 3 + 2, none⟩ = some r.c := fun i r hi => by
        obtain ⟨q0, q1, q2⟩ := hraw i r hi
        exact ⟨(b1'.cell (p := ⟨b, off0 + i * 3, none⟩) hbl).trans q0, (b1'.cell (p := ⟨b, off0 + i * 3 + 1, none⟩) hbl).trans q1, (b1'.cell (p := ⟨b, off0 + i * 3 + 2, none⟩) hbl).trans q2⟩
      have z0 := S3.cell (i := 0) rfl
      have z1 := S3.cell (i := 1) rfl
      have zf := S3.frozen
      have hgl3 := S3.lt
      have hFb : F b := by
        obtain ⟨b2, off2, _, e2, q, _⟩ := L3.at_ (by omega)
        injection e2 with e2
        injection e2 with e3 _ _
        exact e3 ▸ q
      have hbg : b ≠ g := fun e => hg (e ▸ hFb)
      have hbl1 : b < w1.heap.size := Nat.lt_of_lt_of_le hbl b1'.size
      clear c0 c1 c2 u0 u1 uf b1 hig htu hap hlo hS2 hraw hfull b1'
      cases hf : (e.f0 == first + (k : Int))
      · have hE2 : Shut (L = k) := ⟨by rw [hE.out, waitN_miss he2 (by simpa using hf)]; rfl⟩
        obtain ⟨T, q, rfl, hT⟩ := Fin.out w1 0 hE2.out P3 R3 F3
        clear he2
        go_wp2
        go_ret
        refine ⟨⟨_, _, rfl, hT⟩, ⟨_, _, _, ?_, ?_, ?_, hr2.out⟩, T3⟩
        · rw [hE2.out, List.length_drop, Hl.out]; omega
        · rw [hE2.out]; exact S3
        · rw [hE2.out]; exact L3
      · have hE2 : Shut (L = (k + 1) + waitN (first + ((k + 1 : Nat) : Int)) (els.drop (k + 1))) := ⟨by
          rw [hE.out, waitN_hit he2 (by simpa using hf), show first + (k : Int) + 1 = first + ((k + 1 : Nat) : Int) by push_cast; omega]; omega⟩
        clear hE Fin
        have hdk : els.drop k = e :: els.drop (k + 1) := drop_cons he2
        rw [hdk] at L3
        clear hdk
        have htl : ts.length ≤ 10000000 := by omega
        have HBW := ab (Below.refl _ w1) (.cells #[.int .i64 e.f0, .slice B mm d, .bool e.f2] 84)
        go_wp2_with (at_builtin; refine wpList_ap_append (cels := Raw3.cels) Try.underlying30 info_Held rfl (by decide) (by decide) (fun _ => rfl) rfl _ _ rfl w1 _ w.heap.size u5 ts P3 HBW ?hsz rfl htl _ _ [.int .i64 e.f0, .slice B mm d, .bool e.f2] rfl rfl (cells_new (by simp) _ _) (by simp [Value.oneCell']) ⟨.int .i64 e.f0, .slice B mm d, .bool e.f2⟩ (fun _ _ => False) (fun j b hb => hb.elim) (fun _ _ _ hb _ => hb.elim) ?hnew ?_; (case hsz => (have := T3.size; omega)); (case hnew => intro j d hj; rcases j with _ | _ | _ | j <;> simp [Raw3.cels] at hj <;> subst hj <;> exact ⟨_, rfl, rfl⟩); intro v' w2 hap' hb2 hlay helse; have S4 := (S3.alloc (.cells #[.int .i64 e.f0, .slice B mm d, .bool e.f2] 84)).below hb2 hgl; have L4 := (L3.below HBW (Nat.le_refl _)).keep (w' := w2) hb2.size (fun q hq _ => hb2.block q (hFl q hq)); have F4 := (F3.below HBW (Nat.le_refl _)).keep (w' := w2) hb2.size (fun q hq _ => hb2.block q (hFl q hq)); have T4 := (T3.trans (Tu.ofBelow HBW)); have y0 := S4.cell (i := 0) rfl; have y1 := S4.cell (i := 1) rfl; have yf := S4.frozen; have hgl4 := S4.lt)
        have hS5 := fun v => (S4.set_ (i := 1) v).set_ (i := 0) (.int .i64 (first + (k : Int) + 1))
        have T5 : Tu (fun b => b = g) w w2 := ⟨hb2.os.trans T4.os, hb2.tape.trans T4.tape, hb2.output.trans T4.output, Nat.le_trans T4.size hb2.size, fun q hq hx => (hb2.block q hq).trans (T4.block q hq hx)⟩
        have T6 := fun v => (T5.set_ (p := ⟨g, 1, none⟩) rfl v).set_ (p := ⟨g, 0, none⟩) rfl (.int .i64 (first + (k : Int) + 1))
        have TT := fun v => ((Tu.refl (fun q => q = g) w2).set_ (p := ⟨g, 1, none⟩) rfl v).set_ (p := ⟨g, 0, none⟩) rfl (.int .i64 (first + (k : Int) + 1))
        have L5 := fun v => L4.tu (H := fun q => q = g) (TT v) (fun q hq e => hg (e ▸ hq))
        have F5 := fun v => F4.tu (H := fun q => q = g) (TT v) (fun q hq e => hg (e ▸ hq))
        have A5 := fun v => (hap'.far (p := ⟨g, 1, none⟩) hgl v).far (p := ⟨g, 0, none⟩) hgl (.int .i64 (first + (k : Int) + 1))
        have C5 : ∀ v o x, w1.cell? ⟨b, o, none⟩ = some x → ((w2.setCell ⟨g, 1, none⟩ v).setCell ⟨g, 0, none⟩ (.int .i64 (first + (k : Int) + 1))).cell? ⟨b, o, none⟩ = some x := fun v o x hx => by
          rw [World.cell?_of_block (a := ⟨b, o, none⟩) (((TT v).block b (by have h1 := hb2.size; rw [World.size_alloc] at h1; omega) hbg))]
          rw [World.cell?_of_block (a := ⟨b, o, none⟩) (hb2.block b (hFl b hFb))]
          exact (HBW.cell (p := ⟨b, o, none⟩) hbl1).trans hx
        have he1 : IntKind.i64.wrap (first + (k : Int) + 1) = first + (k : Int) + 1 := by rw [IntKind.wrap_i64]; omega
        go_roundw
        case rel =>
          refine ⟨_, k + 1, (if c' = 1 then some ⟨b, off0 + k * 3, none⟩ else some ⟨b, off0 + k * 3 + 3, none⟩), m, c' - 1, hE2, by omega, by rw [List.length_append, htk]; rfl, ⟨fun h => ?_⟩, A5 _, fun i r hi => ?_, ?_, ?_, F5 _, ⟨by omega, ?_⟩, T6 _⟩
          · have hc1 : ¬ c' = 1 := by omega
            rw [if_neg hc1, show off0 + (k + 1) * 3 = off0 + k * 3 + 3 by omega]
          · by_cases hil : i < ts.length
            · rw [List.getElem?_append_left hil] at hi
              obtain ⟨q0, q1, q2⟩ := R3 i r hi
              exact ⟨C5 _ _ _ q0, C5 _ _ _ q1, C5 _ _ _ q2⟩
            · have hik : i = k := by
                have := (List.getElem?_eq_some_iff.1 hi).1
                rw [List.length_append] at this
                simp at this
                omega
              subst hik
              rw [List.getElem?_append_right (by omega), htk, Nat.sub_self] at hi
              simp at hi
              subst hi
              exact ⟨C5 _ _ _ d0, C5 _ _ _ d1, C5 _ _ _ d2⟩
          · have := hS5 (.slice (if c' = 1 then some ⟨b, off0 + k * 3, none⟩ else some ⟨b, off0 + k * 3 + 3, none⟩) m (c' - 1))
            rw [show first + ((k + 1 : Nat) : Int) = first + (k : Int) + 1 by push_cast; omega]
            exact this
          · by_cases hc1 : c' = 1
            · have hm0 : m = 0 := by omega
              subst hm0
              have hr0 : els.drop (k + 1) = [] := List.drop_of_length_le (by rw [Hl.out]; omega)
              rw [hr0]
              exact Lo.nil_ _ _ _
            · rw [if_neg hc1]; exact (L5 _).tail
          · intro hA
            split at hA <;> cases hA
        case measure =>
          have hq := (hS5 (.slice (if c' = 1 then some ⟨b, off0 + k * 3, none⟩ else some ⟨b, off0 + k * 3 + 3, none⟩) m (c' - 1))).cell (i := 1) rfl
          rw [hcnt]
          unfold cntH
          rw [hq]
          exact Nat.lt_succ_self m
end Go.Proofs.Ytpaemmoopjkppaa
