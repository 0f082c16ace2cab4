/- HearData of the model, where what came is not held. -/
import Derived.Test.YtpaemmoopjkppaaHdtN
import Derived.Test.YtpaemmoopjkppaaDatM
import Derived.Test.YtpaemmoopjkppaaCpyS
namespace Go.Proofs.Ytpaemmoopjkppaa
open Go.RowKit

theorem cellC_one {k0 k1 k2 k3 : Int} {kv : Bool} {m : Nat} (h : cellC k0 k1 k2 k3 kv m = 0) (h0 : k0 ≠ 0) : k0 = 1 ∧ m ≤ 32 := by
  unfold cellC at h
  split at h
  · omega
  · rename_i hh
    split at h
    · split at h
      · refine ⟨?_, by assumption⟩
        rcases Classical.em (k0 = 1) with e | e
        · exact e
        · exact absurd (Or.inl ⟨h0, e⟩) hh
      · omega
    · omega

set_option linter.unusedVariables false in
set_option maxRecDepth 100000 in
set_option maxHeartbeats 4000000 in
theorem specHdtNo_any (next : Int) (A : Option Addr) (n c : Nat) (els : List HeldD) (A2 : Option Addr) (n2 c2 : Nat) (l : List Int) (k2 k3 : Int) (x : HeldD) (B : Option Addr) (m d : Nat) (w : World) (h : Lst HeldD.cels 3 w A n els) (h2 : Bs w A2 n2 l) (hz2 : A2 = none → c2 = 0) (hn : n ≤ 1000) (hb : ∀ e ∈ els, e.f1.length ≤ 1048576) (hn2 : n2 ≤ 1048576) (hz0 : recF next els n2 = 0) (hz : cellC 1 x.f0 k2 k3 x.f2 m = 0) (hb0 : 0 ≤ next) (hb1 : next ≤ 10000) (hc : canH next x.f0 els = false) :
    Calls Try.prog 8 #[.agg #[.int .i64 next, .slice A n c, .slice A2 n2 c2], .agg #[.int .i64 1, .int .i64 x.f0, .int .i64 k2, .int .i64 k3, .bool x.f2, .slice B m d]] w fun y w' => (∃ A' c' A2' c2', y = .returned (.agg #[.int .i64 0, .int .i64 next, .slice A' n c', .slice A2' n2 c2', .slice none 0 0]) ∧ Rm A' n c' ∧ Rm A2' n2 c2' ∧ (Thing.sep (tH A' n els) (tR A2' n2 l)) w' (rng w.heap.size w'.heap.size)) ∧ Below w.heap.size w w' := by
  have hrf := fun W L => specReceiverFault_any next A n c els A2 n2 c2 W L (by omega) hn2
  have hcf := fun W => specCellFault_any 1 x.f0 k2 k3 x.f2 B m d W
  rw [hz0] at hrf
  rw [hz] at hcf
  clear hz hz0
  have S0 := ((Stc.new w 32 [.int .i64 next, .slice A n c, .slice A2 n2 c2] _ rfl).alloc (.cells #[.int .i64 1, .int .i64 x.f0, .int .i64 k2, .int .i64 k3, .bool x.f2, .slice B m d] 38)).alloc (.cells #[.int .i64 0, .int .i64 0, .slice none 0 0, .slice none 0 0, .slice none 0 0] 35)
  have S1 := (Stc.new (w.alloc (.cells #[.int .i64 next, .slice A n c, .slice A2 n2 c2] 32)) 38 [.int .i64 1, .int .i64 x.f0, .int .i64 k2, .int .i64 k3, .bool x.f2, .slice B m d] _ rfl).alloc (.cells #[.int .i64 0, .int .i64 0, .slice none 0 0, .slice none 0 0, .slice none 0 0] 35)
  have Z0 := Stc.new ((w.alloc (.cells #[.int .i64 next, .slice A n c, .slice A2 n2 c2] 32)).alloc (.cells #[.int .i64 1, .int .i64 x.f0, .int .i64 k2, .int .i64 k3, .bool x.f2, .slice B m d] 38)) 35 [.int .i64 0, .int .i64 0, .slice none 0 0, .slice none 0 0, .slice none 0 0] _ rfl
  have B0 := ab (ab (ab (Below.refl w.heap.size w) (.cells #[.int .i64 next, .slice A n c, .slice A2 n2 c2] 32)) (.cells #[.int .i64 1, .int .i64 x.f0, .int .i64 k2, .int .i64 k3, .bool x.f2, .slice B m d] 38)) (.cells #[.int .i64 0, .int .i64 0, .slice none 0 0, .slice none 0 0, .slice none 0 0] 35)
  simp only [World.size_alloc] at Z0 S1
  have HL := h.below B0
  have s0 := S0.cell (i := 0) rfl
  have s1 := S0.cell (i := 1) rfl
  have s2 := S0.cell (i := 2) rfl
  go_enter Try.func8, Try.ntmps8
  go_wp2_with fail
  refine (hrf _ HL).mono ?_
  rintro y w1 ⟨rfl, b1⟩
  have B1 := ac B0 b1
  have Z1 := Z0.below b1 (by simp)
  have S2 := S1.below b1 (by simp)
  have S5 := S0.below b1 (by simp; omega)
  have e0 := S2.cell (i := 0) rfl
  have e1 := S2.cell (i := 1) rfl
  have e2 := S2.cell (i := 2) rfl
  have e3 := S2.cell (i := 3) rfl
  have e4 := S2.cell (i := 4) rfl
  have e5 := S2.cell (i := 5) rfl
  clear s0 s1 s2 S0 S1 Z0 HL
  go_wp2_with fail
  refine (hcf _).mono ?_
  rintro y w2 ⟨rfl, b2⟩
  have B2 := ac B1 b2
  have Z2 := Z1.below b2 Z1.lt
  have S3 := S2.below b2 S2.lt
  have S6 := S5.below b2 S5.lt
  clear e0 e1 e2 e3 e4 e5 S2 S5 Z1 hrf hcf B0 B1
  have e0 := S3.cell (i := 0) rfl
  have z2 := B2.size
  have l6 := S6.lt
  have lz := Z2.lt
  go_wp2_with fail
  refine (l8ReceiverAt_any w.heap.size 0 next A n c els A2 n2 c2 l w2 l6 (S6.cell (i := 0) rfl) (S6.cell (i := 1) rfl) (S6.cell (i := 2) rfl) (h.below B2) (h2.below B2) hz2 (by omega) hb hn2).mono ?_
  rintro y w3 ⟨⟨A', c', A2', c2', rfl, m1, m2, T3⟩, b3⟩
  have B3 := ac B2 b3
  have z3 := b3.size
  have Z3 := Z2.below b3 Z2.lt
  have S4 := S3.below b3 S3.lt
  clear e0 S3 S6 Z2
  have D0 := Stc.new w3 32 [.int .i64 next, .slice A' n c', .slice A2' n2 c2'] _ rfl
  have okT := (okH A' n els).sep (okR A2' n2 l)
  have T4 := okT.alloc T3 (.cells #[.int .i64 next, .slice A' n c', .slice A2' n2 c2'] 32)
  have HL4 : Lst HeldD.cels 3 (w3.alloc (.cells #[.int .i64 next, .slice A' n c', .slice A2' n2 c2'] 32)) A' n els := by
    obtain ⟨F1, F2, _, _, _, t1, _⟩ := T4
    exact Lo.rows t1
  have B4 := ab B3 (.cells #[.int .i64 next, .slice A' n c', .slice A2' n2 c2'] 32)
  have Z4 := Z3.alloc (.cells #[.int .i64 next, .slice A' n c', .slice A2' n2 c2'] 32)
  have S5 := S4.alloc (.cells #[.int .i64 next, .slice A' n c', .slice A2' n2 c2'] 32)
  go_wp2_with fail
  refine (l8DataNo_any w3.heap.size 0 (w.heap.size + 1) _ _ next A' n c' els 1 k2 k3 x B m d _ D0 rfl rfl S5 HL4 hn hb0 hb1 hc).mono ?_
  rintro y w5 ⟨rfl, b5⟩
  have B5 := ac B4 b5
  have T5 := okT.below T4 b5
  have Z5 := Z4.below b5 Z4.lt
  have D5 := D0.below b5 D0.lt
  have z5 := b5.size
  rw [World.size_alloc] at z5
  have d0 := D5.cell (i := 0) rfl
  have d1 := D5.cell (i := 1) rfl
  have d2 := D5.cell (i := 2) rfl
  have q0 := Z5.cell (i := 0) rfl
  have q1 := Z5.cell (i := 1) rfl
  have q2 := Z5.cell (i := 2) rfl
  have q3 := Z5.cell (i := 3) rfl
  have q4 := Z5.cell (i := 4) rfl
  have qf := Z5.frozen
  clear D0 T3 T4 Z3 Z4 S4 S5 HL4 b3 b5 B3 B4
  go_wp2
  have J := (((((Z5.set_ (i := 0) (.int .i64 0)).set_ (i := 1) (.int .i64 next)).set_ (i := 2) (.slice A' n c')).set_ (i := 3) (.slice A2' n2 c2')).set_ (i := 4) (.slice none 0 0))
  have r0 := J.cell (i := 0) rfl
  have r1 := J.cell (i := 1) rfl
  have r2 := J.cell (i := 2) rfl
  have r3 := J.cell (i := 3) rfl
  have r4 := J.cell (i := 4) rfl
  refine bodyPost_ret (v := .agg #[.int .i64 0, .int .i64 next, .slice A' n c', .slice A2' n2 c2', .slice none 0 0]) (by simp [results, Try.results8, go_sem, r0, r1, r2, r3, r4]) rfl ?_
  have TF : Tu (fun q => q = w.heap.size + 1 + 1) w5 _ := ((((((Tu.refl (fun q => q = w.heap.size + 1 + 1) w5).set_ (p := ⟨w.heap.size + 1 + 1, 0, none⟩) rfl (.int .i64 0)).set_ (p := ⟨w.heap.size + 1 + 1, 1, none⟩) rfl (.int .i64 next)).set_ (p := ⟨w.heap.size + 1 + 1, 2, none⟩) rfl (.slice A' n c')).set_ (p := ⟨w.heap.size + 1 + 1, 3, none⟩) rfl (.slice A2' n2 c2')).set_ (p := ⟨w.heap.size + 1 + 1, 4, none⟩) rfl (.slice none 0 0))
  refine ⟨⟨A', c', A2', c2', rfl, m1, m2, okT.widen (okT.tu T5 TF (fun b hF e => by unfold rng at hF; omega)) (by omega) (by have := TF.size; omega)⟩, B5.trans (TF.below (C := w.heap.size) (by omega) (fun q hq => by omega))⟩

set_option linter.unusedVariables false in
set_option maxRecDepth 100000 in
set_option maxHeartbeats 4000000 in
theorem specHdtYes_any (next : Int) (A : Option Addr) (n c : Nat) (els : List HeldD) (A2 : Option Addr) (n2 c2 : Nat) (l : List Int) (k2 k3 : Int) (x : HeldD) (B : Option Addr) (m d : Nat) (w : World) (hbm : Bs w B m x.f1) (hzB : B = none → d = 0) (hm : m ≤ 32) (h : Lst HeldD.cels 3 w A n els) (h2 : Bs w A2 n2 l) (hz2 : A2 = none → c2 = 0) (hn : n ≤ 100) (hb : ∀ e ∈ els, e.f1.length ≤ 32) (hn2 : n2 ≤ 200) (hz0 : recF next els n2 = 0) (hz : cellC 1 x.f0 k2 k3 x.f2 m = 0) (hb0 : 0 ≤ next) (hb1 : next ≤ 10000) (hc : canH next x.f0 els = true) :
    Calls Try.prog 8 #[.agg #[.int .i64 next, .slice A n c, .slice A2 n2 c2], .agg #[.int .i64 1, .int .i64 x.f0, .int .i64 k2, .int .i64 k3, .bool x.f2, .slice B m d]] w fun y w' => (∃ A' n' c' A2' n2' c2' Am nm cm, y = .returned (.agg #[.int .i64 0, .int .i64 (next + (waitN next (insH x els) : Nat)), .slice A' n' c', .slice A2' n2' c2', .slice Am nm cm]) ∧ n' = ((insH x els).drop (waitN next (insH x els))).length ∧ n2' = (putP l ((insH x els).take (waitN next (insH x els)))).length ∧ Rm A' n' c' ∧ (A2' = none → c2' = 0) ∧ (Thing.sep (Thing.sep (tH A' n' ((insH x els).drop (waitN next (insH x els)))) (tR A2' n2' (putP l ((insH x els).take (waitN next (insH x els)))))) (tG (.slice Am nm cm) (putM l ((insH x els).take (waitN next (insH x els)))))) w' (rng w.heap.size w'.heap.size)) ∧ Below w.heap.size w w' := by
  have hrf := fun W L => specReceiverFault_any next A n c els A2 n2 c2 W L (by omega) (by omega)
  have hcf := fun W => specCellFault_any 1 x.f0 k2 k3 x.f2 B m d W
  rw [hz0] at hrf
  rw [hz] at hcf
  clear hz hz0
  have S0 := ((Stc.new w 32 [.int .i64 next, .slice A n c, .slice A2 n2 c2] _ rfl).alloc (.cells #[.int .i64 1, .int .i64 x.f0, .int .i64 k2, .int .i64 k3, .bool x.f2, .slice B m d] 38)).alloc (.cells #[.int .i64 0, .int .i64 0, .slice none 0 0, .slice none 0 0, .slice none 0 0] 35)
  have S1 := (Stc.new (w.alloc (.cells #[.int .i64 next, .slice A n c, .slice A2 n2 c2] 32)) 38 [.int .i64 1, .int .i64 x.f0, .int .i64 k2, .int .i64 k3, .bool x.f2, .slice B m d] _ rfl).alloc (.cells #[.int .i64 0, .int .i64 0, .slice none 0 0, .slice none 0 0, .slice none 0 0] 35)
  have Z0 := Stc.new ((w.alloc (.cells #[.int .i64 next, .slice A n c, .slice A2 n2 c2] 32)).alloc (.cells #[.int .i64 1, .int .i64 x.f0, .int .i64 k2, .int .i64 k3, .bool x.f2, .slice B m d] 38)) 35 [.int .i64 0, .int .i64 0, .slice none 0 0, .slice none 0 0, .slice none 0 0] _ rfl
  have B0 := ab (ab (ab (Below.refl w.heap.size w) (.cells #[.int .i64 next, .slice A n c, .slice A2 n2 c2] 32)) (.cells #[.int .i64 1, .int .i64 x.f0, .int .i64 k2, .int .i64 k3, .bool x.f2, .slice B m d] 38)) (.cells #[.int .i64 0, .int .i64 0, .slice none 0 0, .slice none 0 0, .slice none 0 0] 35)
  simp only [World.size_alloc] at Z0 S1
  have HL := h.below B0
  have s0 := S0.cell (i := 0) rfl
  have s1 := S0.cell (i := 1) rfl
  have s2 := S0.cell (i := 2) rfl
  go_enter Try.func8, Try.ntmps8
  go_wp2_with fail
  refine (hrf _ HL).mono ?_
  rintro y w1 ⟨rfl, b1⟩
  have B1 := ac B0 b1
  have Z1 := Z0.below b1 (by simp)
  have S2 := S1.below b1 (by simp)
  have S5 := S0.below b1 (by simp; omega)
  have e0 := S2.cell (i := 0) rfl
  have e1 := S2.cell (i := 1) rfl
  have e2 := S2.cell (i := 2) rfl
  have e3 := S2.cell (i := 3) rfl
  have e4 := S2.cell (i := 4) rfl
  have e5 := S2.cell (i := 5) rfl
  clear s0 s1 s2 S0 S1 Z0 HL
  go_wp2_with fail
  refine (hcf _).mono ?_
  rintro y w2 ⟨rfl, b2⟩
  have B2 := ac B1 b2
  have Z2 := Z1.below b2 Z1.lt
  have S3 := S2.below b2 S2.lt
  have S6 := S5.below b2 S5.lt
  clear e0 e1 e2 e3 e4 e5 S2 S5 Z1 hrf hcf B0 B1
  have e0 := S3.cell (i := 0) rfl
  have z2 := B2.size
  have l6 := S6.lt
  have lz := Z2.lt
  go_wp2_with fail
  refine (l8ReceiverAt_any w.heap.size 0 next A n c els A2 n2 c2 l w2 l6 (S6.cell (i := 0) rfl) (S6.cell (i := 1) rfl) (S6.cell (i := 2) rfl) (h.below B2) (h2.below B2) hz2 (by omega) (fun e he => by have := hb e he; omega) (by omega)).mono ?_
  rintro y w3 ⟨⟨A', c', A2', c2', rfl, m1, m2, T3⟩, b3⟩
  have B3 := ac B2 b3
  have z3 := b3.size
  have Z3 := Z2.below b3 Z2.lt
  have S4 := S3.below b3 S3.lt
  clear e0 S3 S6 Z2
  have D0 := Stc.new w3 32 [.int .i64 next, .slice A' n c', .slice A2' n2 c2'] _ rfl
  have okT := (okH A' n els).sep (okR A2' n2 l)
  have T4 := okT.alloc T3 (.cells #[.int .i64 next, .slice A' n c', .slice A2' n2 c2'] 32)

  have B4 := ab B3 (.cells #[.int .i64 next, .slice A' n c', .slice A2' n2 c2'] 32)
  have Z4 := Z3.alloc (.cells #[.int .i64 next, .slice A' n c', .slice A2' n2 c2'] 32)
  have S5 := S4.alloc (.cells #[.int .i64 next, .slice A' n c', .slice A2' n2 c2'] 32)
  obtain ⟨G, H, g1, g2, g3, t1, t2⟩ := T4
  have u1 : ∀ b, G b → w2.heap.size ≤ b ∧ b < w3.heap.size := g1
  have u2 : ∀ b, H b → w2.heap.size ≤ b ∧ b < w3.heap.size := g2
  go_wp2_with fail
  refine (l8DataYes_any w3.heap.size 0 (w.heap.size + 1) _ _ next A' n c' els 1 k2 k3 x B m d A2' n2 c2' l G H _ D0 rfl rfl rfl S5 (by omega) t1 t2 m2.2 (hbm.below B4) hzB (fun b hb => by have := u1 b hb; rw [World.size_alloc]; omega) (fun b hb => by have := u2 b hb; rw [World.size_alloc]; omega) g3 (fun hh => by have := u1 _ hh; omega) (fun hh => by have := u2 _ hh; omega) hn hn2 hm hb hb0 hb1 hc).mono ?_
  rintro y w5 ⟨⟨vm, s1, A'', n'', c'', P', np', cp', FM, FP, rfl, hs1, hs2, D5, e1, m5, L5, e2, L6, hzP, L7, f1, f2, f3⟩, t5⟩
  rw [World.size_alloc] at hs1
  have L5' : Lo HeldD.cels 3 w5 (fun b => G b ∨ (w3.heap.size + 1 ≤ b ∧ b < s1)) A'' n'' ((insH x els).drop (waitN next (insH x els))) := by simpa only [World.size_alloc] using L5
  have E1 := Shut.mk e1
  have E2 := Shut.mk e2
  obtain ⟨nm, hnm⟩ : ∃ nm, (putM l ((insH x els).take (waitN next (insH x els)))).length = nm := ⟨_, rfl⟩
  have Hnm := Shut.mk hnm
  obtain ⟨Am, cm, rfl, _, _⟩ := L7.lo Hnm.out
  clear e1 e2 hnm L5
  have D6 : Stc w5 w3.heap.size [.int .i64 (next + (waitN next (insH x els) : Nat)), .slice A'' n'' c'', .slice P' np' cp'] 32 := D5
  have T8 : Thing.sep (Thing.sep (tH A'' n'' ((insH x els).drop (waitN next (insH x els)))) (tR P' np' (putP l ((insH x els).take (waitN next (insH x els)))))) (tG (.slice Am nm cm) (putM l ((insH x els).take (waitN next (insH x els))))) w5 (rng w2.heap.size w5.heap.size) := by
    refine ⟨fun b => (G b ∨ (w3.heap.size + 1 ≤ b ∧ b < s1)) ∨ FP b, FM, fun b hb => ?_, fun b hb => ?_, fun b hb hb' => ?_, ⟨fun b => G b ∨ (w3.heap.size + 1 ≤ b ∧ b < s1), FP, fun b hb => Or.inl hb, fun b hb => Or.inr hb, fun b hb hb' => ?_, L5', L6⟩, L7⟩
    · show w2.heap.size ≤ b ∧ b < w5.heap.size
      rcases hb with (hb | hb) | hb
      · have := u1 b hb; omega
      · omega
      · rcases f2 b hb with hb | hb
        · have := u2 b hb; omega
        · omega
    · show w2.heap.size ≤ b ∧ b < w5.heap.size
      have := f1 b hb; omega
    · have h5 := f1 b hb'
      rcases hb with (hb | hb) | hb
      · have := u1 b hb; omega
      · omega
      · exact f3 b hb' hb
    · rcases f2 b hb' with h6 | h6
      · rcases hb with hb | hb
        · exact g3 b hb h6
        · have := u2 b h6; omega
      · rcases hb with hb | hb
        · have := u1 b hb; omega
        · omega
  have okF := ((okH A'' n'' ((insH x els).drop (waitN next (insH x els)))).sep (okR P' np' (putP l ((insH x els).take (waitN next (insH x els)))))).sep (okG (.slice Am nm cm) (putM l ((insH x els).take (waitN next (insH x els)))))
  have B5 := B4.trans (t5.below (C := w.heap.size) (by rw [World.size_alloc]; omega) (fun q hq => by omega))
  have Z5 := Z4.tu t5 (by show ¬ (w.heap.size + 1 + 1 = w3.heap.size); omega)
  obtain ⟨nx, hnx⟩ : ∃ nx : Int, next + ((waitN next (insH x els) : Nat) : Int) = nx := ⟨_, rfl⟩
  rw [hnx] at D6
  have Hnx := Shut.mk hnx
  clear hnx
  have d0 := D6.cell (i := 0) rfl
  have d1 := D6.cell (i := 1) rfl
  have d2 := D6.cell (i := 2) rfl
  have q0 := Z5.cell (i := 0) rfl
  have q1 := Z5.cell (i := 1) rfl
  have q2 := Z5.cell (i := 2) rfl
  have q3 := Z5.cell (i := 3) rfl
  have q4 := Z5.cell (i := 4) rfl
  have qf := Z5.frozen
  clear D0 D5 T3 Z3 Z4 S4 S5 b3 B3 B4 L5' L6 L7 t1 t2 g1 g2 g3 f1 f2 f3 u1 u2 t5
  go_wp2
  have J := (((((Z5.set_ (i := 0) (.int .i64 0)).set_ (i := 1) (.int .i64 nx)).set_ (i := 2) (.slice A'' n'' c'')).set_ (i := 3) (.slice P' np' cp')).set_ (i := 4) (.slice Am nm cm))
  have r0 := J.cell (i := 0) rfl
  have r1 := J.cell (i := 1) rfl
  have r2 := J.cell (i := 2) rfl
  have r3 := J.cell (i := 3) rfl
  have r4 := J.cell (i := 4) rfl
  refine bodyPost_ret (v := .agg #[.int .i64 0, .int .i64 nx, .slice A'' n'' c'', .slice P' np' cp', .slice Am nm cm]) (by simp [results, Try.results8, go_sem, r0, r1, r2, r3, r4]) rfl ?_
  have TF : Tu (fun q => q = w.heap.size + 1 + 1) w5 _ := ((((((Tu.refl (fun q => q = w.heap.size + 1 + 1) w5).set_ (p := ⟨w.heap.size + 1 + 1, 0, none⟩) rfl (.int .i64 0)).set_ (p := ⟨w.heap.size + 1 + 1, 1, none⟩) rfl (.int .i64 nx)).set_ (p := ⟨w.heap.size + 1 + 1, 2, none⟩) rfl (.slice A'' n'' c'')).set_ (p := ⟨w.heap.size + 1 + 1, 3, none⟩) rfl (.slice P' np' cp')).set_ (p := ⟨w.heap.size + 1 + 1, 4, none⟩) rfl (.slice Am nm cm))
  refine ⟨⟨A'', n'', c'', P', np', cp', Am, nm, cm, by rw [Hnx.out], E1.out, E2.out, m5, hzP, okF.widen (okF.tu T8 TF (fun b hF e => by unfold rng at hF; omega)) (by omega) (by have := TF.size; omega)⟩, B5.trans (TF.below (C := w.heap.size) (by omega) (fun q hq => by omega))⟩
end Go.Proofs.Ytpaemmoopjkppaa
