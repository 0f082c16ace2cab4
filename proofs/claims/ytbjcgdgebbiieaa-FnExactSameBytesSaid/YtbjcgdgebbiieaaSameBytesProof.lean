/- At all bytes, SameBytes answers as its model, and writes into neither argument. No condition. -/
import Derived.Test.YtbjcgdgebbiieaaSame
namespace Go.Proofs.Ytbjcgdgebbiieaa.fnExactSameBytes
open Go.ChangeShapes Go.WideShapes Go.ChangeAt Go.RowKit
open Go.ChangeMaps (open_string shut_string)
set_option linter.unusedVariables false

theorem own : ownKnob Try.prog.godebug = none := by kernel_rfl
theorem laidOut : laidOutB Try.prog = true := by kernel_rfl

theorem walk (a0 : Option Addr) (len0 cap0 : Nat) (z0 : List Int) (a1 : Option Addr) (len1 cap1 : Nat) (z1 : List Int) (w : World) (w0 : IsRow .u8 w a0 len0 cap0 z0) (w1 : IsRow .u8 w a1 len1 cap1 z1) :
    Calls Try.prog 11 #[.slice a0 len0 cap0, .slice a1 len1 cap1] w fun e w' => e = .returned (.bool true) ∧ Below w.heap.size w w' := by
  have h0 := w0.bs
  have h1 := w1.bs
  clear w0 w1
  by_cases hl0 : len0 ≤ 1048576
  · by_cases hl1 : len1 ≤ 1048576
    · go_enter Try.func11, Try.ntmps11
      go_wp2_with fail
      refine (toByteS_any _ _ _ _ _ h0 (by omega)).mono ?_
      rintro e w2 ⟨rfl, k2, b2⟩
      go_wp2_with fail
      refine (toByteS_any _ _ _ _ _ (h1.below b2) (by omega)).mono ?_
      rintro e w3 ⟨rfl, k3, b3⟩
      have g2 := (k2.bsn h0.byte h0.len).below b3
      have g3 := k3.bsn h1.byte h1.len
      go_wp2_with fail
      refine (specSameBytes_any _ _ _ _ _ _ _ _ _ g2 g3).mono ?_
      rintro e w4 ⟨rfl, rfl⟩
      have B3 := ac (ac (Below.refl _ w) b2) b3
      have h0' := h0.below B3
      have h1' := h1.below B3
      go_wp2_with fail
      refine (toByteS_any _ _ _ _ _ h0' (by omega)).mono ?_
      rintro e w5 ⟨rfl, k5, b5⟩
      go_wp2_with fail
      refine (toByteS_any _ _ _ _ _ (h1'.below b5) (by omega)).mono ?_
      rintro e w6 ⟨rfl, k6, b6⟩
      have g5 := (k5.bsn h0.byte h0.len).below b6
      have g6 := k6.bsn h1.byte h1.len
      go_wp2_with fail
      refine (implSameBytes_any _ _ _ _ _ _ _ _ _ g5 g6).mono ?_
      rintro e w7 ⟨rfl, rfl⟩
      have B6 := ac (ac B3 b5) b6
      go_wp2_with fail
      refine (toByteS_any _ _ _ _ _ (h0.below B6) (by omega)).mono ?_
      rintro e w8 ⟨rfl, k8, b8⟩
      go_wp2_with fail
      refine (eqByteS_any _ _ _ _ _ _ _ _ _ (g5.below b8) (k8.bsn h0.byte h0.len) (by omega) (by omega)).mono ?_
      rintro e w9 ⟨rfl, q9, rfl⟩
      have B8 := ad (ac B6 b8) q9
      go_wp2_with fail
      refine (toByteS_any _ _ _ _ _ (h1.below B8) (by omega)).mono ?_
      rintro e w10 ⟨rfl, k10, b10⟩
      go_wp2_with fail
      refine (eqByteS_any _ _ _ _ _ _ _ _ _ (((g6.below b8).drewN q9).below b10) (k10.bsn h1.byte h1.len) (by omega) (by omega)).mono ?_
      rintro e w11 ⟨rfl, q11, rfl⟩
      go_wp2
      go_ret
      exact ⟨rfl, ad (ac B8 b10) q11⟩
    · go_enter Try.func11, Try.ntmps11
      go_wp2
      go_ret
      exact ⟨rfl, Below.refl _ _⟩
  · go_enter Try.func11, Try.ntmps11
    go_wp2
    go_ret
    exact ⟨rfl, Below.refl _ _⟩

set_option maxRecDepth 100000 in
theorem lifted (os : Os) (started : os.Started) (H : Type) (enc : TypeId × Value → H) :
    ReturnsInHanded {} Try.checked os 11 .any (Rows.fnExactSameBytesSpec.pre6 enc Try.prog Try.f11 Rows.fnExactSameBytesRow.domain false) (Rows.fnExactSameBytesSpec.post enc Try.prog Try.f11 false true false false) := by
  refine returnsInHanded_of_change (C := Try.checked) own started (by kernel_rfl) Try.func11
    (ChangeSpec.witness6 (enc := enc) (C := Try.checked) false ⟨#[], #[.slice none 0 0, .slice none 0 0], []⟩ 8 (by kernel_rfl) (by kernel_rfl) (by kernel_rfl) (by kernel_rfl)) ?_
  intro W base args ds gs before hval0 hW hcnd _
  have hval : ∀ (j : Nat) t v, Try.f11.params[j]? = some t → args[j]? = some v → Value.okWide Try.prog W .any base t v := hval0
  have hW' := hW
  obtain ⟨p, q, hA0, hV, rfl, hfz, hnd⟩ := hW
  have hA : DataW.TrodAll enc Try.prog W 0 (fun _ => true) true Try.f11.params.toList args.toList ds p := hA0
  rw [Try.params11] at hA hval
  obtain ⟨v0, vs0, d0, ds0, p0, q0, hargs, rfl, rfl, h0, r0⟩ := trodAll_cons hA
  obtain ⟨v1, vs1, d1, ds1, p1, q1, rfl, rfl, rfl, h1, r1⟩ := trodAll_cons r0
  obtain ⟨rfl, rfl, rfl⟩ := trodAll_nil r1
  obtain rfl : args = #[v0, v1] := by cases args; simp_all
  obtain ⟨rfl, rfl⟩ := trodVars_none hV
  obtain ⟨a0, len0, cap0, rfl⟩ := okWide_slice Try.underlying22 (hval 0 22 v0 rfl rfl)
  have k0 := h0
  have lt0 : ∀ x ∈ p0, x.block < W.heap.size := by obtain ⟨m, hm⟩ := k0; exact DataW.trod_lt m _ _ _ hm
  obtain ⟨z0, w0⟩ : ∃ zs, IsRow .u8 W a0 len0 cap0 zs := by
    obtain ⟨fuel, hf⟩ := h0
    rcases open_ints Try.underlying22 Try.underlying5 (by kernel_rfl) hf with ⟨hcs, _⟩ | ⟨x, l, c, zs, hcs, _, hl, hm, hz, _, hcell, hwz⟩
    · simp [Value.cells] at hcs
      obtain ⟨rfl, rfl, rfl⟩ := hcs
      exact ⟨[], .inl ⟨rfl, rfl, rfl, rfl⟩⟩
    · simp [Value.cells] at hcs
      obtain ⟨rfl, rfl, rfl⟩ := hcs
      exact ⟨zs, .inr ⟨_, rfl, hl, hm, by simpa using hz, hcell, hwz⟩⟩
  obtain ⟨a1, len1, cap1, rfl⟩ := okWide_slice Try.underlying22 (hval 1 22 v1 rfl rfl)
  have k1 := h1
  have lt1 : ∀ x ∈ p1, x.block < W.heap.size := by obtain ⟨m, hm⟩ := k1; exact DataW.trod_lt m _ _ _ hm
  obtain ⟨z1, w1⟩ : ∃ zs, IsRow .u8 W a1 len1 cap1 zs := by
    obtain ⟨fuel, hf⟩ := h1
    rcases open_ints Try.underlying22 Try.underlying5 (by kernel_rfl) hf with ⟨hcs, _⟩ | ⟨x, l, c, zs, hcs, _, hl, hm, hz, _, hcell, hwz⟩
    · simp [Value.cells] at hcs
      obtain ⟨rfl, rfl, rfl⟩ := hcs
      exact ⟨[], .inl ⟨rfl, rfl, rfl, rfl⟩⟩
    · simp [Value.cells] at hcs
      obtain ⟨rfl, rfl, rfl⟩ := hcs
      exact ⟨zs, .inr ⟨_, rfl, hl, hm, by simpa using hz, hcell, hwz⟩⟩
  clear hA0 hval0
  refine (walk a0 len0 cap0 z0 a1 len1 cap1 z1 W w0 w1).mono fun e W' ⟨he, bel⟩ => ?_
  subst he
  exact ⟨_, rfl, _, _, _, [], _, [], hW', trodAll_mk1 (shut_bool Try.underlying4 _), (trodAll_cons_mk (Below.trod laidOut (by kernel_rfl) (of_decide_eq_true (by kernel_rfl)) k0 bel lt0) (trodAll_cons_mk (Below.trod laidOut (by kernel_rfl) (of_decide_eq_true (by kernel_rfl)) k1 bel lt1) trodAll_mk0)), rfl, bel.frame _, fun h => by cases h⟩

theorem over : Rows.fnExactSameBytesRow.holds Try.pinned (OpenSpec.ofChange Rows.fnExactSameBytesSpec) :=
  OpenClaim.holds_of_wide 11 Try.f11 rfl rfl rfl rfl rfl rfl rfl ⟨rfl, rfl, rfl, rfl, rfl⟩ rfl rfl rfl rfl rfl (by kernel_rfl) Try.func11 (by kernel_rfl)
    (of_decide_eq_true (by kernel_rfl)) (by unfold Func.isWrapper; first | (rw [if_pos (by decide +kernel)]; kernel_rfl) | (rw [if_neg (by decide +kernel)]; exact ⟨rfl, rfl⟩))
    (fun os started H enc _ => lifted os started H enc)

theorem proved : Rows.FnExactSameBytesSaid := over
#print axioms proved
end Go.Proofs.Ytbjcgdgebbiieaa.fnExactSameBytes
