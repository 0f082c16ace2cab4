/- At all bytes, DecodeCell answers as its model, in every field, in memory of its own, and writes into no argument. No condition. -/
import Derived.Test.YtpoiecdifhkegaaDecodeCellW
import Derived.Test.YtpoiecdifhkegaaDecP
import Derived.Test.YtpoiecdifhkegaaSymO
namespace Go.Proofs.Ytpoiecdifhkegaa.fnExactDecodeCell
open Go.ChangeShapes Go.WideShapes Go.ChangeAt Go.RowKit
set_option linter.unusedVariables false

theorem own : ownKnob Try.prog.godebug = none := by kernel_rfl
theorem laidOut : laidOutB Try.prog = true := by kernel_rfl

set_option maxRecDepth 100000 in
theorem lifted (os : Os) (started : os.Started) (H : Type) (enc : TypeId × Value → H) :
    ReturnsInHanded {} Try.checked os 6 .any (Rows.fnExactDecodeCellSpec.pre6 enc Try.prog Try.f6 Rows.fnExactDecodeCellRow.domain false) (Rows.fnExactDecodeCellSpec.post enc Try.prog Try.f6 false true false false) := by
  refine returnsInHanded_of_change (C := Try.checked) own started (by kernel_rfl) Try.func6
    (ChangeSpec.witness6 (enc := enc) (C := Try.checked) false ⟨#[], #[.slice none 0 0], []⟩ 8 (by kernel_rfl) (by kernel_rfl) (by kernel_rfl) (by kernel_rfl)) ?_
  intro W base args ds gs before hval0 hW hcnd _
  have hval : ∀ (j : Nat) t v, Try.f6.params[j]? = some t → args[j]? = some v → Value.okWide Try.prog W .any base t v := hval0
  have hW' := hW
  obtain ⟨p, q, hA0, hV, rfl, hfz, hnd⟩ := hW
  have hA : DataW.TrodAll enc Try.prog W 0 (fun _ => true) true Try.f6.params.toList args.toList ds p := hA0
  rw [Try.params6] at hA hval
  obtain ⟨v0, vs0, d0, ds0, p0, q0, hargs, rfl, rfl, h0, r0⟩ := trodAll_cons hA
  obtain ⟨rfl, rfl, rfl⟩ := trodAll_nil r0
  obtain rfl : args = #[v0] := by cases args; simp_all
  obtain ⟨rfl, rfl⟩ := trodVars_none hV
  have k0 := h0
  have lt0 : ∀ x ∈ p0, x.block < W.heap.size := by obtain ⟨m, hm⟩ := k0; exact DataW.trod_lt m _ _ _ hm
  obtain ⟨a0, len0, cap0, rfl⟩ := okWide_slice Try.underlying22 (hval 0 22 v0 rfl rfl)
  obtain ⟨z0, w0⟩ : ∃ zs, IsRow .u8 W a0 len0 cap0 zs := by
    obtain ⟨fuel, hf⟩ := h0
    obtain ⟨a, l, c, zs, e, r⟩ := rowOpen (v := .slice a0 len0 cap0) (by simpa [Value.cells] using hf)
    injection e with e1 e2 e3; subst e1; subst e2; subst e3
    exact ⟨zs, r⟩
  clear hA0 hval0
  refine (exactDecodeCell_all a0 len0 cap0 _ W w0.bs w0.lenmax (fun _ => ⟨decCode len0 (z0.take len0), 0, selI (decD len0 (z0.take len0)) (fK (z0.take len0)), selI (decD len0 (z0.take len0)) (fS (z0.take len0)), selI (decD len0 (z0.take len0)) (fA (z0.take len0)), selI (decD len0 (z0.take len0)) (fM (z0.take len0)), selB (decD len0 (z0.take len0)) (fL (z0.take len0)), _, _, selN_le w0.bs.byte (decD len0 (z0.take len0)), fun _ => True, trivial, fun _ _ _ _ => trivial, Shut.mk (fun g V p => (specDecodeCell_any g _ _ _ V p (Nat.le_refl _)).mono fun _ _ h => h.rs), Shut.mk (fun g V _ p => (implDecodeCell_any g _ _ _ V p (Nat.le_refl _)).mono fun _ _ h => h.rs)⟩)).mono fun e W' ⟨he, bel⟩ => ?_
  subst he
  exact ⟨_, rfl, _, _, _, [], _, [], hW', trodAll_mk1 (shut_bool Try.underlying4 _), (trodAll_cons_mk (Below.trod laidOut (by kernel_rfl) (of_decide_eq_true (by kernel_rfl)) k0 bel lt0) trodAll_mk0), rfl, bel.frame _, fun h => by cases h⟩

theorem over : Rows.fnExactDecodeCellRow.holds Try.pinned (OpenSpec.ofChange Rows.fnExactDecodeCellSpec) :=
  OpenClaim.holds_of_wide 6 Try.f6 rfl rfl rfl rfl rfl rfl rfl ⟨rfl, rfl, rfl, rfl, rfl⟩ rfl rfl rfl rfl rfl (by kernel_rfl) Try.func6 (by kernel_rfl)
    (of_decide_eq_true (by kernel_rfl)) (by unfold Func.isWrapper; first | (rw [if_pos (by decide +kernel)]; kernel_rfl) | (rw [if_neg (by decide +kernel)]; exact ⟨rfl, rfl⟩))
    (fun os started H enc _ => lifted os started H enc)

theorem proved : Rows.FnExactDecodeCellSaid := over
#print axioms proved
end Go.Proofs.Ytpoiecdifhkegaa.fnExactDecodeCell
