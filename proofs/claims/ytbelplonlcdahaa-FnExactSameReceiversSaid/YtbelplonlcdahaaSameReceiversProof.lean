/- At all pairs of receivers, whatever they hold, SameReceivers answers as its model, and writes into no argument. No condition. -/
import Derived.Test.YtbelplonlcdahaaSameReceiversW
import Derived.Test.YtbelplonlcdahaaRcvO
namespace Go.Proofs.Ytbelplonlcdahaa.fnExactSameReceivers
open Go.ChangeShapes Go.WideShapes Go.ChangeAt Go.RowKit
set_option linter.unusedVariables false

theorem own : ownKnob Try.prog.godebug = none := by kernel_rfl
theorem laidOut : laidOutB Try.prog = true := by kernel_rfl

set_option maxRecDepth 100000 in
theorem lifted (os : Os) (started : os.Started) (H : Type) (enc : TypeId × Value → H) :
    ReturnsInHanded {} Try.checked os 14 .any (Rows.fnExactSameReceiversSpec.pre6 enc Try.prog Try.f14 Rows.fnExactSameReceiversRow.domain false) (Rows.fnExactSameReceiversSpec.post enc Try.prog Try.f14 false true false false) := by
  refine returnsInHanded_of_change (C := Try.checked) own started (by kernel_rfl) Try.func14
    (ChangeSpec.witness6 (enc := enc) (C := Try.checked) false ⟨#[], #[.agg #[.int .i64 0, .slice none 0 0, .slice none 0 0], .agg #[.int .i64 0, .slice none 0 0, .slice none 0 0]], []⟩ 8 (by kernel_rfl) (by kernel_rfl) (by kernel_rfl) (by kernel_rfl)) ?_
  intro W base args ds gs before hval0 hW hcnd _
  have hval : ∀ (j : Nat) t v, Try.f14.params[j]? = some t → args[j]? = some v → Value.okWide Try.prog W .any base t v := hval0
  have hW' := hW
  obtain ⟨p, q, hA0, hV, rfl, hfz, hnd⟩ := hW
  have hA : DataW.TrodAll enc Try.prog W 0 (fun _ => true) true Try.f14.params.toList args.toList ds p := hA0
  rw [Try.params14] at hA hval
  obtain ⟨v0, vs0, d0, ds0, p0, q0, hargs, rfl, rfl, h0, r0⟩ := trodAll_cons hA
  obtain ⟨v1, vs1, d1, ds1, p1, q1, rfl, rfl, rfl, h1, r1⟩ := trodAll_cons r0
  obtain ⟨rfl, rfl, rfl⟩ := trodAll_nil r1
  obtain rfl : args = #[v0, v1] := by cases args; simp_all
  obtain ⟨rfl, rfl⟩ := trodVars_none hV
  have k0 := h0
  have lt0 : ∀ x ∈ p0, x.block < W.heap.size := by obtain ⟨m, hm⟩ := k0; exact DataW.trod_lt m _ _ _ hm
  obtain ⟨z0_0, A0_1, m0_1, c0_1, zs0_1, A0_2, m0_2, c0_2, zs0_2, rfl, w0_0, r0_1, u0_1, v0_1, r0_2⟩ := argReceiverOpen (hval 0 86 v0 rfl rfl) h0
  have kbz0_0 : -9223372036854775808 ≤ z0_0 ∧ z0_0 ≤ 9223372036854775807 := by
    have : IntKind.i64.min ≤ z0_0 ∧ z0_0 ≤ IntKind.i64.max := by simpa [Lit.wf] using w0_0
    exact this
  have k1 := h1
  have lt1 : ∀ x ∈ p1, x.block < W.heap.size := by obtain ⟨m, hm⟩ := k1; exact DataW.trod_lt m _ _ _ hm
  obtain ⟨z1_0, A1_1, m1_1, c1_1, zs1_1, A1_2, m1_2, c1_2, zs1_2, rfl, w1_0, r1_1, u1_1, v1_1, r1_2⟩ := argReceiverOpen (hval 1 86 v1 rfl rfl) h1
  have kbz1_0 : -9223372036854775808 ≤ z1_0 ∧ z1_0 ≤ 9223372036854775807 := by
    have : IntKind.i64.min ≤ z1_0 ∧ z1_0 ≤ IntKind.i64.max := by simpa [Lit.wf] using w1_0
    exact this
  clear hA0 hval0
  refine (exactSameReceivers_all z0_0 z1_0 A0_1 m0_1 c0_1 zs0_1 A0_2 m0_2 c0_2 (zs0_2.take m0_2) A1_1 m1_1 c1_1 zs1_1 A1_2 m1_2 c1_2 (zs1_2.take m1_2) W r0_1 r0_2.bs r1_1 r1_2.bs u0_1 v0_1 r0_2.small u1_1 v1_1 r1_2.small (fun _ => ⟨@decide (z0_0 = z1_0 ∧ zs0_1 = zs1_1 ∧ (zs0_2.take m0_2) = (zs1_2.take m1_2)) (Classical.propDecidable _), fun _ => True, trivial, fun _ _ _ _ => trivial, Shut.mk (fun g0 g1 g2 g3 V p0 q0 p1 q1 => specSameReceivers_any _ _ _ _ _ _ _ _ _ _ _ _ _ _ _ _ _ _ _ V p0 p1 q0 q1 (by unfold totReceiver at *; omega) (by unfold totReceiver at *; omega) (@decide_eq_true_iff _ (_))), Shut.mk (fun g0 g1 g2 g3 V _ p0 q0 p1 q1 => implSameReceivers_any _ _ _ _ _ _ _ _ _ _ _ _ _ _ _ _ _ _ _ V p0 p1 q0 q1 (by unfold totReceiver at *; omega) (by unfold totReceiver at *; omega) (@decide_eq_true_iff _ (_)))⟩)).mono fun e W' ⟨he, bel⟩ => ?_
  subst he
  exact ⟨_, rfl, _, _, _, [], _, [], hW', trodAll_mk1 (shut_bool Try.underlying4 _), (trodAll_cons_mk (Below.trod laidOut (by kernel_rfl) (of_decide_eq_true (by kernel_rfl)) k0 bel lt0) (trodAll_cons_mk (Below.trod laidOut (by kernel_rfl) (of_decide_eq_true (by kernel_rfl)) k1 bel lt1) trodAll_mk0)), rfl, bel.frame _, fun h => by cases h⟩

theorem over : Rows.fnExactSameReceiversRow.holds Try.pinned (OpenSpec.ofChange Rows.fnExactSameReceiversSpec) :=
  OpenClaim.holds_of_wide 14 Try.f14 rfl rfl rfl rfl rfl rfl rfl ⟨rfl, rfl, rfl, rfl, rfl⟩ rfl rfl rfl rfl rfl (by kernel_rfl) Try.func14 (by kernel_rfl)
    (of_decide_eq_true (by kernel_rfl)) (by unfold Func.isWrapper; first | (rw [if_pos (by decide +kernel)]; kernel_rfl) | (rw [if_neg (by decide +kernel)]; exact ⟨rfl, rfl⟩))
    (fun os started H enc _ => lifted os started H enc)

theorem proved : Rows.FnExactSameReceiversSaid := over
#print axioms proved
end Go.Proofs.Ytbelplonlcdahaa.fnExactSameReceivers
