/- At all events, whatever they hold, EventFault answers as its model, and writes into no argument. No condition. -/
import Derived.Test.YtgmbofoneeagiaaEventFaultW
import Derived.Test.YtgmbofoneeagiaaEvtO
import Derived.Test.YtgmbofoneeagiaaEvtF
namespace Go.Proofs.Ytgmbofoneeagiaa.fnExactEventFault
open Go.ChangeShapes Go.WideShapes Go.ChangeAt Go.RowKit
set_option linter.unusedVariables false

theorem own : ownKnob Try.prog.godebug = none := by kernel_rfl
theorem laidOut : laidOutB Try.prog = true := by kernel_rfl

set_option maxRecDepth 100000 in
theorem lifted (os : Os) (started : os.Started) (H : Type) (enc : TypeId × Value → H) :
    ReturnsInHanded {} Try.checked os 4 .any (Rows.fnExactEventFaultSpec.pre6 enc Try.prog Try.f4 Rows.fnExactEventFaultRow.domain false) (Rows.fnExactEventFaultSpec.post enc Try.prog Try.f4 false true false false) := by
  refine returnsInHanded_of_change (C := Try.checked) own started (by kernel_rfl) Try.func4
    (ChangeSpec.witness6 (enc := enc) (C := Try.checked) false ⟨#[], #[.agg #[.int .i64 0, .int .i64 0, .slice none 0 0, .int .i64 0, .int .i64 0, .int .i64 0]], []⟩ 8 (by kernel_rfl) (by kernel_rfl) (by kernel_rfl) (by kernel_rfl)) ?_
  intro W base args ds gs before hval0 hW hcnd _
  have hval : ∀ (j : Nat) t v, Try.f4.params[j]? = some t → args[j]? = some v → Value.okWide Try.prog W .any base t v := hval0
  have hW' := hW
  obtain ⟨p, q, hA0, hV, rfl, hfz, hnd⟩ := hW
  have hA : DataW.TrodAll enc Try.prog W 0 (fun _ => true) true Try.f4.params.toList args.toList ds p := hA0
  rw [Try.params4] at hA hval
  obtain ⟨v0, vs0, d0, ds0, p0, q0, hargs, rfl, rfl, h0, r0⟩ := trodAll_cons hA
  obtain ⟨rfl, rfl, rfl⟩ := trodAll_nil r0
  obtain rfl : args = #[v0] := by cases args; simp_all
  obtain ⟨rfl, rfl⟩ := trodVars_none hV
  have k0 := h0
  have lt0 : ∀ x ∈ p0, x.block < W.heap.size := by obtain ⟨m, hm⟩ := k0; exact DataW.trod_lt m _ _ _ hm
  obtain ⟨z0_0, z0_1, A0_2, m0_2, c0_2, zs0_2, z0_3, z0_4, z0_5, rfl, w0_0, w0_1, r0_2, w0_3, w0_4, w0_5⟩ := argEventOpen (hval 0 32 v0 rfl rfl) h0
  have kbz0_0 : -9223372036854775808 ≤ z0_0 ∧ z0_0 ≤ 9223372036854775807 := by
    have : IntKind.i64.min ≤ z0_0 ∧ z0_0 ≤ IntKind.i64.max := by simpa [Lit.wf] using w0_0
    exact this
  have kbz0_1 : -9223372036854775808 ≤ z0_1 ∧ z0_1 ≤ 9223372036854775807 := by
    have : IntKind.i64.min ≤ z0_1 ∧ z0_1 ≤ IntKind.i64.max := by simpa [Lit.wf] using w0_1
    exact this
  have kbz0_3 : -9223372036854775808 ≤ z0_3 ∧ z0_3 ≤ 9223372036854775807 := by
    have : IntKind.i64.min ≤ z0_3 ∧ z0_3 ≤ IntKind.i64.max := by simpa [Lit.wf] using w0_3
    exact this
  have kbz0_4 : -9223372036854775808 ≤ z0_4 ∧ z0_4 ≤ 9223372036854775807 := by
    have : IntKind.i64.min ≤ z0_4 ∧ z0_4 ≤ IntKind.i64.max := by simpa [Lit.wf] using w0_4
    exact this
  have kbz0_5 : -9223372036854775808 ≤ z0_5 ∧ z0_5 ≤ 9223372036854775807 := by
    have : IntKind.i64.min ≤ z0_5 ∧ z0_5 ≤ IntKind.i64.max := by simpa [Lit.wf] using w0_5
    exact this
  clear hA0 hval0
  refine (exactEventFault_all z0_0 z0_1 z0_3 z0_4 z0_5 A0_2 m0_2 c0_2 (zs0_2.take m0_2) W r0_2.bs r0_2.small (fun _ => ⟨evF z0_0 z0_1 m0_2 z0_3 z0_4 z0_5, fun _ => True, trivial, fun _ _ _ _ => trivial, Shut.mk (fun g0 V p0 => specEventFault_any _ _ _ _ _ _ _ _ V), Shut.mk (fun g0 V _ p0 => implEventFault_any _ _ _ _ _ _ _ _ V)⟩)).mono fun e W' ⟨he, bel⟩ => ?_
  subst he
  exact ⟨_, rfl, _, _, _, [], _, [], hW', trodAll_mk1 (shut_bool Try.underlying4 _), (trodAll_cons_mk (Below.trod laidOut (by kernel_rfl) (of_decide_eq_true (by kernel_rfl)) k0 bel lt0) trodAll_mk0), rfl, bel.frame _, fun h => by cases h⟩

theorem over : Rows.fnExactEventFaultRow.holds Try.pinned (OpenSpec.ofChange Rows.fnExactEventFaultSpec) :=
  OpenClaim.holds_of_wide 4 Try.f4 rfl rfl rfl rfl rfl rfl rfl ⟨rfl, rfl, rfl, rfl, rfl⟩ rfl rfl rfl rfl rfl (by kernel_rfl) Try.func4 (by kernel_rfl)
    (of_decide_eq_true (by kernel_rfl)) (by unfold Func.isWrapper; first | (rw [if_pos (by decide +kernel)]; kernel_rfl) | (rw [if_neg (by decide +kernel)]; exact ⟨rfl, rfl⟩))
    (fun os started H enc _ => lifted os started H enc)

theorem proved : Rows.FnExactEventFaultSaid := over
#print axioms proved
end Go.Proofs.Ytgmbofoneeagiaa.fnExactEventFault
