/- At all receivers and all cells, whatever they hold, HearData answers as its model, in every field, shares no memory with what it was given, and writes into no argument. No condition. -/
import Derived.Test.YtpaemmoopjkppaaHearDataW
import Derived.Test.YtpaemmoopjkppaaHdaO
import Derived.Test.YtpaemmoopjkppaaHdtO
namespace Go.Proofs.Ytpaemmoopjkppaa.fnExactHearData
open Go.ChangeShapes Go.WideShapes Go.ChangeAt Go.RowKit
set_option linter.unusedVariables false

theorem own : ownKnob Try.prog.godebug = none := by kernel_rfl
theorem laidOut : laidOutB Try.prog = true := by kernel_rfl

set_option maxRecDepth 100000 in
theorem lifted (os : Os) (started : os.Started) (H : Type) (enc : TypeId × Value → H) :
    ReturnsInHanded {} Try.checked os 3 .any (Rows.fnExactHearDataSpec.pre6 enc Try.prog Try.f3 Rows.fnExactHearDataRow.domain false) (Rows.fnExactHearDataSpec.post enc Try.prog Try.f3 false true false false) := by
  refine returnsInHanded_of_change (C := Try.checked) own started (by kernel_rfl) Try.func3
    (ChangeSpec.witness6 (enc := enc) (C := Try.checked) false ⟨#[], #[.agg #[.int .i64 0, .slice none 0 0, .slice none 0 0], .agg #[.int .i64 0, .int .i64 0, .int .i64 0, .int .i64 0, .bool false, .slice none 0 0]], []⟩ 8 (by kernel_rfl) (by kernel_rfl) (by kernel_rfl) (by kernel_rfl)) ?_
  intro W base args ds gs before hval0 hW hcnd _
  have hval : ∀ (j : Nat) t v, Try.f3.params[j]? = some t → args[j]? = some v → Value.okWide Try.prog W .any base t v := hval0
  have hW' := hW
  obtain ⟨p, q, hA0, hV, rfl, hfz, hnd⟩ := hW
  have hA : DataW.TrodAll enc Try.prog W 0 (fun _ => true) true Try.f3.params.toList args.toList ds p := hA0
  rw [Try.params3] at hA hval
  obtain ⟨v0, vs0, d0, ds0, p0, q0, hargs, rfl, rfl, h0, r0⟩ := trodAll_cons hA
  obtain ⟨v1, vs1, d1, ds1, p1, q1, rfl, rfl, rfl, h1, r1⟩ := trodAll_cons r0
  obtain ⟨rfl, rfl, rfl⟩ := trodAll_nil r1
  obtain rfl : args = #[v0, v1] := by cases args; simp_all
  obtain ⟨rfl, rfl⟩ := trodVars_none hV
  have k0 := h0
  have lt0 : ∀ x ∈ p0, x.block < W.heap.size := by obtain ⟨m, hm⟩ := k0; exact DataW.trod_lt m _ _ _ hm
  obtain ⟨z0_0, A0_1, m0_1, c0_1, zs0_1, A0_2, m0_2, c0_2, zs0_2, rfl, w0_0, r0_1, u0_1, v0_1, r0_2⟩ := argReceiverOpen (hval 0 25 v0 rfl rfl) h0
  have kbz0_0 : -9223372036854775808 ≤ z0_0 ∧ z0_0 ≤ 9223372036854775807 := by
    have : IntKind.i64.min ≤ z0_0 ∧ z0_0 ≤ IntKind.i64.max := by simpa [Lit.wf] using w0_0
    exact this
  have k1 := h1
  have lt1 : ∀ x ∈ p1, x.block < W.heap.size := by obtain ⟨m, hm⟩ := k1; exact DataW.trod_lt m _ _ _ hm
  obtain ⟨z1_0, z1_1, z1_2, z1_3, z1_4, A1_5, m1_5, c1_5, zs1_5, rfl, w1_0, w1_1, w1_2, w1_3, r1_5⟩ := argCellOpen (hval 1 27 v1 rfl rfl) h1
  have kbz1_0 : -9223372036854775808 ≤ z1_0 ∧ z1_0 ≤ 9223372036854775807 := by
    have : IntKind.i64.min ≤ z1_0 ∧ z1_0 ≤ IntKind.i64.max := by simpa [Lit.wf] using w1_0
    exact this
  have kbz1_1 : -9223372036854775808 ≤ z1_1 ∧ z1_1 ≤ 9223372036854775807 := by
    have : IntKind.i64.min ≤ z1_1 ∧ z1_1 ≤ IntKind.i64.max := by simpa [Lit.wf] using w1_1
    exact this
  have kbz1_2 : -9223372036854775808 ≤ z1_2 ∧ z1_2 ≤ 9223372036854775807 := by
    have : IntKind.i64.min ≤ z1_2 ∧ z1_2 ≤ IntKind.i64.max := by simpa [Lit.wf] using w1_2
    exact this
  have kbz1_3 : -9223372036854775808 ≤ z1_3 ∧ z1_3 ≤ 9223372036854775807 := by
    have : IntKind.i64.min ≤ z1_3 ∧ z1_3 ≤ IntKind.i64.max := by simpa [Lit.wf] using w1_3
    exact this
  clear hA0 hval0
  refine (exactHearData_all z0_0 z1_0 z1_1 z1_2 z1_3 z1_4 A0_1 m0_1 c0_1 zs0_1 A0_2 m0_2 c0_2 (zs0_2.take m0_2) A1_5 m1_5 c1_5 (zs1_5.take m1_5) W r0_1 r0_2.bs r1_5.bs u0_1 v0_1 r0_2.small r1_5.small (fun hz => by
    obtain ⟨b0, b1, b2, b3, b4, b5, b6⟩ := hdt_wd (next := z0_0) (els := zs0_1) (k0 := z1_0) (k1 := z1_1) (k2 := z1_2) (k3 := z1_3) (kv := z1_4) (r0_2.bs).len (r1_5.bs).len rfl rfl rfl rfl
    exact ⟨_, _, _, _, _, _, _, _, b0, b1, b2, b3, b4, b5, b6, fun _ => True, trivial, fun _ _ _ _ => trivial, Shut.mk (fun g0 g1 g2 V p0 p1 p2 => (specHearData_any _ _ _ _ _ _ _ _ _ _ _ _ _ _ _ _ _ _ V p2 (fun h => by cases h) p0 p1 (fun h => by cases h) (by unfold totReceiver totCell at *; omega) (by unfold totReceiver totCell at *; omega) _ _ _ _ _ rfl rfl rfl rfl rfl).mono fun _ _ h => h.law), Shut.mk (fun g0 g1 g2 V _ p0 p1 p2 => (implHearData_any _ _ _ _ _ _ _ _ _ _ _ _ _ _ _ _ _ _ V p2 (fun h => by cases h) p0 p1 (fun h => by cases h) (by unfold totReceiver totCell at *; omega) (by unfold totReceiver totCell at *; omega) _ _ _ _ _ rfl rfl rfl rfl rfl).mono fun _ _ h => h.law)⟩)).mono fun e W' ⟨he, bel⟩ => ?_
  subst he
  exact ⟨_, rfl, _, _, _, [], _, [], hW', trodAll_mk1 (shut_bool Try.underlying4 _), (trodAll_cons_mk (Below.trod laidOut (by kernel_rfl) (of_decide_eq_true (by kernel_rfl)) k0 bel lt0) (trodAll_cons_mk (Below.trod laidOut (by kernel_rfl) (of_decide_eq_true (by kernel_rfl)) k1 bel lt1) trodAll_mk0)), rfl, bel.frame _, fun h => by cases h⟩

theorem over : Rows.fnExactHearDataRow.holds Try.pinned (OpenSpec.ofChange Rows.fnExactHearDataSpec) :=
  OpenClaim.holds_of_wide 3 Try.f3 rfl rfl rfl rfl rfl rfl rfl ⟨rfl, rfl, rfl, rfl, rfl⟩ rfl rfl rfl rfl rfl (by kernel_rfl) Try.func3 (by kernel_rfl)
    (of_decide_eq_true (by kernel_rfl)) (by unfold Func.isWrapper; first | (rw [if_pos (by decide +kernel)]; kernel_rfl) | (rw [if_neg (by decide +kernel)]; exact ⟨rfl, rfl⟩))
    (fun os started H enc _ => lifted os started H enc)

theorem proved : Rows.FnExactHearDataSaid := over
#print axioms proved
end Go.Proofs.Ytpaemmoopjkppaa.fnExactHearData
