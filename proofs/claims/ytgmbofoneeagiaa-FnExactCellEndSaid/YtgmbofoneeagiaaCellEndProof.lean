/- At all ends, whatever they hold, CellEnd answers as its model, in every field, shares no memory with what it was given, and writes into no argument. No condition. -/
import Derived.Test.YtgmbofoneeagiaaCellEndW
import Derived.Test.YtgmbofoneeagiaaEndO
import Derived.Test.YtgmbofoneeagiaaCelZ
namespace Go.Proofs.Ytgmbofoneeagiaa.fnExactCellEnd
open Go.ChangeShapes Go.WideShapes Go.ChangeAt Go.RowKit
set_option linter.unusedVariables false

theorem own : ownKnob Try.prog.godebug = none := by kernel_rfl
theorem laidOut : laidOutB Try.prog = true := by kernel_rfl

set_option maxRecDepth 100000 in
theorem lifted (os : Os) (started : os.Started) (H : Type) (enc : TypeId × Value → H) :
    ReturnsInHanded {} Try.checked os 11 .any (Rows.fnExactCellEndSpec.pre6 enc Try.prog Try.f11 Rows.fnExactCellEndRow.domain false) (Rows.fnExactCellEndSpec.post enc Try.prog Try.f11 false true false false) := by
  refine returnsInHanded_of_change (C := Try.checked) own started (by kernel_rfl) Try.func11
    (ChangeSpec.witness6 (enc := enc) (C := Try.checked) false ⟨#[], #[.agg #[.int .i64 0, .int .i64 0, .slice none 0 0, .int .i64 0, .slice none 0 0, .slice none 0 0, .slice none 0 0, .int .i64 0]], []⟩ 8 (by kernel_rfl) (by kernel_rfl) (by kernel_rfl) (by kernel_rfl)) ?_
  intro W base args ds gs before hval0 hW hcnd _
  have hval : ∀ (j : Nat) t v, Try.f11.params[j]? = some t → args[j]? = some v → Value.okWide Try.prog W .any base t v := hval0
  have hW' := hW
  obtain ⟨p, q, hA0, hV, rfl, hfz, hnd⟩ := hW
  have hA : DataW.TrodAll enc Try.prog W 0 (fun _ => true) true Try.f11.params.toList args.toList ds p := hA0
  rw [Try.params11] at hA hval
  obtain ⟨v0, vs0, d0, ds0, p0, q0, hargs, rfl, rfl, h0, r0⟩ := trodAll_cons hA
  obtain ⟨rfl, rfl, rfl⟩ := trodAll_nil r0
  obtain rfl : args = #[v0] := by cases args; simp_all
  obtain ⟨rfl, rfl⟩ := trodVars_none hV
  have k0 := h0
  have lt0 : ∀ x ∈ p0, x.block < W.heap.size := by obtain ⟨m, hm⟩ := k0; exact DataW.trod_lt m _ _ _ hm
  obtain ⟨z0_0, z0_1, A0_2, m0_2, c0_2, zs0_2, z0_3, A0_4, m0_4, c0_4, zs0_4, A0_5, m0_5, c0_5, zs0_5, A0_6, m0_6, c0_6, zs0_6, z0_7, rfl, w0_0, w0_1, r0_2, u0_2, v0_2, w0_3, r0_4, u0_4, v0_4, r0_5, r0_6, u0_6, v0_6, w0_7⟩ := argEndOpen (hval 0 116 v0 rfl rfl) h0
  have kbz0_0 : -9223372036854775808 ≤ z0_0 ∧ z0_0 ≤ 9223372036854775807 := by
    have : IntKind.i64.min ≤ z0_0 ∧ z0_0 ≤ IntKind.i64.max := by simpa [Lit.wf] using w0_0
    exact this
  have kbz0_1 : -9223372036854775808 ≤ z0_1 ∧ z0_1 ≤ 9223372036854775807 := by
    have : IntKind.i64.min ≤ z0_1 ∧ z0_1 ≤ IntKind.i64.max := by simpa [Lit.wf] using w0_1
    exact this
  have kbz0_3 : -9223372036854775808 ≤ z0_3 ∧ z0_3 ≤ 9223372036854775807 := by
    have : IntKind.i64.min ≤ z0_3 ∧ z0_3 ≤ IntKind.i64.max := by simpa [Lit.wf] using w0_3
    exact this
  have kbz0_7 : -9223372036854775808 ≤ z0_7 ∧ z0_7 ≤ 9223372036854775807 := by
    have : IntKind.i64.min ≤ z0_7 ∧ z0_7 ≤ IntKind.i64.max := by simpa [Lit.wf] using w0_7
    exact this
  clear hA0 hval0
  refine (exactCellEnd_all z0_0 z0_1 z0_3 z0_7 A0_2 m0_2 c0_2 zs0_2 A0_4 m0_4 c0_4 zs0_4 A0_5 m0_5 c0_5 (zs0_5.take m0_5) A0_6 m0_6 c0_6 zs0_6 W r0_2 r0_4 r0_5.bs r0_6 u0_2 v0_2 u0_4 v0_4 r0_5.small u0_6 v0_6 (fun hz => by
    have hb3 : ∀ e ∈ zs0_6, e.length ≤ 1048576 := fun e he => by have h1 : e.length ≤ sumE List.length zs0_6 := sumE_mem List.length he; unfold totEnd at hz; omega
    have hb1 : ∀ e ∈ zs0_4, e.f1.length ≤ 1048576 := fun e he => by have h1 : e.f1.length ≤ sumE HeldD.len zs0_4 := sumE_mem HeldD.len he; unfold totEnd at hz; omega
    obtain ⟨Z0, Z1, Z2, N0, D0, Z4, N1, D1, N2, D2, N3, D3, Z8, Z9, Z10, Z11, Z12, Z13, N4, D4, H⟩ := CelOut.ex z0_0 z0_1 zs0_2 z0_3 zs0_4 (zs0_5.take m0_5) zs0_6 z0_7
    have q := H.wd
    exact ⟨Z0, Z1, Z2, Z4, Z8, Z9, Z10, Z11, Z12, Z13, N0, D0, N1, D1, N2, D2, N3, D3, N4, D4, 0, [], q.hN0, q.hS0, q.hB0, q.hN1, q.hS1, q.hB1, q.hN2, q.hN3, q.hS3, q.hB3, q.hN4, q.hN5, fun _ => True, trivial, fun _ _ _ _ => trivial, Shut.mk (fun g0 g1 g2 g3 V p0 p1 p2 p3 => specCellEnd_any _ _ _ _ _ _ _ _ _ _ _ _ _ _ _ _ _ _ _ _ V p0 p1 p2 (fun h => by cases h) p3 (by unfold totEnd at *; omega) (by unfold totEnd at *; omega) hb1 (by unfold totEnd at *; omega) (by unfold totEnd at *; omega) hb3 H), Shut.mk (fun g0 g1 g2 g3 V _ p0 p1 p2 p3 => implCellEnd_any _ _ _ _ _ _ _ _ _ _ _ _ _ _ _ _ _ _ _ _ V p0 p1 p2 (fun h => by cases h) p3 (by unfold totEnd at *; omega) (by unfold totEnd at *; omega) hb1 (by unfold totEnd at *; omega) (by unfold totEnd at *; omega) hb3 H)⟩)).mono fun e W' ⟨he, bel⟩ => ?_
  subst he
  exact ⟨_, rfl, _, _, _, [], _, [], hW', trodAll_mk1 (shut_bool Try.underlying4 _), (trodAll_cons_mk (Below.trod laidOut (by kernel_rfl) (of_decide_eq_true (by kernel_rfl)) k0 bel lt0) trodAll_mk0), rfl, bel.frame _, fun h => by cases h⟩

theorem over : Rows.fnExactCellEndRow.holds Try.pinned (OpenSpec.ofChange Rows.fnExactCellEndSpec) :=
  OpenClaim.holds_of_wide 11 Try.f11 rfl rfl rfl rfl rfl rfl rfl ⟨rfl, rfl, rfl, rfl, rfl⟩ rfl rfl rfl rfl rfl (by kernel_rfl) Try.func11 (by kernel_rfl)
    (of_decide_eq_true (by kernel_rfl)) (by unfold Func.isWrapper; first | (rw [if_pos (by decide +kernel)]; kernel_rfl) | (rw [if_neg (by decide +kernel)]; exact ⟨rfl, rfl⟩))
    (fun os started H enc _ => lifted os started H enc)

theorem proved : Rows.FnExactCellEndSaid := over
#print axioms proved
end Go.Proofs.Ytgmbofoneeagiaa.fnExactCellEnd
