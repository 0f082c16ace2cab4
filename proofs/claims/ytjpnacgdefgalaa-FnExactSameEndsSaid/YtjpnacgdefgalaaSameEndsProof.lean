/- At all pairs of ends, whatever they hold, SameEnds answers as its model, and writes into no argument. No condition. -/
import Derived.Test.YtjpnacgdefgalaaSameEndsW
import Derived.Test.YtjpnacgdefgalaaEndO
namespace Go.Proofs.Ytjpnacgdefgalaa.fnExactSameEnds
open Go.ChangeShapes Go.WideShapes Go.ChangeAt Go.RowKit
set_option linter.unusedVariables false

theorem own : ownKnob Try.prog.godebug = none := by kernel_rfl
theorem laidOut : laidOutB Try.prog = true := by kernel_rfl

set_option maxRecDepth 100000 in
theorem lifted (os : Os) (started : os.Started) (H : Type) (enc : TypeId × Value → H) :
    ReturnsInHanded {} Try.checked os 6 .any (Rows.fnExactSameEndsSpec.pre6 enc Try.prog Try.f6 Rows.fnExactSameEndsRow.domain false) (Rows.fnExactSameEndsSpec.post enc Try.prog Try.f6 false true false false) := by
  refine returnsInHanded_of_change (C := Try.checked) own started (by kernel_rfl) Try.func6
    (ChangeSpec.witness6 (enc := enc) (C := Try.checked) false ⟨#[], #[.agg #[.int .i64 0, .int .i64 0, .slice none 0 0, .int .i64 0, .slice none 0 0, .slice none 0 0, .slice none 0 0, .int .i64 0], .agg #[.int .i64 0, .int .i64 0, .slice none 0 0, .int .i64 0, .slice none 0 0, .slice none 0 0, .slice none 0 0, .int .i64 0]], []⟩ 8 (by kernel_rfl) (by kernel_rfl) (by kernel_rfl) (by kernel_rfl)) ?_
  intro W base args ds gs before hval0 hW hcnd _
  have hval : ∀ (j : Nat) t v, Try.f6.params[j]? = some t → args[j]? = some v → Value.okWide Try.prog W .any base t v := hval0
  have hW' := hW
  obtain ⟨p, q, hA0, hV, rfl, hfz, hnd⟩ := hW
  have hA : DataW.TrodAll enc Try.prog W 0 (fun _ => true) true Try.f6.params.toList args.toList ds p := hA0
  rw [Try.params6] at hA hval
  obtain ⟨v0, vs0, d0, ds0, p0, q0, hargs, rfl, rfl, h0, r0⟩ := trodAll_cons hA
  obtain ⟨v1, vs1, d1, ds1, p1, q1, rfl, rfl, rfl, h1, r1⟩ := trodAll_cons r0
  obtain ⟨rfl, rfl, rfl⟩ := trodAll_nil r1
  obtain rfl : args = #[v0, v1] := by cases args; simp_all
  obtain ⟨rfl, rfl⟩ := trodVars_none hV
  have k0 := h0
  have lt0 : ∀ x ∈ p0, x.block < W.heap.size := by obtain ⟨m, hm⟩ := k0; exact DataW.trod_lt m _ _ _ hm
  obtain ⟨z0_0, z0_1, A0_2, m0_2, c0_2, zs0_2, z0_3, A0_4, m0_4, c0_4, zs0_4, A0_5, m0_5, c0_5, zs0_5, A0_6, m0_6, c0_6, zs0_6, z0_7, rfl, w0_0, w0_1, r0_2, u0_2, v0_2, w0_3, r0_4, u0_4, v0_4, r0_5, r0_6, u0_6, v0_6, w0_7⟩ := argEndOpen (hval 0 31 v0 rfl rfl) h0
  have kbz0_0 : -9223372036854775808 ≤ z0_0 ∧ z0_0 ≤ 9223372036854775807 := by
    have : IntKind.i64.min ≤ z0_0 ∧ z0_0 ≤ IntKind.i64.max := by simpa [Lit.wf] using w0_0
    exact this
  have kbz0_1 : -9223372036854775808 ≤ z0_1 ∧ z0_1 ≤ 9223372036854775807 := by
    have : IntKind.i64.min ≤ z0_1 ∧ z0_1 ≤ IntKind.i64.max := by simpa [Lit.wf] using w0_1
    exact this
  have kbz0_3 : -9223372036854775808 ≤ z0_3 ∧ z0_3 ≤ 9223372036854775807 := by
    have : IntKind.i64.min ≤ z0_3 ∧ z0_3 ≤ IntKind.i64.max := by simpa [Lit.wf] using w0_3
    exact this
  have kbz0_7 : -9223372036854775808 ≤ z0_7 ∧ z0_7 ≤ 9223372036854775807 := by
    have : IntKind.i64.min ≤ z0_7 ∧ z0_7 ≤ IntKind.i64.max := by simpa [Lit.wf] using w0_7
    exact this
  have k1 := h1
  have lt1 : ∀ x ∈ p1, x.block < W.heap.size := by obtain ⟨m, hm⟩ := k1; exact DataW.trod_lt m _ _ _ hm
  obtain ⟨z1_0, z1_1, A1_2, m1_2, c1_2, zs1_2, z1_3, A1_4, m1_4, c1_4, zs1_4, A1_5, m1_5, c1_5, zs1_5, A1_6, m1_6, c1_6, zs1_6, z1_7, rfl, w1_0, w1_1, r1_2, u1_2, v1_2, w1_3, r1_4, u1_4, v1_4, r1_5, r1_6, u1_6, v1_6, w1_7⟩ := argEndOpen (hval 1 31 v1 rfl rfl) h1
  have kbz1_0 : -9223372036854775808 ≤ z1_0 ∧ z1_0 ≤ 9223372036854775807 := by
    have : IntKind.i64.min ≤ z1_0 ∧ z1_0 ≤ IntKind.i64.max := by simpa [Lit.wf] using w1_0
    exact this
  have kbz1_1 : -9223372036854775808 ≤ z1_1 ∧ z1_1 ≤ 9223372036854775807 := by
    have : IntKind.i64.min ≤ z1_1 ∧ z1_1 ≤ IntKind.i64.max := by simpa [Lit.wf] using w1_1
    exact this
  have kbz1_3 : -9223372036854775808 ≤ z1_3 ∧ z1_3 ≤ 9223372036854775807 := by
    have : IntKind.i64.min ≤ z1_3 ∧ z1_3 ≤ IntKind.i64.max := by simpa [Lit.wf] using w1_3
    exact this
  have kbz1_7 : -9223372036854775808 ≤ z1_7 ∧ z1_7 ≤ 9223372036854775807 := by
    have : IntKind.i64.min ≤ z1_7 ∧ z1_7 ≤ IntKind.i64.max := by simpa [Lit.wf] using w1_7
    exact this
  clear hA0 hval0
  refine (exactSameEnds_all z0_0 z0_1 z0_3 z0_7 z1_0 z1_1 z1_3 z1_7 A0_2 m0_2 c0_2 zs0_2 A0_4 m0_4 c0_4 zs0_4 A0_5 m0_5 c0_5 (zs0_5.take m0_5) A0_6 m0_6 c0_6 zs0_6 A1_2 m1_2 c1_2 zs1_2 A1_4 m1_4 c1_4 zs1_4 A1_5 m1_5 c1_5 (zs1_5.take m1_5) A1_6 m1_6 c1_6 zs1_6 W r0_2 r0_4 r0_5.bs r0_6 r1_2 r1_4 r1_5.bs r1_6 u0_2 v0_2 u0_4 v0_4 r0_5.small u0_6 v0_6 u1_2 v1_2 u1_4 v1_4 r1_5.small u1_6 v1_6 (fun hz => by
    exact ⟨@decide (z0_0 = z1_0 ∧ z0_1 = z1_1 ∧ zs0_2 = zs1_2 ∧ z0_3 = z1_3 ∧ zs0_4 = zs1_4 ∧ (zs0_5.take m0_5) = (zs1_5.take m1_5) ∧ zs0_6 = zs1_6 ∧ z0_7 = z1_7) (Classical.propDecidable _), fun _ => True, trivial, fun _ _ _ _ => trivial, Shut.mk (fun g0 g1 g2 g3 g4 g5 g6 g7 V p0 p1 p2 p3 p4 p5 p6 p7 => specSameEnds_any _ _ _ _ _ _ _ _ _ _ _ _ _ _ _ _ _ _ _ _ _ _ _ _ _ _ _ _ _ _ _ _ _ _ _ _ _ _ _ _ _ V p0 p4 p1 p5 p2 p6 p3 p7 (by unfold totEnd at *; omega) (by unfold totEnd at *; omega) (by unfold totEnd at *; omega) (by unfold totEnd at *; omega) (by unfold totEnd at *; omega) (by unfold totEnd at *; omega) (@decide_eq_true_iff _ (_))), Shut.mk (fun g0 g1 g2 g3 g4 g5 g6 g7 V _ p0 p1 p2 p3 p4 p5 p6 p7 => implSameEnds_any _ _ _ _ _ _ _ _ _ _ _ _ _ _ _ _ _ _ _ _ _ _ _ _ _ _ _ _ _ _ _ _ _ _ _ _ _ _ _ _ _ V p0 p4 p1 p5 p2 p6 p3 p7 (by unfold totEnd at *; omega) (by unfold totEnd at *; omega) (by unfold totEnd at *; omega) (by unfold totEnd at *; omega) (by unfold totEnd at *; omega) (by unfold totEnd at *; omega) (@decide_eq_true_iff _ (_)))⟩)).mono fun e W' ⟨he, bel⟩ => ?_
  subst he
  exact ⟨_, rfl, _, _, _, [], _, [], hW', trodAll_mk1 (shut_bool Try.underlying4 _), (trodAll_cons_mk (Below.trod laidOut (by kernel_rfl) (of_decide_eq_true (by kernel_rfl)) k0 bel lt0) (trodAll_cons_mk (Below.trod laidOut (by kernel_rfl) (of_decide_eq_true (by kernel_rfl)) k1 bel lt1) trodAll_mk0)), rfl, bel.frame _, fun h => by cases h⟩

theorem over : Rows.fnExactSameEndsRow.holds Try.pinned (OpenSpec.ofChange Rows.fnExactSameEndsSpec) :=
  OpenClaim.holds_of_wide 6 Try.f6 rfl rfl rfl rfl rfl rfl rfl ⟨rfl, rfl, rfl, rfl, rfl⟩ rfl rfl rfl rfl rfl (by kernel_rfl) Try.func6 (by kernel_rfl)
    (of_decide_eq_true (by kernel_rfl)) (by unfold Func.isWrapper; first | (rw [if_pos (by decide +kernel)]; kernel_rfl) | (rw [if_neg (by decide +kernel)]; exact ⟨rfl, rfl⟩))
    (fun os started H enc _ => lifted os started H enc)

theorem proved : Rows.FnExactSameEndsSaid := over
#print axioms proved
end Go.Proofs.Ytjpnacgdefgalaa.fnExactSameEnds
