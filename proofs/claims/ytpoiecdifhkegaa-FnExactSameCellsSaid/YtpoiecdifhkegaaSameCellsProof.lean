/- At all pairs of cells, SameCells answers as its model, and writes into no argument. No condition. -/
import Derived.Test.YtpoiecdifhkegaaSameCellsW
import Derived.Test.YtpoiecdifhkegaaCellS
import Derived.Test.YtpoiecdifhkegaaCellO
namespace Go.Proofs.Ytpoiecdifhkegaa.fnExactSameCells
open Go.ChangeShapes Go.WideShapes Go.ChangeAt Go.RowKit
set_option linter.unusedVariables false

theorem own : ownKnob Try.prog.godebug = none := by kernel_rfl
theorem laidOut : laidOutB Try.prog = true := by kernel_rfl

set_option maxRecDepth 100000 in
theorem lifted (os : Os) (started : os.Started) (H : Type) (enc : TypeId × Value → H) :
    ReturnsInHanded {} Try.checked os 8 .any (Rows.fnExactSameCellsSpec.pre6 enc Try.prog Try.f8 Rows.fnExactSameCellsRow.domain false) (Rows.fnExactSameCellsSpec.post enc Try.prog Try.f8 false true false false) := by
  refine returnsInHanded_of_change (C := Try.checked) own started (by kernel_rfl) Try.func8
    (ChangeSpec.witness6 (enc := enc) (C := Try.checked) false ⟨#[], #[.agg #[.int .i64 0, .int .i64 0, .int .i64 0, .int .i64 0, .bool false, .slice none 0 0], .agg #[.int .i64 0, .int .i64 0, .int .i64 0, .int .i64 0, .bool false, .slice none 0 0]], []⟩ 8 (by kernel_rfl) (by kernel_rfl) (by kernel_rfl) (by kernel_rfl)) ?_
  intro W base args ds gs before hval0 hW hcnd _
  have hval : ∀ (j : Nat) t v, Try.f8.params[j]? = some t → args[j]? = some v → Value.okWide Try.prog W .any base t v := hval0
  have hW' := hW
  obtain ⟨p, q, hA0, hV, rfl, hfz, hnd⟩ := hW
  have hA : DataW.TrodAll enc Try.prog W 0 (fun _ => true) true Try.f8.params.toList args.toList ds p := hA0
  rw [Try.params8] at hA hval
  obtain ⟨v0, vs0, d0, ds0, p0, q0, hargs, rfl, rfl, h0, r0⟩ := trodAll_cons hA
  obtain ⟨v1, vs1, d1, ds1, p1, q1, rfl, rfl, rfl, h1, r1⟩ := trodAll_cons r0
  obtain ⟨rfl, rfl, rfl⟩ := trodAll_nil r1
  obtain rfl : args = #[v0, v1] := by cases args; simp_all
  obtain ⟨rfl, rfl⟩ := trodVars_none hV
  have k0 := h0
  have lt0 : ∀ x ∈ p0, x.block < W.heap.size := by obtain ⟨m, hm⟩ := k0; exact DataW.trod_lt m _ _ _ hm
  obtain ⟨x0a, x0b, x0c, x0d, x0v, a0, n0, c0, z0, rfl, w0, wf0a, wf0b, wf0c, wf0d⟩ := cellOpen (hval 0 40 v0 rfl rfl) h0
  have kb0a : -9223372036854775808 ≤ x0a ∧ x0a ≤ 9223372036854775807 := by
    have : IntKind.i64.min ≤ x0a ∧ x0a ≤ IntKind.i64.max := by simpa [Lit.wf] using wf0a
    exact this
  have kb0b : -9223372036854775808 ≤ x0b ∧ x0b ≤ 9223372036854775807 := by
    have : IntKind.i64.min ≤ x0b ∧ x0b ≤ IntKind.i64.max := by simpa [Lit.wf] using wf0b
    exact this
  have kb0c : -9223372036854775808 ≤ x0c ∧ x0c ≤ 9223372036854775807 := by
    have : IntKind.i64.min ≤ x0c ∧ x0c ≤ IntKind.i64.max := by simpa [Lit.wf] using wf0c
    exact this
  have kb0d : -9223372036854775808 ≤ x0d ∧ x0d ≤ 9223372036854775807 := by
    have : IntKind.i64.min ≤ x0d ∧ x0d ≤ IntKind.i64.max := by simpa [Lit.wf] using wf0d
    exact this
  have k1 := h1
  have lt1 : ∀ x ∈ p1, x.block < W.heap.size := by obtain ⟨m, hm⟩ := k1; exact DataW.trod_lt m _ _ _ hm
  obtain ⟨x1a, x1b, x1c, x1d, x1v, a1, n1, c1, z1, rfl, w1, wf1a, wf1b, wf1c, wf1d⟩ := cellOpen (hval 1 40 v1 rfl rfl) h1
  have kb1a : -9223372036854775808 ≤ x1a ∧ x1a ≤ 9223372036854775807 := by
    have : IntKind.i64.min ≤ x1a ∧ x1a ≤ IntKind.i64.max := by simpa [Lit.wf] using wf1a
    exact this
  have kb1b : -9223372036854775808 ≤ x1b ∧ x1b ≤ 9223372036854775807 := by
    have : IntKind.i64.min ≤ x1b ∧ x1b ≤ IntKind.i64.max := by simpa [Lit.wf] using wf1b
    exact this
  have kb1c : -9223372036854775808 ≤ x1c ∧ x1c ≤ 9223372036854775807 := by
    have : IntKind.i64.min ≤ x1c ∧ x1c ≤ IntKind.i64.max := by simpa [Lit.wf] using wf1c
    exact this
  have kb1d : -9223372036854775808 ≤ x1d ∧ x1d ≤ 9223372036854775807 := by
    have : IntKind.i64.min ≤ x1d ∧ x1d ≤ IntKind.i64.max := by simpa [Lit.wf] using wf1d
    exact this
  clear hA0 hval0
  refine (exactSameCells_all x0a x0b x0c x0d x0v x1a x1b x1c x1d x1v a0 n0 c0 _ a1 n1 c1 _ W w0.bs w1.bs w0.small w1.small (fun _ => ⟨sameC x0a x0b x0c x0d x0v _ x1a x1b x1c x1d x1v _, fun _ => True, trivial, fun _ _ _ _ => trivial, Shut.mk (fun g0 g1 V p0 p1 => specSameCells_any x0a x0b x0c x0d x0v x1a x1b x1c x1d x1v _ _ _ _ _ _ _ _ V p0 p1), Shut.mk (fun g0 g1 V _ p0 p1 => implSameCells_any x0a x0b x0c x0d x0v x1a x1b x1c x1d x1v _ _ _ _ _ _ _ _ V p0 p1)⟩)).mono fun e W' ⟨he, bel⟩ => ?_
  subst he
  exact ⟨_, rfl, _, _, _, [], _, [], hW', trodAll_mk1 (shut_bool Try.underlying4 _), (trodAll_cons_mk (Below.trod laidOut (by kernel_rfl) (of_decide_eq_true (by kernel_rfl)) k0 bel lt0) (trodAll_cons_mk (Below.trod laidOut (by kernel_rfl) (of_decide_eq_true (by kernel_rfl)) k1 bel lt1) trodAll_mk0)), rfl, bel.frame _, fun h => by cases h⟩

theorem over : Rows.fnExactSameCellsRow.holds Try.pinned (OpenSpec.ofChange Rows.fnExactSameCellsSpec) :=
  OpenClaim.holds_of_wide 8 Try.f8 rfl rfl rfl rfl rfl rfl rfl ⟨rfl, rfl, rfl, rfl, rfl⟩ rfl rfl rfl rfl rfl (by kernel_rfl) Try.func8 (by kernel_rfl)
    (of_decide_eq_true (by kernel_rfl)) (by unfold Func.isWrapper; first | (rw [if_pos (by decide +kernel)]; kernel_rfl) | (rw [if_neg (by decide +kernel)]; exact ⟨rfl, rfl⟩))
    (fun os started H enc _ => lifted os started H enc)

theorem proved : Rows.FnExactSameCellsSaid := over
#print axioms proved
end Go.Proofs.Ytpoiecdifhkegaa.fnExactSameCells
