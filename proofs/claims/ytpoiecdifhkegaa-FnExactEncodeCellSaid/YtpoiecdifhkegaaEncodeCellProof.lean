/- At all cells, EncodeCell answers as its model, in both fields, in memory of its own, and writes into no argument. No condition. -/
import Derived.Test.YtpoiecdifhkegaaEncodeCellW
import Derived.Test.YtpoiecdifhkegaaEncA
import Derived.Test.YtpoiecdifhkegaaCellO
namespace Go.Proofs.Ytpoiecdifhkegaa.fnExactEncodeCell
open Go.ChangeShapes Go.WideShapes Go.ChangeAt Go.RowKit
set_option linter.unusedVariables false

theorem own : ownKnob Try.prog.godebug = none := by kernel_rfl
theorem laidOut : laidOutB Try.prog = true := by kernel_rfl

set_option maxRecDepth 100000 in
theorem lifted (os : Os) (started : os.Started) (H : Type) (enc : TypeId × Value → H) :
    ReturnsInHanded {} Try.checked os 5 .any (Rows.fnExactEncodeCellSpec.pre6 enc Try.prog Try.f5 Rows.fnExactEncodeCellRow.domain false) (Rows.fnExactEncodeCellSpec.post enc Try.prog Try.f5 false true false false) := by
  refine returnsInHanded_of_change (C := Try.checked) own started (by kernel_rfl) Try.func5
    (ChangeSpec.witness6 (enc := enc) (C := Try.checked) false ⟨#[], #[.agg #[.int .i64 0, .int .i64 0, .int .i64 0, .int .i64 0, .bool false, .slice none 0 0]], []⟩ 8 (by kernel_rfl) (by kernel_rfl) (by kernel_rfl) (by kernel_rfl)) ?_
  intro W base args ds gs before hval0 hW hcnd _
  have hval : ∀ (j : Nat) t v, Try.f5.params[j]? = some t → args[j]? = some v → Value.okWide Try.prog W .any base t v := hval0
  have hW' := hW
  obtain ⟨p, q, hA0, hV, rfl, hfz, hnd⟩ := hW
  have hA : DataW.TrodAll enc Try.prog W 0 (fun _ => true) true Try.f5.params.toList args.toList ds p := hA0
  rw [Try.params5] at hA hval
  obtain ⟨v0, vs0, d0, ds0, p0, q0, hargs, rfl, rfl, h0, r0⟩ := trodAll_cons hA
  obtain ⟨rfl, rfl, rfl⟩ := trodAll_nil r0
  obtain rfl : args = #[v0] := by cases args; simp_all
  obtain ⟨rfl, rfl⟩ := trodVars_none hV
  have k0 := h0
  have lt0 : ∀ x ∈ p0, x.block < W.heap.size := by obtain ⟨m, hm⟩ := k0; exact DataW.trod_lt m _ _ _ hm
  obtain ⟨x0a, x0b, x0c, x0d, x0v, a0, n0, c0, z0, rfl, w0, wf0a, wf0b, wf0c, wf0d⟩ := cellOpen (hval 0 40 v0 rfl rfl) h0
  have kb0a : -9223372036854775808 ≤ x0a ∧ x0a ≤ 9223372036854775807 := by
    have : IntKind.i64.min ≤ x0a ∧ x0a ≤ IntKind.i64.max := by simpa [Lit.wf] using wf0a
    exact this
  have kb0b : -9223372036854775808 ≤ x0b ∧ x0b ≤ 9223372036854775807 := by
    have : IntKind.i64.min ≤ x0b ∧ x0b ≤ IntKind.i64.max := by simpa [Lit.wf] using wf0b
    exact this
  have kb0c : -9223372036854775808 ≤ x0c ∧ x0c ≤ 9223372036854775807 := by
    have : IntKind.i64.min ≤ x0c ∧ x0c ≤ IntKind.i64.max := by simpa [Lit.wf] using wf0c
    exact this
  have kb0d : -9223372036854775808 ≤ x0d ∧ x0d ≤ 9223372036854775807 := by
    have : IntKind.i64.min ≤ x0d ∧ x0d ≤ IntKind.i64.max := by simpa [Lit.wf] using wf0d
    exact this
  clear hA0 hval0
  refine (exactEncodeCell_all x0a x0b x0c x0d x0v a0 n0 c0 _ W w0.bs w0.small (fun _ => ⟨cellC x0a x0b x0c x0d x0v n0, encN (cellC x0a x0b x0c x0d x0v n0), _, Nat.le_trans (encN_le _) (by omega), fun _ => True, trivial, fun _ _ _ _ => trivial, Shut.mk (fun g V p => (specEncodeCell_any x0a x0b x0c x0d x0v _ _ _ _ V p (fun e => by cases e)).mono fun _ _ h => h.rs), Shut.mk (fun g V _ p => (implEncodeCell_any x0a x0b x0c x0d x0v _ _ _ _ V p).mono fun _ _ h => h.rs)⟩)).mono fun e W' ⟨he, bel⟩ => ?_
  subst he
  exact ⟨_, rfl, _, _, _, [], _, [], hW', trodAll_mk1 (shut_bool Try.underlying4 _), (trodAll_cons_mk (Below.trod laidOut (by kernel_rfl) (of_decide_eq_true (by kernel_rfl)) k0 bel lt0) trodAll_mk0), rfl, bel.frame _, fun h => by cases h⟩

theorem over : Rows.fnExactEncodeCellRow.holds Try.pinned (OpenSpec.ofChange Rows.fnExactEncodeCellSpec) :=
  OpenClaim.holds_of_wide 5 Try.f5 rfl rfl rfl rfl rfl rfl rfl ⟨rfl, rfl, rfl, rfl, rfl⟩ rfl rfl rfl rfl rfl (by kernel_rfl) Try.func5 (by kernel_rfl)
    (of_decide_eq_true (by kernel_rfl)) (by unfold Func.isWrapper; first | (rw [if_pos (by decide +kernel)]; kernel_rfl) | (rw [if_neg (by decide +kernel)]; exact ⟨rfl, rfl⟩))
    (fun os started H enc _ => lifted os started H enc)

theorem proved : Rows.FnExactEncodeCellSaid := over
#print axioms proved
end Go.Proofs.Ytpoiecdifhkegaa.fnExactEncodeCell
