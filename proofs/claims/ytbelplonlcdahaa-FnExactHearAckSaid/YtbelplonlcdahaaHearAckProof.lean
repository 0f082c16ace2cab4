/- At all senders, all numbers and all masks, whatever they hold, HearAck answers as its model, in every field, shares no memory with what it was given, and writes into no argument. No condition. -/
import Derived.Test.YtbelplonlcdahaaHearAckW
import Derived.Test.YtbelplonlcdahaaSndO
import Derived.Test.YtbelplonlcdahaaHakZ
namespace Go.Proofs.Ytbelplonlcdahaa.fnExactHearAck
open Go.ChangeShapes Go.WideShapes Go.ChangeAt Go.RowKit
set_option linter.unusedVariables false

theorem own : ownKnob Try.prog.godebug = none := by kernel_rfl
theorem laidOut : laidOutB Try.prog = true := by kernel_rfl

set_option maxRecDepth 100000 in
theorem lifted (os : Os) (started : os.Started) (H : Type) (enc : TypeId × Value → H) :
    ReturnsInHanded {} Try.checked os 9 .any (Rows.fnExactHearAckSpec.pre6 enc Try.prog Try.f9 Rows.fnExactHearAckRow.domain false) (Rows.fnExactHearAckSpec.post enc Try.prog Try.f9 false true false false) := by
  refine returnsInHanded_of_change (C := Try.checked) own started (by kernel_rfl) Try.func9
    (ChangeSpec.witness6 (enc := enc) (C := Try.checked) false ⟨#[], #[.agg #[.int .i64 0, .slice none 0 0], .int .i64 0, .int .i64 0], []⟩ 8 (by kernel_rfl) (by kernel_rfl) (by kernel_rfl) (by kernel_rfl)) ?_
  intro W base args ds gs before hval0 hW hcnd _
  have hval : ∀ (j : Nat) t v, Try.f9.params[j]? = some t → args[j]? = some v → Value.okWide Try.prog W .any base t v := hval0
  have hW' := hW
  obtain ⟨p, q, hA0, hV, rfl, hfz, hnd⟩ := hW
  have hA : DataW.TrodAll enc Try.prog W 0 (fun _ => true) true Try.f9.params.toList args.toList ds p := hA0
  rw [Try.params9] at hA hval
  obtain ⟨v0, vs0, d0, ds0, p0, q0, hargs, rfl, rfl, h0, r0⟩ := trodAll_cons hA
  obtain ⟨v1, vs1, d1, ds1, p1, q1, rfl, rfl, rfl, h1, r1⟩ := trodAll_cons r0
  obtain ⟨v2, vs2, d2, ds2, p2, q2, rfl, rfl, rfl, h2, r2⟩ := trodAll_cons r1
  obtain ⟨rfl, rfl, rfl⟩ := trodAll_nil r2
  obtain rfl : args = #[v0, v1, v2] := by cases args; simp_all
  obtain ⟨rfl, rfl⟩ := trodVars_none hV
  have k0 := h0
  have lt0 : ∀ x ∈ p0, x.block < W.heap.size := by obtain ⟨m, hm⟩ := k0; exact DataW.trod_lt m _ _ _ hm
  obtain ⟨z0_0, A0_1, m0_1, c0_1, zs0_1, rfl, w0_0, r0_1, u0_1, v0_1⟩ := argSenderOpen (hval 0 70 v0 rfl rfl) h0
  have kbz0_0 : -9223372036854775808 ≤ z0_0 ∧ z0_0 ≤ 9223372036854775807 := by
    have : IntKind.i64.min ≤ z0_0 ∧ z0_0 ≤ IntKind.i64.max := by simpa [Lit.wf] using w0_0
    exact this
  obtain ⟨x1, rfl, rfl, rfl, w1⟩ := open_int Try.underlying2 (hval 1 2 v1 rfl rfl) h1
  have kbx1 : -9223372036854775808 ≤ x1 ∧ x1 ≤ 9223372036854775807 := by
    have : IntKind.i64.min ≤ x1 ∧ x1 ≤ IntKind.i64.max := by simpa [Lit.wf] using w1
    exact this
  obtain ⟨x2, rfl, rfl, rfl, w2⟩ := open_int Try.underlying2 (hval 2 2 v2 rfl rfl) h2
  have kbx2 : -9223372036854775808 ≤ x2 ∧ x2 ≤ 9223372036854775807 := by
    have : IntKind.i64.min ≤ x2 ∧ x2 ≤ IntKind.i64.max := by simpa [Lit.wf] using w2
    exact this
  clear hA0 hval0
  refine (exactHearAck_all z0_0 x1 x2 A0_1 m0_1 c0_1 zs0_1 W r0_1 u0_1 v0_1 (fun _ => by
    obtain ⟨Z0, Z1, N0, D0, H⟩ := HearOut.ex z0_0 zs0_1 x1 x2
    obtain ⟨q1, q2, q3⟩ := H.wd
    exact ⟨Z0, Z1, N0, D0, q1, q2, q3, fun _ => True, trivial, fun _ _ _ _ => trivial, Shut.mk (fun g0 V p0 => specHearAck_any _ _ _ _ _ _ _ V p0 (by unfold totSender at *; omega) H), Shut.mk (fun g0 V _ p0 => implHearAck_any _ _ _ _ _ _ _ V p0 (by unfold totSender at *; omega) H)⟩)).mono fun e W' ⟨he, bel⟩ => ?_
  subst he
  exact ⟨_, rfl, _, _, _, [], _, [], hW', trodAll_mk1 (shut_bool Try.underlying4 _), (trodAll_cons_mk (Below.trod laidOut (by kernel_rfl) (of_decide_eq_true (by kernel_rfl)) k0 bel lt0) (trodAll_cons_mk (shut_int Try.underlying2 w1) (trodAll_cons_mk (shut_int Try.underlying2 w2) trodAll_mk0))), rfl, bel.frame _, fun h => by cases h⟩

theorem over : Rows.fnExactHearAckRow.holds Try.pinned (OpenSpec.ofChange Rows.fnExactHearAckSpec) :=
  OpenClaim.holds_of_wide 9 Try.f9 rfl rfl rfl rfl rfl rfl rfl ⟨rfl, rfl, rfl, rfl, rfl⟩ rfl rfl rfl rfl rfl (by kernel_rfl) Try.func9 (by kernel_rfl)
    (of_decide_eq_true (by kernel_rfl)) (by unfold Func.isWrapper; first | (rw [if_pos (by decide +kernel)]; kernel_rfl) | (rw [if_neg (by decide +kernel)]; exact ⟨rfl, rfl⟩))
    (fun os started H enc _ => lifted os started H enc)

theorem proved : Rows.FnExactHearAckSaid := over
#print axioms proved
end Go.Proofs.Ytbelplonlcdahaa.fnExactHearAck
