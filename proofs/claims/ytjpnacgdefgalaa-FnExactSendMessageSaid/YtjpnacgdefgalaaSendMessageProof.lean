/- At all senders and all messages, whatever they hold, SendMessage answers as its model, in every field, shares no memory with what it was given, and writes into no argument. No condition. -/
import Derived.Test.YtjpnacgdefgalaaSendMessageW
import Derived.Test.YtjpnacgdefgalaaSndO
import Derived.Test.YtjpnacgdefgalaaSdmZ
namespace Go.Proofs.Ytjpnacgdefgalaa.fnExactSendMessage
open Go.ChangeShapes Go.WideShapes Go.ChangeAt Go.RowKit
set_option linter.unusedVariables false

theorem own : ownKnob Try.prog.godebug = none := by kernel_rfl
theorem laidOut : laidOutB Try.prog = true := by kernel_rfl

set_option maxRecDepth 100000 in
theorem lifted (os : Os) (started : os.Started) (H : Type) (enc : TypeId × Value → H) :
    ReturnsInHanded {} Try.checked os 7 .any (Rows.fnExactSendMessageSpec.pre6 enc Try.prog Try.f7 Rows.fnExactSendMessageRow.domain false) (Rows.fnExactSendMessageSpec.post enc Try.prog Try.f7 false true false false) := by
  refine returnsInHanded_of_change (C := Try.checked) own started (by kernel_rfl) Try.func7
    (ChangeSpec.witness6 (enc := enc) (C := Try.checked) false ⟨#[], #[.agg #[.int .i64 0, .slice none 0 0], .slice none 0 0], []⟩ 8 (by kernel_rfl) (by kernel_rfl) (by kernel_rfl) (by kernel_rfl)) ?_
  intro W base args ds gs before hval0 hW hcnd _
  have hval : ∀ (j : Nat) t v, Try.f7.params[j]? = some t → args[j]? = some v → Value.okWide Try.prog W .any base t v := hval0
  have hW' := hW
  obtain ⟨p, q, hA0, hV, rfl, hfz, hnd⟩ := hW
  have hA : DataW.TrodAll enc Try.prog W 0 (fun _ => true) true Try.f7.params.toList args.toList ds p := hA0
  rw [Try.params7] at hA hval
  obtain ⟨v0, vs0, d0, ds0, p0, q0, hargs, rfl, rfl, h0, r0⟩ := trodAll_cons hA
  obtain ⟨v1, vs1, d1, ds1, p1, q1, rfl, rfl, rfl, h1, r1⟩ := trodAll_cons r0
  obtain ⟨rfl, rfl, rfl⟩ := trodAll_nil r1
  obtain rfl : args = #[v0, v1] := by cases args; simp_all
  obtain ⟨rfl, rfl⟩ := trodVars_none hV
  have k0 := h0
  have lt0 : ∀ x ∈ p0, x.block < W.heap.size := by obtain ⟨m, hm⟩ := k0; exact DataW.trod_lt m _ _ _ hm
  obtain ⟨z0_0, A0_1, m0_1, c0_1, zs0_1, rfl, w0_0, r0_1, u0_1, v0_1⟩ := argSenderOpen (hval 0 24 v0 rfl rfl) h0
  have kbz0_0 : -9223372036854775808 ≤ z0_0 ∧ z0_0 ≤ 9223372036854775807 := by
    have : IntKind.i64.min ≤ z0_0 ∧ z0_0 ≤ IntKind.i64.max := by simpa [Lit.wf] using w0_0
    exact this
  have k1 := h1
  have lt1 : ∀ x ∈ p1, x.block < W.heap.size := by obtain ⟨m, hm⟩ := k1; exact DataW.trod_lt m _ _ _ hm
  obtain ⟨a1, len1, cap1, rfl⟩ := okWide_slice Try.underlying26 (hval 1 26 v1 rfl rfl)
  obtain ⟨z1, w1⟩ : ∃ zs, IsRow .u8 W a1 len1 cap1 zs := by
    obtain ⟨fuel, hf⟩ := h1
    obtain ⟨a, l, c, zs, e, r⟩ := rowOpen (v := .slice a1 len1 cap1) (by simpa [Value.cells] using hf)
    injection e with e1 e2 e3; subst e1; subst e2; subst e3
    exact ⟨zs, r⟩
  clear hA0 hval0
  refine (exactSendMessage_all z0_0 A0_1 m0_1 c0_1 zs0_1 a1 len1 cap1 (z1.take len1) W r0_1 w1.bs u0_1 v0_1 w1.small (fun hd1 _ => by
    obtain ⟨Z0, Z1, N0, D0, H⟩ := SendOut.ex z0_0 zs0_1 (z1.take len1)
    obtain ⟨q1, q2, q3⟩ := H.wd
    exact ⟨Z0, Z1, N0, D0, q1, q2, q3, fun _ => True, trivial, fun _ _ _ _ => trivial, Shut.mk (fun g0 g1 V p0 p1 => specSendMessage_any _ _ _ _ _ _ _ _ _ V p0 p1 (Nat.le_refl _) (by unfold totSender at *; omega) hd1 H), Shut.mk (fun g0 g1 V _ p0 p1 => implSendMessage_any _ _ _ _ _ _ _ _ _ V p0 p1 (Nat.le_refl _) (by unfold totSender at *; omega) hd1 H)⟩)).mono fun e W' ⟨he, bel⟩ => ?_
  subst he
  exact ⟨_, rfl, _, _, _, [], _, [], hW', trodAll_mk1 (shut_bool Try.underlying4 _), (trodAll_cons_mk (Below.trod laidOut (by kernel_rfl) (of_decide_eq_true (by kernel_rfl)) k0 bel lt0) (trodAll_cons_mk (Below.trod laidOut (by kernel_rfl) (of_decide_eq_true (by kernel_rfl)) k1 bel lt1) trodAll_mk0)), rfl, bel.frame _, fun h => by cases h⟩

theorem over : Rows.fnExactSendMessageRow.holds Try.pinned (OpenSpec.ofChange Rows.fnExactSendMessageSpec) :=
  OpenClaim.holds_of_wide 7 Try.f7 rfl rfl rfl rfl rfl rfl rfl ⟨rfl, rfl, rfl, rfl, rfl⟩ rfl rfl rfl rfl rfl (by kernel_rfl) Try.func7 (by kernel_rfl)
    (of_decide_eq_true (by kernel_rfl)) (by unfold Func.isWrapper; first | (rw [if_pos (by decide +kernel)]; kernel_rfl) | (rw [if_neg (by decide +kernel)]; exact ⟨rfl, rfl⟩))
    (fun os started H enc _ => lifted os started H enc)

theorem proved : Rows.FnExactSendMessageSaid := over
#print axioms proved
end Go.Proofs.Ytjpnacgdefgalaa.fnExactSendMessage
