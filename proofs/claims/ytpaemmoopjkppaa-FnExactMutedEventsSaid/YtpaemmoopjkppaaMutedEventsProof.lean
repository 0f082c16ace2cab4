/- At all lists of events, whatever they hold, MutedEvents answers as its model, in every field, shares no memory with what it was given, and writes into no argument. No condition. -/
import Derived.Test.YtpaemmoopjkppaaMutedEventsW
import Derived.Test.YtpaemmoopjkppaaEvnO
import Derived.Test.YtpaemmoopjkppaaMutQ
namespace Go.Proofs.Ytpaemmoopjkppaa.fnExactMutedEvents
open Go.ChangeShapes Go.WideShapes Go.ChangeAt Go.RowKit
set_option linter.unusedVariables false

theorem own : ownKnob Try.prog.godebug = none := by kernel_rfl
theorem laidOut : laidOutB Try.prog = true := by kernel_rfl

set_option maxRecDepth 100000 in
theorem lifted (os : Os) (started : os.Started) (H : Type) (enc : TypeId × Value → H) :
    ReturnsInHanded {} Try.checked os 4 .any (Rows.fnExactMutedEventsSpec.pre6 enc Try.prog Try.f4 Rows.fnExactMutedEventsRow.domain false) (Rows.fnExactMutedEventsSpec.post enc Try.prog Try.f4 false true false false) := by
  refine returnsInHanded_of_change (C := Try.checked) own started (by kernel_rfl) Try.func4
    (ChangeSpec.witness6 (enc := enc) (C := Try.checked) false ⟨#[], #[.slice none 0 0], []⟩ 8 (by kernel_rfl) (by kernel_rfl) (by kernel_rfl) (by kernel_rfl)) ?_
  intro W base args ds gs before hval0 hW hcnd _
  have hval : ∀ (j : Nat) t v, Try.f4.params[j]? = some t → args[j]? = some v → Value.okWide Try.prog W .any base t v := hval0
  have hW' := hW
  obtain ⟨p, q, hA0, hV, rfl, hfz, hnd⟩ := hW
  have hA : DataW.TrodAll enc Try.prog W 0 (fun _ => true) true Try.f4.params.toList args.toList ds p := hA0
  rw [Try.params4] at hA hval
  obtain ⟨v0, vs0, d0, ds0, p0, q0, hargs, rfl, rfl, h0, r0⟩ := trodAll_cons hA
  obtain ⟨rfl, rfl, rfl⟩ := trodAll_nil r0
  obtain rfl : args = #[v0] := by cases args; simp_all
  obtain ⟨rfl, rfl⟩ := trodVars_none hV
  have k0 := h0
  have lt0 : ∀ x ∈ p0, x.block < W.heap.size := by obtain ⟨m, hm⟩ := k0; exact DataW.trod_lt m _ _ _ hm
  obtain ⟨a0, len0, cap0, rfl⟩ := okWide_slice Try.underlying47 (hval 0 47 v0 rfl rfl)
  obtain ⟨z0, r0, u0, y0⟩ : ∃ els, Lst EventD.cels 6 W a0 len0 els ∧ len0 ≤ 9223372036854775807 ∧ (∀ e ∈ els, e.f2.length ≤ 9223372036854775807) := by
    obtain ⟨fuel, hf⟩ := h0
    obtain ⟨a, l, c, els, e, r, u, y⟩ := listEventOpen (v := .slice a0 len0 cap0) (by simpa [Value.cells] using hf)
    injection e with e1 e2 e3; subst e1; subst e2; subst e3
    exact ⟨els, r, u, y⟩
  clear hA0 hval0
  refine (exactMutedEvents_all  a0 len0 cap0 z0 W r0 u0 y0 (fun hz => by
    obtain ⟨Z, N, D, H⟩ := MutOut.ex z0 len0
    obtain ⟨b0, b1, b2⟩ := H.wd r0.len hz
    have hb : ∀ e ∈ z0, e.f2.length ≤ 1048576 := fun e he => by have h1 : e.f2.length ≤ sumE EventD.len z0 := sumE_mem EventD.len he; omega
    exact ⟨Z, N, D, b0, b1, b2, fun _ => True, trivial, fun _ _ _ _ => trivial, Shut.mk (fun g0 V p0 => specMutedEvents_any _ _ _ _ V p0 (by omega) hb H), Shut.mk (fun g0 V _ p0 => implMutedEvents_any _ _ _ _ V p0 (by omega) hb H)⟩)).mono fun e W' ⟨he, bel⟩ => ?_
  subst he
  exact ⟨_, rfl, _, _, _, [], _, [], hW', trodAll_mk1 (shut_bool Try.underlying4 _), (trodAll_cons_mk (Below.trod laidOut (by kernel_rfl) (of_decide_eq_true (by kernel_rfl)) k0 bel lt0) trodAll_mk0), rfl, bel.frame _, fun h => by cases h⟩

theorem over : Rows.fnExactMutedEventsRow.holds Try.pinned (OpenSpec.ofChange Rows.fnExactMutedEventsSpec) :=
  OpenClaim.holds_of_wide 4 Try.f4 rfl rfl rfl rfl rfl rfl rfl ⟨rfl, rfl, rfl, rfl, rfl⟩ rfl rfl rfl rfl rfl (by kernel_rfl) Try.func4 (by kernel_rfl)
    (of_decide_eq_true (by kernel_rfl)) (by unfold Func.isWrapper; first | (rw [if_pos (by decide +kernel)]; kernel_rfl) | (rw [if_neg (by decide +kernel)]; exact ⟨rfl, rfl⟩))
    (fun os started H enc _ => lifted os started H enc)

theorem proved : Rows.FnExactMutedEventsSaid := over
#print axioms proved
end Go.Proofs.Ytpaemmoopjkppaa.fnExactMutedEvents
