/- At all states SplitSym answers as its model, in every field, in memory of its own, and writes into no argument; what it reads of the two tables is tied to the program's text. No condition. -/
import Derived.Test.YtknkadmngdaakaaDoorSplitSymW
import Derived.Test.YtknkadmngdaakaaDoorSplitC
import Derived.Test.YtknkadmngdaakaaDoorSymO
import Derived.Test.YtknkadmngdaakaaDoorDoor
namespace Go.Proofs.YtknkadmngdaakaaDoor.fnExactSplitSym
open Go.ChangeShapes Go.WideShapes Go.ChangeAt Go.RowKit
set_option linter.unusedVariables false

set_option maxRecDepth 100000 in
theorem lifted (os : Os) (started : os.Started) (H : Type) (enc : TypeId × Value → H) :
    ReturnsInHanded {} Tryd.checked os 5 .any (fun w args => (Rows.fnExactSplitSymSpec.pre enc Tryd.prog Tryd.f5 [] false w args ∧ laidMetH Tryd.prog laidTwo w) ∧ sizedMet enc Tryd.prog Tryd.f5 (OpenSpec.ofChange Rows.fnExactSplitSymSpec) false w args)
      (Rows.fnExactSplitSymSpec.post enc Tryd.prog Tryd.f5 false true false false) := by
  refine returnsInHanded_of_change_and (C := Tryd.checked) (X := fun w _ => laidMetH Tryd.prog laidTwo w) (fun _ _ _ hh h => h.of_heap hh) own started (by kernel_rfl) Tryd.func5
    (ChangeSpec.witness_shaped (enc := enc) (C := Tryd.checked) (os := os) (X := fun w _ => laidMetH Tryd.prog laidTwo w) false (World.doorLaid Tryd.prog 400 os) #[.agg #[.slice none 0 0, .slice none 0 0, .slice none 0 0, .int .i64 0]] 8 rfl (World.shaped_of_RefB (by kernel_rfl) (by kernel_rfl)) (by kernel_rfl) (by kernel_rfl) (by kernel_rfl) (door_met os _)) ?_
  intro W base args ds gs before hval0 hW _ _ hL _
  have hval : ∀ (j : Nat) t v, Tryd.f5.params[j]? = some t → args[j]? = some v → Value.okWide Tryd.prog W .any base t v := hval0
  have hW' := hW
  obtain ⟨p, q, hA0, hV, rfl, hfz, hnd⟩ := hW
  have hA : DataW.TrodAll enc Tryd.prog W 0 (fun _ => true) true Tryd.f5.params.toList args.toList ds p := hA0
  rw [Tryd.params5] at hA hval
  obtain ⟨v0, vs0, d0, ds0, p0, q0, hargs, rfl, rfl, h0, r0⟩ := trodAll_cons hA
  obtain ⟨rfl, rfl, rfl⟩ := trodAll_nil r0
  obtain rfl : args = #[v0] := by cases args; simp_all
  have hT := tabs_of_laid hL
  have hV0 : DataW.TrodVars enc Tryd.prog W (fun _ => true) ["loop.example/g00792/impl.firstWords", "loop.example/g00792/impl.roundWords"] gs q := hV
  have hV1 := hV0
  obtain ⟨x0, x1, rfl⟩ : ∃ x0 x1, gs = [x0, x1] := by
    rcases gs with _ | ⟨x0, _ | ⟨x1, _ | ⟨x2, r⟩⟩⟩
    · exact hV1.elim
    · obtain ⟨_, _, _, _, _, _, _, _, _, _, hV1, _⟩ := hV1; exact hV1.elim
    · exact ⟨_, _, rfl⟩
    · obtain ⟨_, _, _, _, _, _, _, _, _, _, hV1, _⟩ := hV1; obtain ⟨_, _, _, _, _, _, _, _, _, _, hV1, _⟩ := hV1; exact hV1.elim
  have k0 := h0
  have lt0 : ∀ x ∈ p0, x.block < W.heap.size := by obtain ⟨m, hm⟩ := k0; exact DataW.trod_lt m _ _ _ hm
  obtain ⟨a0a, n0a, c0a, z0a, a0b, n0b, c0b, z0b, a0c, n0c, c0c, z0c, k0k, rfl, w0a, w0b, w0c, wf0⟩ := symOpen (hval 0 24 v0 rfl rfl) h0
  have kb0 : -9223372036854775808 ≤ k0k ∧ k0k ≤ 9223372036854775807 := by
    have : IntKind.i64.min ≤ k0k ∧ k0k ≤ IntKind.i64.max := by simpa [Lit.wf] using wf0
    exact this
  clear hA0 hval0
  refine (exactSplitSym_all a0a a0b a0c n0a c0a n0b c0b n0c c0c _ _ _ k0k W w0a.bs w0b.bs w0c.bs w0a.small w0b.small w0c.small (fun _ => ⟨symC n0a n0b n0c k0k, _, _, _, _, ⟨Nat.le_trans (codN_le _ 32) (by omega), Nat.le_trans (codN_le _ 32) (by omega)⟩, Tabs, hT, fun W W' hb hW => hW.keep hb, Shut.mk (fun g0 g1 g2 V _ p1 _ => specSplitSym_any _ _ _ _ _ _ _ _ _ _ _ V p1), Shut.mk (fun g0 g1 g2 V hV _ p1 _ => implSplitSym_any _ _ _ _ _ _ _ _ _ _ _ V hV p1)⟩)).mono fun e W' ⟨he, bel⟩ => ?_
  subst he
  exact ⟨_, rfl, _, _, _, [], _, q, hW', trodAll_mk1 (shut_bool Tryd.underlying4 _), (trodAll_cons_mk (Below.trod laidOut (by kernel_rfl) (of_decide_eq_true (by kernel_rfl)) k0 bel lt0) trodAll_mk0), Below.trodVars laidOut bel rowed hV0, bel.frame _, fun h => by cases h⟩

theorem over : Rows.fnExactSplitSymRow.holds Tryd.pinned (OpenSpec.ofChange Rows.fnExactSplitSymSpec) :=
  OpenClaim.holds_of_wide 5 Tryd.f5 rfl rfl rfl rfl rfl rfl rfl ⟨rfl, rfl, rfl, rfl, rfl⟩ rfl rfl rfl rfl rfl (by kernel_rfl) Tryd.func5 (by kernel_rfl)
    (of_decide_eq_true (by kernel_rfl)) (by unfold Func.isWrapper; first | (rw [if_pos (by decide +kernel)]; kernel_rfl) | (rw [if_neg (by decide +kernel)]; exact ⟨rfl, rfl⟩))
    (fun os started H enc _ => lifted os started H enc)

theorem proved : Rows.FnExactSplitSymCardSaid := by
  unfold Rows.FnExactSplitSymCardSaid Rows.fnExactSplitSymCard
  exact Claim7.holds_tied_plain_at .later [] [.data, .data] true Rows.fnExactSplitSymCard.stood.harness Rows.fnExactSplitSymCard.stood.looks over (fun _ h => by cases h) (by kernel_rfl) (fun _ h => by cases h) fnExactSplitSym_row_tie rfl ⟨rfl, rfl⟩ (by kernel_rfl) rfl
    (fun f fn hf hfn => by
      obtain rfl : f = 5 := Option.some.inj ((show Tryd.prog.funcNamed "loop.example/g00792/laws.FnExactSplitSym" = some 5 by kernel_rfl).symm.trans hf) |>.symm
      obtain rfl : fn = Tryd.f5 := (Option.some.inj (Tryd.func5.symm.trans hfn)).symm
      refine ⟨by kernel_rfl, fun j t ht => ?_⟩
      rw [Tryd.params5] at ht
      rcases j with _ | j
      · obtain rfl : t = 24 := by simpa using ht.symm
        kernel_rfl
      · simp at ht)
    (by kernel_rfl)
#print axioms proved
end Go.Proofs.YtknkadmngdaakaaDoor.fnExactSplitSym
