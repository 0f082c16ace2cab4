/- At all bytes the law FnRatchets holds: keys of one epoch are one key, and that of the next one comes of the chain; what it reads of the two tables is tied to the program's text. No condition. -/
import Derived.Test.YtabhcolfkkfonaaDoorRatW
import Derived.Test.YtabhcolfkkfonaaDoorDoor
import Derived.Test.YtabhcolfkkfonaaDoorCelO
namespace Go.Proofs.YtabhcolfkkfonaaDoor.fnRatchets
open Go.ChangeShapes Go.WideShapes Go.ChangeAt Go.RowKit
set_option linter.unusedVariables false

set_option maxRecDepth 100000 in
theorem lifted (os : Os) (started : os.Started) (H : Type) (enc : TypeId × Value → H) :
    ReturnsInHanded {} Tryd.checked os 3 .any (fun w args => (Rows.fnRatchetsSpec.pre enc Tryd.prog Tryd.f3 [] false w args ∧ laidMetH Tryd.prog laidTwo w) ∧ sizedMet enc Tryd.prog Tryd.f3 (OpenSpec.ofChange Rows.fnRatchetsSpec) false w args)
      (Rows.fnRatchetsSpec.post enc Tryd.prog Tryd.f3 false true false false) := by
  refine returnsInHanded_of_change_and (C := Tryd.checked) (X := fun w _ => laidMetH Tryd.prog laidTwo w) (fun _ _ _ hh h => h.of_heap hh) own started (by kernel_rfl) Tryd.func3
    (ChangeSpec.witness_shaped (enc := enc) (C := Tryd.checked) (os := os) (X := fun w _ => laidMetH Tryd.prog laidTwo w) false (World.doorLaid Tryd.prog 400 os) #[.slice none 0 0] 8 rfl (World.shaped_of_RefB (by kernel_rfl) (by kernel_rfl)) (by kernel_rfl) (by kernel_rfl) (by kernel_rfl) (door_met os _)) ?_
  intro W base args ds gs before hval0 hW _ _ hL _
  have hval : ∀ (j : Nat) t v, Tryd.f3.params[j]? = some t → args[j]? = some v → Value.okWide Tryd.prog W .any base t v := hval0
  have hW' := hW
  obtain ⟨p, q, hA0, hV, rfl, hfz, hnd⟩ := hW
  have hA : DataW.TrodAll enc Tryd.prog W 0 (fun _ => true) true Tryd.f3.params.toList args.toList ds p := hA0
  rw [Tryd.params3] at hA hval
  obtain ⟨v0, vs0, d0, ds0, p0, q0, hargs, rfl, rfl, h0, r0⟩ := trodAll_cons hA
  obtain ⟨rfl, rfl, rfl⟩ := trodAll_nil r0
  obtain rfl : args = #[v0] := by cases args; simp_all
  have hT := tabs_of_laid hL
  have hV0 : DataW.TrodVars enc Tryd.prog W (fun _ => true) ["loop.example/g00792/impl.firstWords", "loop.example/g00792/impl.roundWords"] gs q := hV
  have hV1 := hV0
  obtain ⟨x0, x1, rfl⟩ : ∃ x0 x1, gs = [x0, x1] := by
    rcases gs with _ | ⟨x0, _ | ⟨x1, _ | ⟨x2, r⟩⟩⟩
    · exact hV1.elim
    · obtain ⟨_, _, _, _, _, _, _, _, _, _, hV1, _⟩ := hV1; exact hV1.elim
    · exact ⟨_, _, rfl⟩
    · obtain ⟨_, _, _, _, _, _, _, _, _, _, hV1, _⟩ := hV1; obtain ⟨_, _, _, _, _, _, _, _, _, _, hV1, _⟩ := hV1; exact hV1.elim
  have k0 := h0
  have lt0 : ∀ x ∈ p0, x.block < W.heap.size := by obtain ⟨m, hm⟩ := k0; exact DataW.trod_lt m _ _ _ hm
  obtain ⟨a0, len0, cap0, rfl⟩ := okWide_slice Tryd.underlying22 (hval 0 22 v0 rfl rfl)
  obtain ⟨z0, w0⟩ : ∃ zs, IsRow .u8 W a0 len0 cap0 zs := by
    obtain ⟨fuel, hf⟩ := h0
    obtain ⟨a, l, c, zs, e, r⟩ := rowOpen (v := .slice a0 len0 cap0) (by simpa [Value.cells] using hf)
    injection e with e1 e2 e3; subst e1; subst e2; subst e3
    exact ⟨zs, r⟩
  clear hA0 hval0
  refine (ratchets_all a0 len0 cap0 _ W hT w0.bs w0.small).mono fun e W' ⟨he, bel⟩ => ?_
  subst he
  exact ⟨_, rfl, _, _, _, [], _, q, hW', trodAll_mk1 (shut_bool Tryd.underlying4 _), (trodAll_cons_mk (Below.trod laidOut (by kernel_rfl) (of_decide_eq_true (by kernel_rfl)) k0 bel lt0) trodAll_mk0), Below.trodVars laidOut bel rowed hV0, bel.frame _, fun h => by cases h⟩

theorem over : Rows.fnRatchetsRow.holds Tryd.pinned (OpenSpec.ofChange Rows.fnRatchetsSpec) :=
  OpenClaim.holds_of_wide 3 Tryd.f3 rfl rfl rfl rfl rfl rfl rfl ⟨rfl, rfl, rfl, rfl, rfl⟩ rfl rfl rfl rfl rfl (by kernel_rfl) Tryd.func3 (by kernel_rfl)
    (of_decide_eq_true (by kernel_rfl)) (by unfold Func.isWrapper; first | (rw [if_pos (by decide +kernel)]; kernel_rfl) | (rw [if_neg (by decide +kernel)]; exact ⟨rfl, rfl⟩))
    (fun os started H enc _ => lifted os started H enc)

theorem proved : Rows.FnRatchetsCardSaid := by
  unfold Rows.FnRatchetsCardSaid Rows.fnRatchetsCard
  exact Claim7.holds_tied_plain_at .later [] [.data, .data] true Rows.fnRatchetsCard.stood.harness Rows.fnRatchetsCard.stood.looks over (fun _ h => by cases h) (by kernel_rfl) (fun _ h => by cases h) fnRatchets_row_tie rfl ⟨rfl, rfl⟩ (by kernel_rfl) rfl
    (fun f fn hf hfn => by
      obtain rfl : f = 3 := Option.some.inj ((show Tryd.prog.funcNamed "loop.example/g00792/laws.FnRatchets" = some 3 by kernel_rfl).symm.trans hf) |>.symm
      obtain rfl : fn = Tryd.f3 := (Option.some.inj (Tryd.func3.symm.trans hfn)).symm
      refine ⟨by kernel_rfl, fun j t ht => ?_⟩
      rw [Tryd.params3] at ht
      rcases j with _ | j
      · obtain rfl : t = 22 := by simpa using ht.symm
        kernel_rfl
      · simp at ht)
    (by kernel_rfl)
#print axioms proved
end Go.Proofs.YtabhcolfkkfonaaDoor.fnRatchets
