/- At all keys, slots and cells, SealCell answers as its model, in both fields, in memory of its own, and writes into no argument; what it reads of the table of places is tied to the program's text. No condition. -/
import Derived.Test.YtpoiecdifhkegaaDoorSelX
import Derived.Test.YtpoiecdifhkegaaDoorCelO
import Derived.Test.YtpoiecdifhkegaaDoorDoorC
namespace Go.Proofs.YtpoiecdifhkegaaDoor.fnExactSealCell
open Go.ChangeShapes Go.WideShapes Go.ChangeAt Go.RowKit
set_option linter.unusedVariables false

set_option maxRecDepth 100000 in
theorem lifted (os : Os) (started : os.Started) (H : Type) (enc : TypeId × Value → H) :
    ReturnsInHanded {} Tryd.checked os 3 .any (fun w args => (Rows.fnExactSealCellSpec.pre enc Tryd.prog Tryd.f3 [] false w args ∧ laidMetH Tryd.prog laidOne w) ∧ sizedMet enc Tryd.prog Tryd.f3 (OpenSpec.ofChange Rows.fnExactSealCellSpec) false w args)
      (Rows.fnExactSealCellSpec.post enc Tryd.prog Tryd.f3 false true false false) := by
  refine returnsInHanded_of_change_and (C := Tryd.checked) (X := fun w _ => laidMetH Tryd.prog laidOne w) (fun _ _ _ hh h => h.of_heap hh) own started (by kernel_rfl) Tryd.func3
    (ChangeSpec.witness_shaped (enc := enc) (C := Tryd.checked) (os := os) (X := fun w _ => laidMetH Tryd.prog laidOne w) false (World.doorLaid Tryd.prog 400 os) #[.slice none 0 0, .int .i64 0, .agg #[.int .i64 0, .int .i64 0, .int .i64 0, .int .i64 0, .bool false, .slice none 0 0]] 8 rfl (World.shaped_of_RefB (by kernel_rfl) (by kernel_rfl)) (by kernel_rfl) (by kernel_rfl) (by kernel_rfl) (door_met os _)) ?_
  intro W base args ds gs before hval0 hW _ _ hL _
  have hval : ∀ (j : Nat) t v, Tryd.f3.params[j]? = some t → args[j]? = some v → Value.okWide Tryd.prog W .any base t v := hval0
  have hW' := hW
  obtain ⟨p, q, hA0, hV, rfl, hfz, hnd⟩ := hW
  have hA : DataW.TrodAll enc Tryd.prog W 0 (fun _ => true) true Tryd.f3.params.toList args.toList ds p := hA0
  rw [Tryd.params3] at hA hval
  obtain ⟨v0, vs0, d0, ds0, p0, q0, hargs, rfl, rfl, h0, r0⟩ := trodAll_cons hA
  obtain ⟨v1, vs1, d1, ds1, p1, q1, rfl, rfl, rfl, h1, r1⟩ := trodAll_cons r0
  obtain ⟨v2, vs2, d2, ds2, p2, q2, rfl, rfl, rfl, h2, r2⟩ := trodAll_cons r1
  obtain ⟨rfl, rfl, rfl⟩ := trodAll_nil r2
  obtain rfl : args = #[v0, v1, v2] := by cases args; simp_all
  have hT := quar_of_laid hL
  have hV0 : DataW.TrodVars enc Tryd.prog W (fun _ => true) ["loop.example/g00792/impl.quarterPlaces"] gs q := hV
  have hV1 := hV0
  obtain ⟨x0, rfl⟩ : ∃ x0, gs = [x0] := by
    rcases gs with _ | ⟨x0, _ | ⟨x1, r⟩⟩
    · exact hV1.elim
    · exact ⟨_, rfl⟩
    · obtain ⟨_, _, _, _, _, _, _, _, _, _, hV1, _⟩ := hV1; exact hV1.elim
  have k0 := h0
  have lt0 : ∀ x ∈ p0, x.block < W.heap.size := by obtain ⟨m, hm⟩ := k0; exact DataW.trod_lt m _ _ _ hm
  obtain ⟨a0, len0, cap0, rfl⟩ := okWide_slice Tryd.underlying22 (hval 0 22 v0 rfl rfl)
  obtain ⟨z0, w0⟩ : ∃ zs, IsRow .u8 W a0 len0 cap0 zs := by
    obtain ⟨fuel, hf⟩ := h0
    obtain ⟨a, l, c, zs, e, r⟩ := rowOpen (v := .slice a0 len0 cap0) (by simpa [Value.cells] using hf)
    injection e with e1 e2 e3; subst e1; subst e2; subst e3
    exact ⟨zs, r⟩
  obtain ⟨x1, rfl, rfl, rfl, w1⟩ := open_int Tryd.underlying2 (hval 1 2 v1 rfl rfl) h1
  have kb1 : -9223372036854775808 ≤ x1 ∧ x1 ≤ 9223372036854775807 := by
    have : IntKind.i64.min ≤ x1 ∧ x1 ≤ IntKind.i64.max := by simpa [Lit.wf] using w1
    exact this
  have k2 := h2
  have lt2 : ∀ x ∈ p2, x.block < W.heap.size := by obtain ⟨m, hm⟩ := k2; exact DataW.trod_lt m _ _ _ hm
  obtain ⟨x2a, x2b, x2c, x2d, x2v, a2, n2, c2, z2, rfl, w2, wf2a, wf2b, wf2c, wf2d⟩ := cellOpen (hval 2 24 v2 rfl rfl) h2
  have kb2a : -9223372036854775808 ≤ x2a ∧ x2a ≤ 9223372036854775807 := by
    have : IntKind.i64.min ≤ x2a ∧ x2a ≤ IntKind.i64.max := by simpa [Lit.wf] using wf2a
    exact this
  have kb2b : -9223372036854775808 ≤ x2b ∧ x2b ≤ 9223372036854775807 := by
    have : IntKind.i64.min ≤ x2b ∧ x2b ≤ IntKind.i64.max := by simpa [Lit.wf] using wf2b
    exact this
  have kb2c : -9223372036854775808 ≤ x2c ∧ x2c ≤ 9223372036854775807 := by
    have : IntKind.i64.min ≤ x2c ∧ x2c ≤ IntKind.i64.max := by simpa [Lit.wf] using wf2c
    exact this
  have kb2d : -9223372036854775808 ≤ x2d ∧ x2d ≤ 9223372036854775807 := by
    have : IntKind.i64.min ≤ x2d ∧ x2d ≤ IntKind.i64.max := by simpa [Lit.wf] using wf2d
    exact this
  clear hA0 hval0
  refine (exactSealCell_all x1 x2a x2b x2c x2d x2v a0 len0 cap0 _ a2 n2 c2 _ W w0.bs w2.bs w0.lenmax w2.small (fun _ _ => ⟨selC len0 x1 (cellC x2a x2b x2c x2d x2v n2), wirN (selC len0 x1 (cellC x2a x2b x2c x2d x2v n2)), _, Nat.le_trans (wirN_le _) (by omega), Quar, hT, fun W W' hb hW => hW.keep hb, Shut.mk (fun g0 g2 V p0 p2 => (specSealCell_any _ _ _ _ x1 x2a x2b x2c x2d x2v _ _ _ _ V p0 (Nat.le_refl _) p2 (fun e => by cases e)).mono fun _ _ h => h.rs), Shut.mk (fun g0 g2 V hV p0 p2 => (implSealCell_any _ _ _ _ x1 x2a x2b x2c x2d x2v _ _ _ _ V hV p0 (Nat.le_refl _) p2).mono fun _ _ h => h.rs)⟩)).mono fun e W' ⟨he, bel⟩ => ?_
  subst he
  exact ⟨_, rfl, _, _, _, [], _, q, hW', trodAll_mk1 (shut_bool Tryd.underlying4 _), (trodAll_cons_mk (Below.trod laidOut (by kernel_rfl) (of_decide_eq_true (by kernel_rfl)) k0 bel lt0) (trodAll_cons_mk (shut_int Tryd.underlying2 w1) (trodAll_cons_mk (Below.trod laidOut (by kernel_rfl) (of_decide_eq_true (by kernel_rfl)) k2 bel lt2) trodAll_mk0))), Below.trodVars laidOut bel rowed hV0, bel.frame _, fun h => by cases h⟩

theorem over : Rows.fnExactSealCellRow.holds Tryd.pinned (OpenSpec.ofChange Rows.fnExactSealCellSpec) :=
  OpenClaim.holds_of_wide 3 Tryd.f3 rfl rfl rfl rfl rfl rfl rfl ⟨rfl, rfl, rfl, rfl, rfl⟩ rfl rfl rfl rfl rfl (by kernel_rfl) Tryd.func3 (by kernel_rfl)
    (of_decide_eq_true (by kernel_rfl)) (by unfold Func.isWrapper; first | (rw [if_pos (by decide +kernel)]; kernel_rfl) | (rw [if_neg (by decide +kernel)]; exact ⟨rfl, rfl⟩))
    (fun os started H enc _ => lifted os started H enc)

theorem proved : Rows.FnExactSealCellCardSaid := by
  unfold Rows.FnExactSealCellCardSaid Rows.fnExactSealCellCard
  exact Claim7.holds_tied_plain_at .later [] [.data] true Rows.fnExactSealCellCard.stood.harness Rows.fnExactSealCellCard.stood.looks over (fun _ h => by cases h) (by kernel_rfl) (fun _ h => by cases h) fnExactSealCell_row_tie rfl ⟨rfl, rfl⟩ (by kernel_rfl) rfl
    (fun f fn hf hfn => by
      obtain rfl : f = 3 := Option.some.inj ((show Tryd.prog.funcNamed "loop.example/g00792/laws.FnExactSealCell" = some 3 by kernel_rfl).symm.trans hf) |>.symm
      obtain rfl : fn = Tryd.f3 := (Option.some.inj (Tryd.func3.symm.trans hfn)).symm
      refine ⟨by kernel_rfl, fun j t ht => ?_⟩
      rw [Tryd.params3] at ht
      rcases j with _ | _ | _ | j
      · obtain rfl : t = 22 := by simpa using ht.symm
        kernel_rfl
      · obtain rfl : t = 2 := by simpa using ht.symm
        kernel_rfl
      · obtain rfl : t = 24 := by simpa using ht.symm
        kernel_rfl
      · simp at ht)
    (by kernel_rfl)
#print axioms proved
end Go.Proofs.YtpoiecdifhkegaaDoor.fnExactSealCell
