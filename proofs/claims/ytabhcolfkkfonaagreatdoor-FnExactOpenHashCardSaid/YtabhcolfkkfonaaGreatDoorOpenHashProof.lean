/- At all states and texts OpenHash answers as its model, in every field, in memory of its own, and writes into no argument; what it reads of the three tables and of the sentinel is tied to the program's text. No condition. -/
import Derived.Test.YtabhcolfkkfonaaGreatDoorOpenHashW
import Derived.Test.YtabhcolfkkfonaaGreatDoorOpenH
import Derived.Test.YtabhcolfkkfonaaGreatDoorCelO
import Derived.Test.YtabhcolfkkfonaaGreatDoorDoorY
namespace Go.Proofs.YtabhcolfkkfonaaGreatDoor.fnExactOpenHash
open Go.ChangeShapes Go.WideShapes Go.ChangeAt Go.RowKit
set_option linter.unusedVariables false

set_option maxRecDepth 100000 in
theorem lifted (os : Os) (started : os.Started) (H : Type) (enc : TypeId × Value → H) :
    ReturnsInHanded {} Tryz.checked os 7 .any (fun w args => (Rows.fnExactOpenHashSpec.pre enc Tryz.prog Tryz.f7 [] false w args ∧ laidMetH Tryz.prog laidFour w) ∧ sizedMet enc Tryz.prog Tryz.f7 (OpenSpec.ofChange Rows.fnExactOpenHashSpec) false w args)
      (Rows.fnExactOpenHashSpec.post enc Tryz.prog Tryz.f7 false true false false) := by
  refine returnsInHanded_of_change_and (C := Tryz.checked) (X := fun w _ => laidMetH Tryz.prog laidFour w) (fun _ _ _ hh h => h.of_heap hh) own started (by kernel_rfl) Tryz.func7
    (ChangeSpec.witness_shaped (enc := enc) (C := Tryz.checked) (os := os) (X := fun w _ => laidMetH Tryz.prog laidFour w) false (World.doorLaid Tryz.prog 400 os) #[.agg #[.slice none 0 0, .slice none 0 0, .slice none 0 0, .int .i64 0], .slice none 0 0] 8 rfl (World.shaped_of_RefB (by kernel_rfl) (by kernel_rfl)) (by kernel_rfl) (by kernel_rfl) (by kernel_rfl) (door_met4 os _)) ?_
  intro W base args ds gs before hval0 hW _ _ hL _
  have hval : ∀ (j : Nat) t v, Tryz.f7.params[j]? = some t → args[j]? = some v → Value.okWide Tryz.prog W .any base t v := hval0
  have hW' := hW
  obtain ⟨p, q, hA0, hV, rfl, hfz, hnd⟩ := hW
  have hA : DataW.TrodAll enc Tryz.prog W 0 (fun _ => true) true Tryz.f7.params.toList args.toList ds p := hA0
  rw [Tryz.params7] at hA hval
  obtain ⟨v0, vs0, d0, ds0, p0, q0, hargs, rfl, rfl, h0, r0⟩ := trodAll_cons hA
  obtain ⟨v1, vs1, d1, ds1, p1, q1, rfl, rfl, rfl, h1, r1⟩ := trodAll_cons r0
  obtain ⟨rfl, rfl, rfl⟩ := trodAll_nil r1
  obtain rfl : args = #[v0, v1] := by cases args; simp_all
  have hT := four_of_laid hL
  have hV0 : DataW.TrodVars enc Tryz.prog W (fun _ => true) ["loop.example/g00792/impl.errTurned", "loop.example/g00792/impl.quarterPlaces", "loop.example/g00792/impl.firstWords", "loop.example/g00792/impl.roundWords"] gs q := hV
  have hV1 := hV0
  obtain ⟨x0, x1, x2, x3, rfl⟩ : ∃ x0 x1 x2 x3, gs = [x0, x1, x2, x3] := by
    rcases gs with _ | ⟨x0, _ | ⟨x1, _ | ⟨x2, _ | ⟨x3, _ | ⟨x4, r⟩⟩⟩⟩⟩
    · exact hV1.elim
    · obtain ⟨_, _, _, _, _, _, _, _, _, _, hV1, _⟩ := hV1; exact hV1.elim
    · obtain ⟨_, _, _, _, _, _, _, _, _, _, hV1, _⟩ := hV1; obtain ⟨_, _, _, _, _, _, _, _, _, _, hV1, _⟩ := hV1; exact hV1.elim
    · obtain ⟨_, _, _, _, _, _, _, _, _, _, hV1, _⟩ := hV1; obtain ⟨_, _, _, _, _, _, _, _, _, _, hV1, _⟩ := hV1; obtain ⟨_, _, _, _, _, _, _, _, _, _, hV1, _⟩ := hV1; exact hV1.elim
    · exact ⟨_, _, _, _, rfl⟩
    · obtain ⟨_, _, _, _, _, _, _, _, _, _, hV1, _⟩ := hV1; obtain ⟨_, _, _, _, _, _, _, _, _, _, hV1, _⟩ := hV1; obtain ⟨_, _, _, _, _, _, _, _, _, _, hV1, _⟩ := hV1; obtain ⟨_, _, _, _, _, _, _, _, _, _, hV1, _⟩ := hV1; exact hV1.elim
  have k0 := h0
  have lt0 : ∀ x ∈ p0, x.block < W.heap.size := by obtain ⟨m, hm⟩ := k0; exact DataW.trod_lt m _ _ _ hm
  obtain ⟨a0a, n0a, c0a, z0a, a0b, n0b, c0b, z0b, a0c, n0c, c0c, z0c, k0k, rfl, w0a, w0b, w0c, wf0⟩ := symOpen (hval 0 64 v0 rfl rfl) h0
  have kb0 : -9223372036854775808 ≤ k0k ∧ k0k ≤ 9223372036854775807 := by
    have : IntKind.i64.min ≤ k0k ∧ k0k ≤ IntKind.i64.max := by simpa [Lit.wf] using wf0
    exact this
  have k1 := h1
  have lt1 : ∀ x ∈ p1, x.block < W.heap.size := by obtain ⟨m, hm⟩ := k1; exact DataW.trod_lt m _ _ _ hm
  obtain ⟨a1, len1, cap1, rfl⟩ := okWide_slice Tryz.underlying22 (hval 1 22 v1 rfl rfl)
  obtain ⟨z1, w1⟩ : ∃ zs, IsRow .u8 W a1 len1 cap1 zs := by
    obtain ⟨fuel, hf⟩ := h1
    obtain ⟨a, l, c, zs, e, r⟩ := rowOpen (v := .slice a1 len1 cap1) (by simpa [Value.cells] using hf)
    injection e with e1 e2 e3; subst e1; subst e2; subst e3
    exact ⟨zs, r⟩
  clear hA0 hval0
  refine (exactOpenHash_all a0a a0b a0c n0a c0a n0b c0b n0c c0c _ _ _ k0k a1 len1 cap1 _ W w0a.bs w0b.bs w0c.bs w1.bs w0a.small w0b.small w0c.small (fun _ _ => ⟨(olC n0a n0b n0c k0k len1 (z0c.take n0c) (z0a.take n0a) (z1.take len1)), codK (olC n0a n0b n0c k0k len1 (z0c.take n0c) (z0a.take n0a) (z1.take len1)) (slK n0c k0k), codN (olC n0a n0b n0c k0k len1 (z0c.take n0c) (z0a.take n0a) (z1.take len1)) 32, codN (olC n0a n0b n0c k0k len1 (z0c.take n0c) (z0a.take n0a) (z1.take len1)) n0b, codN (olC n0a n0b n0c k0k len1 (z0c.take n0c) (z0a.take n0a) (z1.take len1)) n0c, codN (olC n0a n0b n0c k0k len1 (z0c.take n0c) (z0a.take n0a) (z1.take len1)) (olM n0c len1), _, _, _, _, ⟨Nat.le_trans (codN_le _ _) (by omega), Nat.le_trans (codN_le _ _) (by omega), Nat.le_trans (codN_le _ _) (by omega), Nat.le_trans (codN_le _ _) (Nat.le_trans (olM_le _ _) (by omega))⟩, Four, hT, fun W W' hb hW => hW.keep hb, Shut.mk (fun g0 g1 g2 gd V p0 p1 p2 p3 => specOpenHash_any _ _ _ _ _ _ _ _ _ _ _ _ _ _ _ _ _ V p0 p1 p2 (fun e => by cases e) (fun e => by cases e) (fun e => by cases e) p3 (fun e => by cases e) (Nat.le_refl _)), Shut.mk (fun g0 g1 g2 gd V hV p0 p1 p2 p3 => implOpenHash_any _ _ _ _ _ _ _ _ _ _ _ _ _ _ _ _ _ V hV.1 hV.2.1 hV.2.2 p0 p1 p2 (fun e => by cases e) (fun e => by cases e) (fun e => by cases e) p3 (fun e => by cases e) (Nat.le_refl _))⟩)).mono fun e W' ⟨he, bel⟩ => ?_
  subst he
  exact ⟨_, rfl, _, _, _, [], _, q, hW', trodAll_mk1 (shut_bool Tryz.underlying4 _), (trodAll_cons_mk (Below.trod laidOut (by kernel_rfl) (of_decide_eq_true (by kernel_rfl)) k0 bel lt0) (trodAll_cons_mk (Below.trod laidOut (by kernel_rfl) (of_decide_eq_true (by kernel_rfl)) k1 bel lt1) trodAll_mk0)), Below.trodVars laidOut bel rowedFour hV0, bel.frame _, fun h => by cases h⟩

theorem over : Rows.fnExactOpenHashRow.holds Tryz.pinned (OpenSpec.ofChange Rows.fnExactOpenHashSpec) :=
  OpenClaim.holds_of_wide 7 Tryz.f7 rfl rfl rfl rfl rfl rfl rfl ⟨rfl, rfl, rfl, rfl, rfl⟩ rfl rfl rfl rfl rfl (by kernel_rfl) Tryz.func7 (by kernel_rfl)
    (of_decide_eq_true (by kernel_rfl)) (by unfold Func.isWrapper; first | (rw [if_pos (by decide +kernel)]; kernel_rfl) | (rw [if_neg (by decide +kernel)]; exact ⟨rfl, rfl⟩))
    (fun os started H enc _ => lifted os started H enc)

theorem proved : Rows.FnExactOpenHashCardSaid := by
  unfold Rows.FnExactOpenHashCardSaid Rows.fnExactOpenHashCard
  exact Claim7.holds_tied_plain_at .later [] [.data, .data, .sentinel, .data] true Rows.fnExactOpenHashCard.stood.harness Rows.fnExactOpenHashCard.stood.looks over (fun _ h => by cases h) (by kernel_rfl) (fun _ h => by cases h) fnExactOpenHash_row_tie rfl ⟨rfl, rfl⟩ (by kernel_rfl) rfl
    (fun f fn hf hfn => by
      obtain rfl : f = 7 := Option.some.inj ((show Tryz.prog.funcNamed "loop.example/g00792/laws.FnExactOpenHash" = some 7 by kernel_rfl).symm.trans hf) |>.symm
      obtain rfl : fn = Tryz.f7 := (Option.some.inj (Tryz.func7.symm.trans hfn)).symm
      refine ⟨by kernel_rfl, fun j t ht => ?_⟩
      rw [Tryz.params7] at ht
      rcases j with _ | _ | j
      · obtain rfl : t = 64 := by simpa using ht.symm
        kernel_rfl
      · obtain rfl : t = 22 := by simpa using ht.symm
        kernel_rfl
      · simp at ht)
    (by kernel_rfl)
#print axioms proved
end Go.Proofs.YtabhcolfkkfonaaGreatDoor.fnExactOpenHash
