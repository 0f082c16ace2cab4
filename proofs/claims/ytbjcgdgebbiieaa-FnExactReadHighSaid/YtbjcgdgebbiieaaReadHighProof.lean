/- At all bytes, ReadHigh answers as its model, in both fields, and writes into no argument. No condition. -/
import Derived.Test.YtbjcgdgebbiieaaReadC
namespace Go.Proofs.Ytbjcgdgebbiieaa.fnExactReadHigh
open Go.ChangeShapes Go.WideShapes Go.ChangeAt Go.RowKit
open Go.ChangeMaps (open_string shut_string)
set_option linter.unusedVariables false

theorem own : ownKnob Try.prog.godebug = none := by kernel_rfl
theorem laidOut : laidOutB Try.prog = true := by kernel_rfl

theorem walk (a0 : Option Addr) (len0 cap0 : Nat) (z0 : List Int) (w : World) (w0 : IsRow .u8 w a0 len0 cap0 z0) :
    Calls Try.prog 8 #[.slice a0 len0 cap0] w fun e w' => e = .returned (.bool true) ∧ Below w.heap.size w w' := by
  have h0 := w0.bs
  clear w0
  by_cases hl0 : len0 ≤ 1048576
  · go_enter Try.func8, Try.ntmps8
    go_wp2_with fail
    refine (toByteS_any _ _ _ _ _ h0 (by omega)).mono ?_
    rintro e w2 ⟨rfl, k2, b2⟩
    go_wp2_with fail
    refine (specReadHigh_any _ _ _ _ _ (k2.bsn h0.byte h0.len) (by omega)).mono ?_
    rintro e w3 ⟨rfl, b3⟩
    have B3 := ab (ac (ac (Below.refl _ w) b2) b3) (.cells #[.int .i64 (rcode len0), .int .i64 (rhigh (z0.take len0))] 31)
    obtain ⟨c3, f3, s3⟩ := bcell b3
    go_wp2_with fail
    refine (toByteS_any _ _ _ _ _ (h0.below B3) (by omega)).mono ?_
    rintro e w4 ⟨rfl, k4, b4⟩
    obtain ⟨c4, f4, s4⟩ := bcell b4
    simp only [World.size_alloc] at c4 f4 s4 k4
    go_wp2_with fail
    refine (implReadHigh_any _ _ _ _ _ (k4.bsn h0.byte h0.len) (by omega)).mono ?_
    rintro e w5 ⟨rfl, b5⟩
    obtain ⟨c5, f5, s5⟩ := bcell b5
    have z4 : w3.heap.size < w4.heap.size := by omega
    have z5 : w3.heap.size < w5.heap.size := by omega
    go_wp2_with fail
    refine (eqInt_any _ _ _ _ _).mono ?_
    rintro e w6 ⟨rfl, b6⟩
    have g6 := (((k4.bsn h0.byte h0.len).below b5).alloc _).below b6
    have B6 := ac (ab (ac (ac B3 b4) b5) _) b6
    go_wp2_with fail
    refine (toByteS_any _ _ _ _ _ (h0.below B6) (by omega)).mono ?_
    rintro e w7 ⟨rfl, k7, b7⟩
    go_wp2_with fail
    refine (eqByteS_any _ _ _ _ _ _ _ _ _ (g6.below b7) (k7.bsn h0.byte h0.len) (by omega) (by omega)).mono ?_
    rintro e w8 ⟨rfl, q8, rfl⟩
    go_wp2
    go_ret
    exact ⟨rfl, ad (ac B6 b7) q8⟩
  · go_enter Try.func8, Try.ntmps8
    go_wp2
    go_ret
    exact ⟨rfl, Below.refl _ _⟩

set_option maxRecDepth 100000 in
theorem lifted (os : Os) (started : os.Started) (H : Type) (enc : TypeId × Value → H) :
    ReturnsInHanded {} Try.checked os 8 .any (Rows.fnExactReadHighSpec.pre6 enc Try.prog Try.f8 Rows.fnExactReadHighRow.domain false) (Rows.fnExactReadHighSpec.post enc Try.prog Try.f8 false true false false) := by
  refine returnsInHanded_of_change (C := Try.checked) own started (by kernel_rfl) Try.func8
    (ChangeSpec.witness6 (enc := enc) (C := Try.checked) false ⟨#[], #[.slice none 0 0], []⟩ 8 (by kernel_rfl) (by kernel_rfl) (by kernel_rfl) (by kernel_rfl)) ?_
  intro W base args ds gs before hval0 hW hcnd _
  have hval : ∀ (j : Nat) t v, Try.f8.params[j]? = some t → args[j]? = some v → Value.okWide Try.prog W .any base t v := hval0
  have hW' := hW
  obtain ⟨p, q, hA0, hV, rfl, hfz, hnd⟩ := hW
  have hA : DataW.TrodAll enc Try.prog W 0 (fun _ => true) true Try.f8.params.toList args.toList ds p := hA0
  rw [Try.params8] at hA hval
  obtain ⟨v0, vs0, d0, ds0, p0, q0, hargs, rfl, rfl, h0, r0⟩ := trodAll_cons hA
  obtain ⟨rfl, rfl, rfl⟩ := trodAll_nil r0
  obtain rfl : args = #[v0] := by cases args; simp_all
  obtain ⟨rfl, rfl⟩ := trodVars_none hV
  obtain ⟨a0, len0, cap0, rfl⟩ := okWide_slice Try.underlying22 (hval 0 22 v0 rfl rfl)
  have k0 := h0
  have lt0 : ∀ x ∈ p0, x.block < W.heap.size := by obtain ⟨m, hm⟩ := k0; exact DataW.trod_lt m _ _ _ hm
  obtain ⟨z0, w0⟩ : ∃ zs, IsRow .u8 W a0 len0 cap0 zs := by
    obtain ⟨fuel, hf⟩ := h0
    rcases open_ints Try.underlying22 Try.underlying5 (by kernel_rfl) hf with ⟨hcs, _⟩ | ⟨x, l, c, zs, hcs, _, hl, hm, hz, _, hcell, hwz⟩
    · simp [Value.cells] at hcs
      obtain ⟨rfl, rfl, rfl⟩ := hcs
      exact ⟨[], .inl ⟨rfl, rfl, rfl, rfl⟩⟩
    · simp [Value.cells] at hcs
      obtain ⟨rfl, rfl, rfl⟩ := hcs
      exact ⟨zs, .inr ⟨_, rfl, hl, hm, by simpa using hz, hcell, hwz⟩⟩
  clear hA0 hval0
  refine (walk a0 len0 cap0 z0 W w0).mono fun e W' ⟨he, bel⟩ => ?_
  subst he
  exact ⟨_, rfl, _, _, _, [], _, [], hW', trodAll_mk1 (shut_bool Try.underlying4 _), (trodAll_cons_mk (Below.trod laidOut (by kernel_rfl) (of_decide_eq_true (by kernel_rfl)) k0 bel lt0) trodAll_mk0), rfl, bel.frame _, fun h => by cases h⟩

theorem over : Rows.fnExactReadHighRow.holds Try.pinned (OpenSpec.ofChange Rows.fnExactReadHighSpec) :=
  OpenClaim.holds_of_wide 8 Try.f8 rfl rfl rfl rfl rfl rfl rfl ⟨rfl, rfl, rfl, rfl, rfl⟩ rfl rfl rfl rfl rfl (by kernel_rfl) Try.func8 (by kernel_rfl)
    (of_decide_eq_true (by kernel_rfl)) (by unfold Func.isWrapper; first | (rw [if_pos (by decide +kernel)]; kernel_rfl) | (rw [if_neg (by decide +kernel)]; exact ⟨rfl, rfl⟩))
    (fun os started H enc _ => lifted os started H enc)

theorem proved : Rows.FnExactReadHighSaid := over
#print axioms proved
end Go.Proofs.Ytbjcgdgebbiieaa.fnExactReadHigh
