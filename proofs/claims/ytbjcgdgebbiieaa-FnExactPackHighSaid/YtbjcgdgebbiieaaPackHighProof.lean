/- At every number and size, PackHigh answers as its model, in both fields, in memory of its own. No condition. -/
import Derived.Test.YtbjcgdgebbiieaaPackD
namespace Go.Proofs.Ytbjcgdgebbiieaa.fnExactPackHigh
open Go.ChangeShapes Go.WideShapes Go.ChangeAt Go.RowKit
open Go.ChangeMaps (open_string shut_string)
set_option linter.unusedVariables false

theorem own : ownKnob Try.prog.godebug = none := by kernel_rfl

theorem walk (a0 : Int) (a1 : Int) (w0 : (Lit.int .i64 a0).wf = true) (w1 : (Lit.int .i64 a1).wf = true) (w : World) :
    Calls Try.prog 6 #[.int .i64 a0, .int .i64 a1] w fun e w' => e = .returned (.bool true) ∧ Below w.heap.size w w' := by
  have hn : a0 ≤ 9223372036854775807 := (i64_of_wf w0).2
  clear w0 w1
  have hsm := plen_le a0 a1
  generalize hL : phigh a0 a1 = L
  generalize hN : plen a0 a1 = N at hsm
  generalize hC : pcode a0 a1 = C
  have Hspec := fun W => specPackHigh_any a0 a1 W hn
  have Himpl := fun W => implPackHigh_any a0 a1 W
  rw [hL, hN, hC] at Hspec Himpl
  have Gs := Lib.hid Hspec
  have Gi := Lib.hid Himpl
  clear Hspec Himpl hL hN hC
  go_enter Try.func6, Try.ntmps6
  go_wp2_with fail
  refine (Gs.out _).mono ?_
  rintro e w1 ⟨⟨A0, c0, rfl, o0⟩, b1⟩
  have s1 := b1.size
  go_wp2_with fail
  refine (Gi.out _).mono ?_
  rintro e w2 ⟨⟨A1, c1, rfl, o1⟩, b2⟩
  have s2 := b2.size
  simp only [World.size_alloc] at s2 o1
  have t0 := (Two.new w1 27 (.int .i64 C) (.slice A0 N c0)).below b2 (by simp)
  have o0' := (o0.alloc (.cells #[.int .i64 C, .slice A0 N c0] 27)).below b2 (Nat.le_refl _)
  obtain ⟨x0, x1, x2, x3⟩ := t0.cells
  have z2 : w1.heap.size < w2.heap.size := by omega
  go_wp2_with fail
  refine (eqBytesResult_any _ _ _ _ _ _ _ _ _ _ _ (o1.alloc _).bs (o0'.alloc _).bs (by omega) (by omega)).mono ?_
  rintro e w3 ⟨rfl, b3⟩
  have s3 := b3.size
  simp only [World.size_alloc] at s3
  have g3 := (Two.new w2 27 (.int .i64 C) (.slice A1 N c1)).below b3 (by simp)
  have t3 := (t0.alloc (.cells #[.int .i64 C, .slice A1 N c1] 27) (by omega)).below b3 (by simp; omega)
  have o13 := (o1.alloc (.cells #[.int .i64 C, .slice A1 N c1] 27)).below b3 (Nat.le_refl _)
  have o03 := (o0'.alloc (.cells #[.int .i64 C, .slice A1 N c1] 27)).below b3 (Nat.le_refl _)
  clear x0 x1 x2 x3
  obtain ⟨y0, y1, y2, y3⟩ := g3.cells
  go_wp2_with fail
  refine (markBytesResult_any _ _ _ _ _ _ _ _ o13 (by omega) (by omega) (by omega)).mono ?_
  rintro e w4 ⟨rfl, o4, wm, on4, bm⟩
  clear y0 y1 y2 y3
  have s4 : w3.heap.size ≤ w4.heap.size := by have := bm.size; have := on4.size; omega
  have bo : Below (w1.heap.size + 1) wm w4 := on4.below (fun hp a ha => o13.base hp a ha)
  have g4 := (g3.below bm (by omega)).only on4 (fun hp a ha => by have := o1.top hp a ha; omega)
  have t4 := (t3.below bm (by omega)).below bo (by omega)
  have o04 := (o03.below bm (Nat.le_refl _)).under bo (fun hp a ha => by have := o0.top hp a ha; omega)
  have B4 : Below w.heap.size w w4 := (ac (ac (ab (ac (ab b1 _) b2) _) b3) bm).trans (bo.mono (by omega))
  obtain ⟨y0, y1, y2, y3⟩ := g4.cells
  go_wp2_with fail
  refine (heldBytesResult_any _ _ _ _ _ _ o4.bs (by omega) (by omega) (by omega)).mono ?_
  rintro e w5 ⟨rfl, b5⟩
  clear y0 y1 y2 y3
  have s5 := b5.size
  go_wp2_with fail
  refine (Gi.out _).mono ?_
  rintro e w6 ⟨⟨A2, c2, rfl, o6⟩, b6⟩
  have s6 := b6.size
  have t6 := (t4.below b5 (by omega)).below b6 (by omega)
  have g6 := (g4.below b5 (by omega)).below b6 (by omega)
  have o06 := (o04.below b5 (Nat.le_refl _)).below b6 (Nat.le_refl _)
  have o46 := (o4.below b5 (Nat.le_refl _)).below b6 (Nat.le_refl _)
  obtain ⟨x0, x1, x2, x3⟩ := t6.cells
  have z6 : w1.heap.size < w6.heap.size := by omega
  go_wp2_with fail
  refine (eqBytesResult_any _ _ _ _ _ _ _ _ _ _ _ (o6.alloc _).bs (o06.alloc _).bs (by omega) (by omega)).mono ?_
  rintro e w7 ⟨rfl, b7⟩
  clear x0 x1 x2 x3
  have s7 := b7.size
  simp only [World.size_alloc] at s7
  have g7 := (g6.alloc (.cells #[.int .i64 C, .slice A2 N c2] 27) (by omega)).below b7 (by simp; omega)
  have o47 := (o46.alloc (.cells #[.int .i64 C, .slice A2 N c2] 27)).below b7 (Nat.le_refl _)
  obtain ⟨y0, y1, y2, y3⟩ := g7.cells
  go_wp2_with fail
  refine (heldBytesResult_any _ _ _ _ _ _ o47.bs (by omega) (by omega) (by omega)).mono ?_
  rintro e w8 ⟨rfl, b8⟩
  go_wp2
  go_ret
  exact ⟨rfl, ac (ac (ab (ac (ac B4 b5) b6) _) b7) b8⟩

set_option maxRecDepth 100000 in
theorem lifted (os : Os) (started : os.Started) (H : Type) (enc : TypeId × Value → H) :
    ReturnsInHanded {} Try.checked os 6 .any (Rows.fnExactPackHighSpec.pre6 enc Try.prog Try.f6 Rows.fnExactPackHighRow.domain false) (Rows.fnExactPackHighSpec.post enc Try.prog Try.f6 false true false false) := by
  refine returnsInHanded_of_change (C := Try.checked) own started (by kernel_rfl) Try.func6
    (ChangeSpec.witness6 (enc := enc) (C := Try.checked) false ⟨#[], #[.int .i64 0, .int .i64 0], []⟩ 8 (by kernel_rfl) (by kernel_rfl) (by kernel_rfl) (by kernel_rfl)) ?_
  intro W base args ds gs before hval0 hW hcnd _
  have hval : ∀ (j : Nat) t v, Try.f6.params[j]? = some t → args[j]? = some v → Value.okWide Try.prog W .any base t v := hval0
  have hW' := hW
  obtain ⟨p, q, hA0, hV, rfl, hfz, hnd⟩ := hW
  have hA : DataW.TrodAll enc Try.prog W 0 (fun _ => true) true Try.f6.params.toList args.toList ds p := hA0
  rw [Try.params6] at hA hval
  obtain ⟨v0, vs0, d0, ds0, p0, q0, hargs, rfl, rfl, h0, r0⟩ := trodAll_cons hA
  obtain ⟨v1, vs1, d1, ds1, p1, q1, rfl, rfl, rfl, h1, r1⟩ := trodAll_cons r0
  obtain ⟨rfl, rfl, rfl⟩ := trodAll_nil r1
  obtain rfl : args = #[v0, v1] := by cases args; simp_all
  obtain ⟨rfl, rfl⟩ := trodVars_none hV
  obtain ⟨a0, rfl, rfl, rfl, w0⟩ := open_int Try.underlying2 (hval 0 2 v0 rfl rfl) h0
  obtain ⟨a1, rfl, rfl, rfl, w1⟩ := open_int Try.underlying2 (hval 1 2 v1 rfl rfl) h1
  clear hA0 hval0
  simp only [List.append_nil] at hW'
  refine (walk a0 a1 w0 w1 W).mono fun e W' ⟨he, bel⟩ => ?_
  subst he
  exact ⟨_, rfl, _, _, _, [], _, [], hW', trodAll_mk1 (shut_bool Try.underlying4 _), (trodAll_cons_mk (shut_int Try.underlying2 w0) (trodAll_cons_mk (shut_int Try.underlying2 w1) trodAll_mk0)), rfl, bel.frame _, fun h => by cases h⟩

theorem over : Rows.fnExactPackHighRow.holds Try.pinned (OpenSpec.ofChange Rows.fnExactPackHighSpec) :=
  OpenClaim.holds_of_wide 6 Try.f6 rfl rfl rfl rfl rfl rfl rfl ⟨rfl, rfl, rfl, rfl, rfl⟩ rfl rfl rfl rfl rfl (by kernel_rfl) Try.func6 (by kernel_rfl)
    (of_decide_eq_true (by kernel_rfl)) (by unfold Func.isWrapper; first | (rw [if_pos (by decide +kernel)]; kernel_rfl) | (rw [if_neg (by decide +kernel)]; exact ⟨rfl, rfl⟩))
    (fun os started H enc _ => lifted os started H enc)

theorem proved : Rows.FnExactPackHighSaid :=
  over
#print axioms proved
end Go.Proofs.Ytbjcgdgebbiieaa.fnExactPackHigh
