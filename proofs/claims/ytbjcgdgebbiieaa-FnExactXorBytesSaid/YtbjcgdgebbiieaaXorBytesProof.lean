/- At all bytes, XorBytes answers as its model, in both fields, in memory of its own, and writes into neither argument. No condition. -/
import Derived.Test.YtbjcgdgebbiieaaXorC
namespace Go.Proofs.Ytbjcgdgebbiieaa.fnExactXorBytes
open Go.ChangeShapes Go.WideShapes Go.ChangeAt Go.RowKit
open Go.ChangeMaps (open_string shut_string)
set_option linter.unusedVariables false

theorem own : ownKnob Try.prog.godebug = none := by kernel_rfl
theorem laidOut : laidOutB Try.prog = true := by kernel_rfl

theorem xor_walk (a0 : Option Addr) (n0 c0 : Nat) (l0 : List Int) (a1 : Option Addr) (n1 c1 : Nat) (l1 : List Int) (w : World) (h0 : Bs w a0 n0 l0) (h1 : Bs w a1 n1 l1) (hl0 : n0 ≤ 1048576) (hl1 : n1 ≤ 1048576) :
    Calls Try.prog 10 #[.slice a0 n0 c0, .slice a1 n1 c1] w fun e w' => e = .returned (.bool true) ∧ Below w.heap.size w w' := by
  have hsm := xlen_le n0 n1
  generalize hL : xbytes l0 l1 = L
  generalize hN : xlen n0 n1 = N at hsm
  generalize hC : xcode n0 n1 = C
  have Hspec := fun A B c d W h h' => specXorBytes_any A B n0 n1 c d l0 l1 W h h' (by omega) (by omega)
  have Himpl := fun A B c d W h h' => implXorBytes_any A B n0 n1 c d l0 l1 W h h' (by omega) (by omega)
  rw [hL, hN, hC] at Hspec Himpl
  have Gs := Lib.hid Hspec
  have Gi := Lib.hid Himpl
  have Y0 := Lib.hid h0.len
  have Y1 := Lib.hid h1.len
  have e0 := h0.byte
  have e1 := h1.byte
  clear Hspec Himpl hL hN hC
  go_enter Try.func10, Try.ntmps10
  go_wp2_with fail
  refine (toByteS_any _ _ _ _ _ h0 (by omega)).mono ?_
  rintro e w1 ⟨rfl, k1, b1⟩
  go_wp2_with fail
  refine (toByteS_any _ _ _ _ _ (h1.below b1) (by omega)).mono ?_
  rintro e w2 ⟨rfl, k2, b2⟩
  go_wp2_with fail
  refine (Gs.out _ _ _ _ _ ((k1.bsn e0 Y0.out).below b2) (k2.bsn e1 Y1.out)).mono ?_
  rintro e w3 ⟨⟨A0, d0, rfl, o0⟩, b3⟩
  have B3 := ab (ac (ac (ac (Below.refl _ w) b1) b2) b3) (.cells #[.int .i64 C, .slice A0 N d0] 27)
  have s3 := B3.size
  simp only [World.size_alloc] at s3
  have t3 := Two.new w3 27 (.int .i64 C) (.slice A0 N d0)
  have o03 := o0.alloc (.cells #[.int .i64 C, .slice A0 N d0] 27)
  go_wp2_with fail
  refine (toByteS_any _ _ _ _ _ (h0.below B3) (by omega)).mono ?_
  rintro e w4 ⟨rfl, k4, b4⟩
  have s4 := k4.lt
  simp only [World.size_alloc] at s4
  have B4 := ac B3 b4
  go_wp2_with fail
  refine (toByteS_any _ _ _ _ _ (h1.below B4) (by omega)).mono ?_
  rintro e w5 ⟨rfl, k5, b5⟩
  have s5 := k5.lt
  have B5 := ac B4 b5
  have k45 := k4.below b5 (by simp; omega)
  simp only [World.size_alloc] at k45
  go_wp2_with fail
  refine (Gi.out _ _ _ _ _ (k45.bsn e0 Y0.out) (k5.bsn e1 Y1.out)).mono ?_
  rintro e w6 ⟨⟨A1, d1, rfl, o6⟩, b6⟩
  have s6 := b6.size
  have t6 := ((t3.below b4 (by simp)).below b5 (by omega)).below b6 (by omega)
  have o06 := ((o03.below b4 (Nat.le_refl _)).below b5 (Nat.le_refl _)).below b6 (Nat.le_refl _)
  have k46 := k45.below b6 (by omega)
  have k56 := k5.below b6 (by omega)
  have B6 := ac B5 b6
  obtain ⟨x0, x1, x2, x3⟩ := t6.cells
  have z6 : w3.heap.size < w6.heap.size := by omega
  go_wp2_with fail
  refine (eqBytesResult_any _ _ _ _ _ _ _ _ _ _ _ (o6.alloc _).bs (o06.alloc _).bs (by omega) (by omega)).mono ?_
  rintro e w7 ⟨rfl, b7⟩
  clear x0 x1 x2 x3
  have s7 := b7.size
  simp only [World.size_alloc] at s7
  have g7 := (Two.new w6 27 (.int .i64 C) (.slice A1 N d1)).below b7 (by simp)
  have t7 := (t6.alloc (.cells #[.int .i64 C, .slice A1 N d1] 27) (by omega)).below b7 (by simp; omega)
  have o7 := (o6.alloc (.cells #[.int .i64 C, .slice A1 N d1] 27)).below b7 (Nat.le_refl _)
  have o07 := (o06.alloc (.cells #[.int .i64 C, .slice A1 N d1] 27)).below b7 (Nat.le_refl _)
  have k47 := (k46.alloc (.cells #[.int .i64 C, .slice A1 N d1] 27)).below b7 (by simp; omega)
  have k57 := (k56.alloc (.cells #[.int .i64 C, .slice A1 N d1] 27)).below b7 (by simp; omega)
  have B7 := ac (ab B6 _) b7
  go_wp2_with fail
  refine (toByteS_any _ _ _ _ _ (h0.below B7) (by omega)).mono ?_
  rintro e w8 ⟨rfl, k8, b8⟩
  go_wp2_with fail
  refine (eqByteS_any _ _ _ _ _ _ _ _ _ ((k47.bsn e0 Y0.out).below b8) (k8.bsn e0 Y0.out) (by omega) (by omega)).mono ?_
  rintro e w8' ⟨rfl, q8, rfl⟩
  have B8 := ad (ac B7 b8) q8
  go_wp2_with fail
  refine (toByteS_any _ _ _ _ _ (h1.below B8) (by omega)).mono ?_
  rintro e w9 ⟨rfl, k9, b9⟩
  go_wp2_with fail
  refine (eqByteS_any _ _ _ _ _ _ _ _ _ ((((k57.bsn e1 Y1.out).below b8).drewN q8).below b9) (k9.bsn e1 Y1.out) (by omega) (by omega)).mono ?_
  rintro e w9' ⟨rfl, q9, rfl⟩
  have B9 := ad (ac B8 b9) q9
  have C9 : Below w7.heap.size w7 (w9.drewN q9) := ad (ac (ad (ac (Below.refl _ w7) b8) q8) b9) q9
  have s9 := C9.size
  have g9 := g7.below C9 (by omega)
  have t9 := t7.below C9 (by omega)
  have o9 := o7.below C9 (Nat.le_refl _)
  have o09 := o07.below C9 (Nat.le_refl _)
  have k49 := k47.below C9 k47.lt
  have k59 := k57.below C9 k57.lt
  clear C9
  generalize w9.drewN q9 = v9 at *
  go_wp2_with fail
  refine (markByteS_any _ _ _ _ _ _ _ (k49.own e0 Y0.out) (by omega) (by omega) (by omega)).mono ?_
  rintro e v10 ⟨rfl, _, on10⟩
  have s10 := on10.size
  have bo10 : Below (w3.heap.size + 1) v9 v10 := on10.below (fun _ a ha => by injection ha with ha; subst ha; simp)
  have t10 := t9.below bo10 (by omega)
  have o010 := o09.under bo10 (fun hp a ha => by have := o0.top hp a ha; omega)
  have g10 := g9.only on10 (fun _ a ha => by injection ha with ha; subst ha; simp; omega)
  have o10 := o9.only on10 (fun _ a ha => by injection ha with ha; subst ha; simp; omega)
  have k510 := k59.only on10 (fun _ a ha => by injection ha with ha; subst ha; simp; omega)
  have B10 := B9.trans (bo10.mono (by omega))
  go_wp2_with fail
  refine (markByteS_any _ _ _ _ _ _ _ (k510.own e1 Y1.out) (by omega) (by omega) (by omega)).mono ?_
  rintro e v11 ⟨rfl, _, on11⟩
  have s11 := on11.size
  have bo11 : Below w4.heap.size v10 v11 := on11.below (fun _ a ha => by injection ha with ha; subst ha; simp)
  have t11 := t10.below bo11 (by omega)
  have o011 := o010.under bo11 (fun hp a ha => by have := o0.top hp a ha; omega)
  have g11 := g10.only on11 (fun _ a ha => by injection ha with ha; subst ha; simp; omega)
  have o11 := o10.only on11 (fun _ a ha => by injection ha with ha; subst ha; simp; omega)
  have B11 := B10.trans (bo11.mono (by have := B4.size; omega))
  obtain ⟨x0, x1, x2, x3⟩ := t11.cells
  obtain ⟨y0, y1, y2, y3⟩ := g11.cells
  go_wp2_with fail
  refine (eqBytesResult_any _ _ _ _ _ _ _ _ _ _ _ o11.bs o011.bs (by omega) (by omega)).mono ?_
  rintro e v12 ⟨rfl, b12⟩
  have s12 := b12.size
  clear x0 x1 x2 x3 y0 y1 y2 y3
  have t12 := t11.below b12 (by omega)
  have g12 := g11.below b12 (by omega)
  have o12 := o11.below b12 (Nat.le_refl _)
  have o012 := o011.below b12 (Nat.le_refl _)
  have B12 := ac B11 b12
  obtain ⟨y0, y1, y2, y3⟩ := g12.cells
  go_wp2_with fail
  refine (markBytesResult_any _ _ _ _ _ _ _ _ o12 (by omega) (by omega) (by omega)).mono ?_
  rintro e v13 ⟨rfl, o13, wm, on13, bm⟩
  clear y0 y1 y2 y3
  have s13 : v12.heap.size ≤ v13.heap.size := by have := bm.size; have := on13.size; omega
  have bo : Below w5.heap.size wm v13 := on13.below (fun hp a ha => o12.base hp a ha)
  have g13 := (g12.below bm (by omega)).only on13 (fun hp a ha => by have := o6.top hp a ha; omega)
  have t13 := (t12.below bm (by omega)).below bo (by omega)
  have o013 := (o012.below bm (Nat.le_refl _)).under bo (fun hp a ha => by have := o0.top hp a ha; omega)
  have B13 : Below w.heap.size w v13 := (ac B12 bm).trans (bo.mono (by have := B5.size; omega))
  obtain ⟨y0, y1, y2, y3⟩ := g13.cells
  go_wp2_with fail
  refine (heldBytesResult_any _ _ _ _ _ _ o13.bs (by omega) (by omega) (by omega)).mono ?_
  rintro e v14 ⟨rfl, b14⟩
  clear y0 y1 y2 y3
  have B14 := ac B13 b14
  go_wp2_with fail
  refine (toByteS_any _ _ _ _ _ (h0.below B14) (by omega)).mono ?_
  rintro e v15 ⟨rfl, k15, b15⟩
  have B15 := ac B14 b15
  go_wp2_with fail
  refine (toByteS_any _ _ _ _ _ (h1.below B15) (by omega)).mono ?_
  rintro e v16 ⟨rfl, k16, b16⟩
  go_wp2_with fail
  refine (Gi.out _ _ _ _ _ ((k15.bsn e0 Y0.out).below b16) (k16.bsn e1 Y1.out)).mono ?_
  rintro e v17 ⟨⟨A2, d2, rfl, o17⟩, b17⟩
  have C17 : Below v13.heap.size v13 v17 := ac (ac (ac b14 b15) b16) b17
  have s17 := C17.size
  have t17 := t13.below C17 (by omega)
  have g17 := g13.below C17 (by omega)
  have o017 := o013.below C17 (Nat.le_refl _)
  have o137 := o13.below C17 (Nat.le_refl _)
  have B17 := ac B13 C17
  obtain ⟨x0, x1, x2, x3⟩ := t17.cells
  have z17 : w3.heap.size < v17.heap.size := by omega
  go_wp2_with fail
  refine (eqBytesResult_any _ _ _ _ _ _ _ _ _ _ _ (o17.alloc _).bs (o017.alloc _).bs (by omega) (by omega)).mono ?_
  rintro e v18 ⟨rfl, b18⟩
  clear x0 x1 x2 x3
  have g18 := (g17.alloc (.cells #[.int .i64 C, .slice A2 N d2] 27) (by omega)).below b18 (by simp; omega)
  have o18 := (o137.alloc (.cells #[.int .i64 C, .slice A2 N d2] 27)).below b18 (Nat.le_refl _)
  obtain ⟨y0, y1, y2, y3⟩ := g18.cells
  go_wp2_with fail
  refine (heldBytesResult_any _ _ _ _ _ _ o18.bs (by omega) (by omega) (by omega)).mono ?_
  rintro e v19 ⟨rfl, b19⟩
  go_wp2
  go_ret
  exact ⟨rfl, ac (ac (ab B17 _) b18) b19⟩

theorem walk (a0 : Option Addr) (len0 cap0 : Nat) (z0 : List Int) (a1 : Option Addr) (len1 cap1 : Nat) (z1 : List Int) (w : World) (w0 : IsRow .u8 w a0 len0 cap0 z0) (w1 : IsRow .u8 w a1 len1 cap1 z1) :
    Calls Try.prog 10 #[.slice a0 len0 cap0, .slice a1 len1 cap1] w fun e w' => e = .returned (.bool true) ∧ Below w.heap.size w w' := by
  have h0 := w0.bs
  have h1 := w1.bs
  clear w0 w1
  by_cases hl0 : len0 ≤ 1048576
  · by_cases hl1 : len1 ≤ 1048576
    · exact xor_walk a0 len0 cap0 _ a1 len1 cap1 _ w h0 h1 hl0 hl1
    · go_enter Try.func10, Try.ntmps10
      go_wp2
      go_ret
      exact ⟨rfl, Below.refl _ _⟩
  · go_enter Try.func10, Try.ntmps10
    go_wp2
    go_ret
    exact ⟨rfl, Below.refl _ _⟩

set_option maxRecDepth 100000 in
theorem lifted (os : Os) (started : os.Started) (H : Type) (enc : TypeId × Value → H) :
    ReturnsInHanded {} Try.checked os 10 .any (Rows.fnExactXorBytesSpec.pre6 enc Try.prog Try.f10 Rows.fnExactXorBytesRow.domain false) (Rows.fnExactXorBytesSpec.post enc Try.prog Try.f10 false true false false) := by
  refine returnsInHanded_of_change (C := Try.checked) own started (by kernel_rfl) Try.func10
    (ChangeSpec.witness6 (enc := enc) (C := Try.checked) false ⟨#[], #[.slice none 0 0, .slice none 0 0], []⟩ 8 (by kernel_rfl) (by kernel_rfl) (by kernel_rfl) (by kernel_rfl)) ?_
  intro W base args ds gs before hval0 hW hcnd _
  have hval : ∀ (j : Nat) t v, Try.f10.params[j]? = some t → args[j]? = some v → Value.okWide Try.prog W .any base t v := hval0
  have hW' := hW
  obtain ⟨p, q, hA0, hV, rfl, hfz, hnd⟩ := hW
  have hA : DataW.TrodAll enc Try.prog W 0 (fun _ => true) true Try.f10.params.toList args.toList ds p := hA0
  rw [Try.params10] at hA hval
  obtain ⟨v0, vs0, d0, ds0, p0, q0, hargs, rfl, rfl, h0, r0⟩ := trodAll_cons hA
  obtain ⟨v1, vs1, d1, ds1, p1, q1, rfl, rfl, rfl, h1, r1⟩ := trodAll_cons r0
  obtain ⟨rfl, rfl, rfl⟩ := trodAll_nil r1
  obtain rfl : args = #[v0, v1] := by cases args; simp_all
  obtain ⟨rfl, rfl⟩ := trodVars_none hV
  obtain ⟨a0, len0, cap0, rfl⟩ := okWide_slice Try.underlying22 (hval 0 22 v0 rfl rfl)
  have k0 := h0
  have lt0 : ∀ x ∈ p0, x.block < W.heap.size := by obtain ⟨m, hm⟩ := k0; exact DataW.trod_lt m _ _ _ hm
  obtain ⟨z0, w0⟩ : ∃ zs, IsRow .u8 W a0 len0 cap0 zs := by
    obtain ⟨fuel, hf⟩ := h0
    rcases open_ints Try.underlying22 Try.underlying5 (by kernel_rfl) hf with ⟨hcs, _⟩ | ⟨x, l, c, zs, hcs, _, hl, hm, hz, _, hcell, hwz⟩
    · simp [Value.cells] at hcs
      obtain ⟨rfl, rfl, rfl⟩ := hcs
      exact ⟨[], .inl ⟨rfl, rfl, rfl, rfl⟩⟩
    · simp [Value.cells] at hcs
      obtain ⟨rfl, rfl, rfl⟩ := hcs
      exact ⟨zs, .inr ⟨_, rfl, hl, hm, by simpa using hz, hcell, hwz⟩⟩
  obtain ⟨a1, len1, cap1, rfl⟩ := okWide_slice Try.underlying22 (hval 1 22 v1 rfl rfl)
  have k1 := h1
  have lt1 : ∀ x ∈ p1, x.block < W.heap.size := by obtain ⟨m, hm⟩ := k1; exact DataW.trod_lt m _ _ _ hm
  obtain ⟨z1, w1⟩ : ∃ zs, IsRow .u8 W a1 len1 cap1 zs := by
    obtain ⟨fuel, hf⟩ := h1
    rcases open_ints Try.underlying22 Try.underlying5 (by kernel_rfl) hf with ⟨hcs, _⟩ | ⟨x, l, c, zs, hcs, _, hl, hm, hz, _, hcell, hwz⟩
    · simp [Value.cells] at hcs
      obtain ⟨rfl, rfl, rfl⟩ := hcs
      exact ⟨[], .inl ⟨rfl, rfl, rfl, rfl⟩⟩
    · simp [Value.cells] at hcs
      obtain ⟨rfl, rfl, rfl⟩ := hcs
      exact ⟨zs, .inr ⟨_, rfl, hl, hm, by simpa using hz, hcell, hwz⟩⟩
  clear hA0 hval0
  refine (walk a0 len0 cap0 z0 a1 len1 cap1 z1 W w0 w1).mono fun e W' ⟨he, bel⟩ => ?_
  subst he
  exact ⟨_, rfl, _, _, _, [], _, [], hW', trodAll_mk1 (shut_bool Try.underlying4 _), (trodAll_cons_mk (Below.trod laidOut (by kernel_rfl) (of_decide_eq_true (by kernel_rfl)) k0 bel lt0) (trodAll_cons_mk (Below.trod laidOut (by kernel_rfl) (of_decide_eq_true (by kernel_rfl)) k1 bel lt1) trodAll_mk0)), rfl, bel.frame _, fun h => by cases h⟩

theorem over : Rows.fnExactXorBytesRow.holds Try.pinned (OpenSpec.ofChange Rows.fnExactXorBytesSpec) :=
  OpenClaim.holds_of_wide 10 Try.f10 rfl rfl rfl rfl rfl rfl rfl ⟨rfl, rfl, rfl, rfl, rfl⟩ rfl rfl rfl rfl rfl (by kernel_rfl) Try.func10 (by kernel_rfl)
    (of_decide_eq_true (by kernel_rfl)) (by unfold Func.isWrapper; first | (rw [if_pos (by decide +kernel)]; kernel_rfl) | (rw [if_neg (by decide +kernel)]; exact ⟨rfl, rfl⟩))
    (fun os started H enc _ => lifted os started H enc)

theorem proved : Rows.FnExactXorBytesSaid := over
#print axioms proved
end Go.Proofs.Ytbjcgdgebbiieaa.fnExactXorBytes
