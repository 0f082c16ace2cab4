/- The walk of the exact law of PolyTag. -/
import Derived.Test.YtcanmhlhnihijaaCipFnD
namespace Go.Proofs.Ytcanmhlhnihijaa
open Go.RowKit

set_option maxHeartbeats 2000000 in
theorem exactPolyTag_walk (a0 : Option Addr) (n0 c0 : Nat) (l0 : List Int) (a1 : Option Addr) (n1 c1 : Nat) (l1 : List Int) (w : World) (h0 : Bs w a0 n0 l0) (h1 : Bs w a1 n1 l1) (hl0 : n0 ≤ 1048576) (hl1 : n1 ≤ 1048576) (P : World → Prop) (hP : P w) (hkeep : ∀ W W' : World, Below W.heap.size W W' → P W → P W') (Gi : Shut (∀ (g0 g1 : Nat) (W : World) (_ : P W) (_ : Bs W (some ⟨g0, 0, none⟩) n0 l0) (_ : Bs W (some ⟨g1, 0, none⟩) n1 l1), Calls Try.prog 6 #[.slice (some ⟨g0, 0, none⟩) n0 n0, .slice (some ⟨g1, 0, none⟩) n1 n1] W (BytesAns (polyCode n0 n1) (okN (polyCode n0 n1) 16) (okL (polyCode n0 n1) (polyTag l0 l1)) W))) :
    Calls Try.prog 3 #[.slice a0 n0 c0, .slice a1 n1 c1] w fun e w' => e = .returned (.bool true) ∧ Below w.heap.size w w' := by
  have hsm := okN_le (polyCode n0 n1) 16
  have Hspec : ∀ (g0 g1 : Nat) (W : World) (k0 : Bs W (some ⟨g0, 0, none⟩) n0 l0) (k1 : Bs W (some ⟨g1, 0, none⟩) n1 l1), Calls Try.prog 4 #[.slice (some ⟨g0, 0, none⟩) n0 n0, .slice (some ⟨g1, 0, none⟩) n1 n1] W (BytesAns (polyCode n0 n1) (okN (polyCode n0 n1) 16) (okL (polyCode n0 n1) (polyTag l0 l1)) W) := fun g0 g1 W k0 k1 => specPolyTag_any _ _ _ _ _ _ _ _ W k0 (Nat.le_refl _) k1 (Nat.le_refl _)
  generalize okL (polyCode n0 n1) (polyTag l0 l1) = L at *
  generalize okN (polyCode n0 n1) 16 = N at *
  generalize polyCode n0 n1 = C at *
  have Gs := Shut.mk Hspec
  have Y0 := Shut.mk h0.len
  have Y1 := Shut.mk h1.len
  have e0 := h0.byte
  have e1 := h1.byte
  clear Hspec
  go_enter Try.func3, Try.ntmps3
  go_wp2_with fail
  refine (toByteS_any _ _ _ _ _ h0 (by omega)).mono ?_
  rintro e w1 ⟨rfl, k1, b1⟩
  have B1 := ac (Below.refl _ w) b1
  have s1 := b1.size
  go_wp2_with fail
  refine (toByteS_any _ _ _ _ _ (h1.below B1) (by omega)).mono ?_
  rintro e w2 ⟨rfl, k2, b2⟩
  have B2 := ac B1 b2
  have s2 := b2.size
  replace k1 := k1.below b2 k1.lt
  go_wp2_with fail
  refine (Gs.out _ _ _ (k1.bsn e0 Y0.out) (k2.bsn e1 Y1.out)).mono ?_
  rintro e w3 ⟨⟨A0, d0, rfl, o0⟩, b3⟩
  have s3 := b3.size
  have B3 := ab (ac B2 b3) (.cells #[.int .i64 C, .slice A0 N d0] 24)
  have z0 := B3.size
  rw [World.size_alloc] at z0
  have t0 := Two.new w3 24 (.int .i64 C) (.slice A0 N d0)
  have o00 := o0.alloc (.cells #[.int .i64 C, .slice A0 N d0] 24)
  clear k1 b1 k2 b2
  go_wp2_with fail
  refine (toByteS_any _ _ _ _ _ (h0.below B3) (by omega)).mono ?_
  rintro e w4 ⟨rfl, k4, b4⟩
  have B4 := ac B3 b4
  have s4 := b4.size
  replace t0 := t0.below b4 (by first | (simp; done) | (simp; omega) | omega)
  replace o00 := o00.below b4 (Nat.le_refl _)
  rw [World.size_alloc] at s4 k4
  have lt4 := k4.lt
  go_wp2_with fail
  refine (toByteS_any _ _ _ _ _ (h1.below B4) (by omega)).mono ?_
  rintro e w5 ⟨rfl, k5, b5⟩
  have B5 := ac B4 b5
  have s5 := b5.size
  replace t0 := t0.below b5 (by first | (simp; done) | (simp; omega) | omega)
  replace o00 := o00.below b5 (Nat.le_refl _)
  replace k4 := k4.below b5 k4.lt
  have lt5 := k5.lt
  have T1 := hkeep _ _ B5 hP
  go_wp2_with fail
  refine (Gi.out _ _ _ T1 (k4.bsn e0 Y0.out) (k5.bsn e1 Y1.out)).mono ?_
  rintro e w6 ⟨⟨A1, d1, rfl, o1⟩, b6⟩
  have s6 := b6.size
  replace t0 := t0.below b6 (by first | (simp; done) | (simp; omega) | omega)
  replace o00 := o00.below b6 (Nat.le_refl _)
  replace k4 := k4.below b6 k4.lt
  replace k5 := k5.below b6 k5.lt
  have B6 := ac B5 b6
  obtain ⟨q0, q1, q2, q3⟩ := t0.cells
  have zlt : w3.heap.size < w6.heap.size := by omega
  have otop := o1.top
  go_wp2_with fail
  refine (eqBytesResult_any _ _ _ _ _ _ _ _ _ _ _ (o1.alloc _).bs (o00.alloc _).bs (by omega) (by omega)).mono ?_
  rintro e w7 ⟨rfl, b7⟩
  clear q0 q1 q2 q3
  have s7 := b7.size
  rw [World.size_alloc] at s7
  have g1 := (Two.new w6 24 (.int .i64 C) (.slice A1 N d1)).below b7 (by simp)
  replace t0 := (t0.alloc (.cells #[.int .i64 C, .slice A1 N d1] 24) (by omega)).below b7 (by simp; omega)
  replace o1 := (o1.alloc (.cells #[.int .i64 C, .slice A1 N d1] 24)).below b7 (Nat.le_refl _)
  replace o00 := (o00.alloc (.cells #[.int .i64 C, .slice A1 N d1] 24)).below b7 (Nat.le_refl _)
  replace k4 := (k4.alloc (.cells #[.int .i64 C, .slice A1 N d1] 24)).below b7 (by have := k4.lt; simp; omega)
  replace k5 := (k5.alloc (.cells #[.int .i64 C, .slice A1 N d1] 24)).below b7 (by have := k5.lt; simp; omega)
  have B7 := ac (ab B6 (.cells #[.int .i64 C, .slice A1 N d1] 24)) b7
  go_wp2_with fail
  refine (toByteS_any _ _ _ _ _ (h0.below B7) (by omega)).mono ?_
  rintro e w8 ⟨rfl, k8, b8⟩
  have B8 := ac B7 b8
  have s8 := b8.size
  replace t0 := t0.below b8 (by omega)
  replace o00 := o00.below b8 (Nat.le_refl _)
  replace g1 := g1.below b8 (by omega)
  replace o1 := o1.below b8 (Nat.le_refl _)
  replace k4 := k4.below b8 k4.lt
  replace k5 := k5.below b8 k5.lt
  go_wp2_with fail
  refine (eqByteS_any _ _ _ _ _ _ _ _ _ (k4.bsn e0 Y0.out) (k8.bsn e0 Y0.out) (by omega) (by omega)).mono ?_
  rintro e u9 ⟨rfl, q9, rfl⟩
  replace B8 := ad B8 q9
  replace t0 : Two (w8.drewN q9) _ _ _ _ := t0
  replace o00 := o00.drewN q9
  replace g1 : Two (w8.drewN q9) _ _ _ _ := g1
  replace o1 := o1.drewN q9
  replace k4 := k4.drewN q9
  replace k5 := k5.drewN q9
  clear k8 b8
  have su9 : (w8.drewN q9).heap.size = w8.heap.size := rfl
  generalize w8.drewN q9 = u9 at *
  go_wp2_with fail
  refine (toByteS_any _ _ _ _ _ (h1.below B8) (by omega)).mono ?_
  rintro e w10 ⟨rfl, k10, b10⟩
  have B10 := ac B8 b10
  have s10 := b10.size
  replace t0 := t0.below b10 (by omega)
  replace o00 := o00.below b10 (Nat.le_refl _)
  replace g1 := g1.below b10 (by omega)
  replace o1 := o1.below b10 (Nat.le_refl _)
  replace k4 := k4.below b10 k4.lt
  replace k5 := k5.below b10 k5.lt
  rw [su9] at k10
  go_wp2_with fail
  refine (eqByteS_any _ _ _ _ _ _ _ _ _ (k5.bsn e1 Y1.out) (k10.bsn e1 Y1.out) (by omega) (by omega)).mono ?_
  rintro e u11 ⟨rfl, q11, rfl⟩
  replace B10 := ad B10 q11
  replace t0 : Two (w10.drewN q11) _ _ _ _ := t0
  replace o00 := o00.drewN q11
  replace g1 : Two (w10.drewN q11) _ _ _ _ := g1
  replace o1 := o1.drewN q11
  replace k4 := k4.drewN q11
  replace k5 := k5.drewN q11
  clear k10 b10
  have su11 : (w10.drewN q11).heap.size = w10.heap.size := rfl
  generalize w10.drewN q11 = u11 at *
  go_wp2_with fail
  refine (markByteS_any _ _ _ _ _ _ _ (k4.own e0 Y0.out) (by omega) (by omega) (by omega)).mono ?_
  rintro e v12 ⟨rfl, _, on12⟩
  have s12 := on12.size
  have bo12 := on12.below (B := w3.heap.size + 1) (fun _ a ha => by injection ha with ha; subst ha; exact Nat.le_refl _)
  replace t0 := t0.below bo12 (by omega)
  replace o00 := o00.under bo12 (fun hp a ha => by have := o0.top hp a ha; omega)
  replace g1 := g1.only on12 (fun _ a ha => by injection ha with ha; subst ha; simp; omega)
  replace o1 := o1.only on12 (fun _ a ha => by injection ha with ha; subst ha; simp; omega)
  replace k5 := k5.only on12 (fun _ a ha => by injection ha with ha; subst ha; simp; omega)
  replace B10 := B10.trans (bo12.mono (by omega))
  go_wp2_with fail
  refine (markByteS_any _ _ _ _ _ _ _ (k5.own e1 Y1.out) (by omega) (by omega) (by omega)).mono ?_
  rintro e v13 ⟨rfl, _, on13⟩
  have s13 := on13.size
  have bo13 := on13.below (B := w4.heap.size) (fun _ a ha => by injection ha with ha; subst ha; exact Nat.le_refl _)
  replace t0 := t0.below bo13 (by omega)
  replace o00 := o00.under bo13 (fun hp a ha => by have := o0.top hp a ha; omega)
  replace g1 := g1.only on13 (fun _ a ha => by injection ha with ha; subst ha; simp; omega)
  replace o1 := o1.only on13 (fun _ a ha => by injection ha with ha; subst ha; simp; omega)
  replace B10 := B10.trans (bo13.mono (by omega))
  obtain ⟨q0, q1, q2, q3⟩ := t0.cells
  obtain ⟨y0, y1, y2, y3⟩ := g1.cells
  go_wp2_with fail
  refine (eqBytesResult_any _ _ _ _ _ _ _ _ _ _ _ o1.bs o00.bs (by omega) (by omega)).mono ?_
  rintro e v14 ⟨rfl, b14⟩
  have s14 := b14.size
  clear q0 q1 q2 q3 y0 y1 y2 y3
  replace t0 := t0.below b14 (by omega)
  replace g1 := g1.below b14 (by omega)
  replace o1 := o1.below b14 (Nat.le_refl _)
  replace o00 := o00.below b14 (Nat.le_refl _)
  replace B10 := ac B10 b14
  obtain ⟨y0, y1, y2, y3⟩ := g1.cells
  go_wp2_with fail
  refine (markBytesResult_any _ _ _ _ _ _ _ _ o1 (by omega) (by omega) (by omega)).mono ?_
  rintro e v15 ⟨rfl, o2, wm, on15, bm⟩
  clear y0 y1 y2 y3
  have sm := bm.size
  have s15 := on15.size
  have bo : Below w5.heap.size wm v15 := on15.below (fun hp a ha => o1.base hp a ha)
  replace g1 := (g1.below bm (by omega)).only on15 (fun hp a ha => by have := otop hp a ha; omega)
  replace t0 := (t0.below bm (by omega)).below bo (by omega)
  replace o00 := (o00.below bm (Nat.le_refl _)).under bo (fun hp a ha => by have := o0.top hp a ha; omega)
  replace B10 := (ac B10 bm).trans (bo.mono (by omega))
  obtain ⟨y0, y1, y2, y3⟩ := g1.cells
  go_wp2_with fail
  refine (heldBytesResult_any _ _ _ _ _ _ o2.bs (by omega) (by omega) (by omega)).mono ?_
  rintro e v16 ⟨rfl, b16⟩
  clear y0 y1 y2 y3
  have s16 := b16.size
  replace t0 := t0.below b16 (by omega)
  replace o00 := o00.below b16 (Nat.le_refl _)
  replace g1 := g1.below b16 (by omega)
  replace o2 := o2.below b16 (Nat.le_refl _)
  have B16 := ac B10 b16
  go_wp2_with fail
  refine (toByteS_any _ _ _ _ _ (h0.below B16) (by omega)).mono ?_
  rintro e w17 ⟨rfl, k17, b17⟩
  have B17 := ac B16 b17
  have s17 := b17.size
  replace t0 := t0.below b17 (by omega)
  replace o00 := o00.below b17 (Nat.le_refl _)
  replace g1 := g1.below b17 (by omega)
  replace o2 := o2.below b17 (Nat.le_refl _)
  go_wp2_with fail
  refine (toByteS_any _ _ _ _ _ (h1.below B17) (by omega)).mono ?_
  rintro e w18 ⟨rfl, k18, b18⟩
  have B18 := ac B17 b18
  have s18 := b18.size
  replace t0 := t0.below b18 (by omega)
  replace o00 := o00.below b18 (Nat.le_refl _)
  replace g1 := g1.below b18 (by omega)
  replace o2 := o2.below b18 (Nat.le_refl _)
  replace k17 := k17.below b18 k17.lt
  have T2 := hkeep _ _ B18 hP
  go_wp2_with fail
  refine (Gi.out _ _ _ T2 (k17.bsn e0 Y0.out) (k18.bsn e1 Y1.out)).mono ?_
  rintro e w19 ⟨⟨A2, d2, rfl, o3⟩, b19⟩
  have s19 := b19.size
  replace t0 := t0.below b19 (by omega)
  replace o00 := o00.below b19 (Nat.le_refl _)
  replace g1 := g1.below b19 (by omega)
  replace o2 := o2.below b19 (Nat.le_refl _)
  have B19 := ac B18 b19
  obtain ⟨q0, q1, q2, q3⟩ := t0.cells
  have zl2 : w3.heap.size < w19.heap.size := by omega
  go_wp2_with fail
  refine (eqBytesResult_any _ _ _ _ _ _ _ _ _ _ _ (o3.alloc _).bs (o00.alloc _).bs (by omega) (by omega)).mono ?_
  rintro e w20 ⟨rfl, b20⟩
  clear q0 q1 q2 q3
  replace g1 := (g1.alloc (.cells #[.int .i64 C, .slice A2 N d2] 24) (by omega)).below b20 (by simp; omega)
  replace o2 := (o2.alloc (.cells #[.int .i64 C, .slice A2 N d2] 24)).below b20 (Nat.le_refl _)
  obtain ⟨y0, y1, y2, y3⟩ := g1.cells
  go_wp2_with fail
  refine (heldBytesResult_any _ _ _ _ _ _ o2.bs (by omega) (by omega) (by omega)).mono ?_
  rintro e w21 ⟨rfl, b21⟩
  go_wp2
  go_ret
  exact ⟨rfl, ac (ac (ab B19 _) b20) b21⟩

theorem exactPolyTag_all (a0 : Option Addr) (n0 c0 : Nat) (l0 : List Int) (a1 : Option Addr) (n1 c1 : Nat) (l1 : List Int) (w : World) (h0 : Bs w a0 n0 l0) (h1 : Bs w a1 n1 l1) (P : World → Prop) (hP : P w) (hkeep : ∀ W W' : World, Below W.heap.size W W' → P W → P W') (Gi : Shut (∀ (g0 g1 : Nat) (W : World) (_ : P W) (_ : Bs W (some ⟨g0, 0, none⟩) n0 l0) (_ : Bs W (some ⟨g1, 0, none⟩) n1 l1), Calls Try.prog 6 #[.slice (some ⟨g0, 0, none⟩) n0 n0, .slice (some ⟨g1, 0, none⟩) n1 n1] W (BytesAns (polyCode n0 n1) (okN (polyCode n0 n1) 16) (okL (polyCode n0 n1) (polyTag l0 l1)) W))) :
    Calls Try.prog 3 #[.slice a0 n0 c0, .slice a1 n1 c1] w fun e w' => e = .returned (.bool true) ∧ Below w.heap.size w w' := by
  by_cases hl0 : n0 ≤ 1048576
  · by_cases hl1 : n1 ≤ 1048576
    · exact exactPolyTag_walk a0 n0 c0 l0 a1 n1 c1 l1 w h0 h1 hl0 hl1 P hP hkeep Gi
    · clear Gi hkeep
      go_enter Try.func3, Try.ntmps3
      go_wp2
      go_ret
      exact ⟨rfl, Below.refl _ _⟩
  · clear Gi hkeep
    go_enter Try.func3, Try.ntmps3
    go_wp2
    go_ret
    exact ⟨rfl, Below.refl _ _⟩
end Go.Proofs.Ytcanmhlhnihijaa
