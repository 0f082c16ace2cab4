/- The walk of the exact law of OpenBox. -/
import Derived.Test.YtcanmhlhnihijaaDoorCipFnD
namespace Go.Proofs.YtcanmhlhnihijaaDoor
open Go.RowKit

set_option maxHeartbeats 2000000 in
theorem exactOpenBox_walk (a0 : Option Addr) (n0 c0 : Nat) (l0 : List Int) (a1 : Option Addr) (n1 c1 : Nat) (l1 : List Int) (a2 : Option Addr) (n2 c2 : Nat) (l2 : List Int) (a3 : Option Addr) (n3 c3 : Nat) (l3 : List Int) (w : World) (h0 : Bs w a0 n0 l0) (h1 : Bs w a1 n1 l1) (h2 : Bs w a2 n2 l2) (h3 : Bs w a3 n3 l3) (hl0 : n0 ≤ 1048576) (hl1 : n1 ≤ 1048576) (hl2 : n2 ≤ 1048576) (hl3 : n3 ≤ 1048576) (P : World → Prop) (hP : P w) (hkeep : ∀ W W' : World, Below W.heap.size W W' → P W → P W') (Gi : Shut (∀ (g0 g1 g2 g3 : Nat) (W : World) (_ : P W) (_ : Bs W (some ⟨g0, 0, none⟩) n0 l0) (_ : Bs W (some ⟨g1, 0, none⟩) n1 l1) (_ : Bs W (some ⟨g2, 0, none⟩) n2 l2) (_ : Bs W (some ⟨g3, 0, none⟩) n3 l3), Calls Tryd.prog 21 #[.slice (some ⟨g0, 0, none⟩) n0 n0, .slice (some ⟨g1, 0, none⟩) n1 n1, .slice (some ⟨g2, 0, none⟩) n2 n2, .slice (some ⟨g3, 0, none⟩) n3 n3] W (BytesAns (openCode (askCode n0 0 n1 (maxN n2 n3 : Int)) l0 l1 l2 l3) (okN (openCode (askCode n0 0 n1 (maxN n2 n3 : Int)) l0 l1 l2 l3) (n3 - 16)) (okL (openCode (askCode n0 0 n1 (maxN n2 n3 : Int)) l0 l1 l2 l3) (openL l0 l1 l3)) W))) :
    Calls Tryd.prog 8 #[.slice a0 n0 c0, .slice a1 n1 c1, .slice a2 n2 c2, .slice a3 n3 c3] w fun e w' => e = .returned (.bool true) ∧ Below w.heap.size w w' := by
  have hsm := okN_le (openCode (askCode n0 0 n1 (maxN n2 n3 : Int)) l0 l1 l2 l3) (n3 - 16)
  have Hspec : ∀ (g0 g1 g2 g3 : Nat) (W : World) (k0 : Bs W (some ⟨g0, 0, none⟩) n0 l0) (k1 : Bs W (some ⟨g1, 0, none⟩) n1 l1) (k2 : Bs W (some ⟨g2, 0, none⟩) n2 l2) (k3 : Bs W (some ⟨g3, 0, none⟩) n3 l3), Calls Tryd.prog 25 #[.slice (some ⟨g0, 0, none⟩) n0 n0, .slice (some ⟨g1, 0, none⟩) n1 n1, .slice (some ⟨g2, 0, none⟩) n2 n2, .slice (some ⟨g3, 0, none⟩) n3 n3] W (BytesAns (openCode (askCode n0 0 n1 (maxN n2 n3 : Int)) l0 l1 l2 l3) (okN (openCode (askCode n0 0 n1 (maxN n2 n3 : Int)) l0 l1 l2 l3) (n3 - 16)) (okL (openCode (askCode n0 0 n1 (maxN n2 n3 : Int)) l0 l1 l2 l3) (openL l0 l1 l3)) W) := fun g0 g1 g2 g3 W k0 k1 k2 k3 => specOpenBox_any _ _ _ _ _ _ _ _ _ _ _ _ _ _ _ _ W k0 (Nat.le_refl _) k1 (Nat.le_refl _) k2 (fun e => by cases e) k3 (Nat.le_refl _)
  generalize okL (openCode (askCode n0 0 n1 (maxN n2 n3 : Int)) l0 l1 l2 l3) (openL l0 l1 l3) = L at *
  generalize okN (openCode (askCode n0 0 n1 (maxN n2 n3 : Int)) l0 l1 l2 l3) (n3 - 16) = N at *
  generalize openCode (askCode n0 0 n1 (maxN n2 n3 : Int)) l0 l1 l2 l3 = C at *
  have Gs := Shut.mk Hspec
  have Y0 := Shut.mk h0.len
  have Y1 := Shut.mk h1.len
  have Y2 := Shut.mk h2.len
  have Y3 := Shut.mk h3.len
  have e0 := h0.byte
  have e1 := h1.byte
  have e2 := h2.byte
  have e3 := h3.byte
  clear Hspec
  go_enter Tryd.func8, Tryd.ntmps8
  go_wp2_with fail
  refine (toByteS_any _ _ _ _ _ h0 (by omega)).mono ?_
  rintro e w1 ⟨rfl, k1, b1⟩
  have B1 := ac (Below.refl _ w) b1
  have s1 := b1.size
  go_wp2_with fail
  refine (toByteS_any _ _ _ _ _ (h1.below B1) (by omega)).mono ?_
  rintro e w2 ⟨rfl, k2, b2⟩
  have B2 := ac B1 b2
  have s2 := b2.size
  replace k1 := k1.below b2 k1.lt
  go_wp2_with fail
  refine (toByteS_any _ _ _ _ _ (h2.below B2) (by omega)).mono ?_
  rintro e w3 ⟨rfl, k3, b3⟩
  have B3 := ac B2 b3
  have s3 := b3.size
  replace k1 := k1.below b3 k1.lt
  replace k2 := k2.below b3 k2.lt
  go_wp2_with fail
  refine (toByteS_any _ _ _ _ _ (h3.below B3) (by omega)).mono ?_
  rintro e w4 ⟨rfl, k4, b4⟩
  have B4 := ac B3 b4
  have s4 := b4.size
  replace k1 := k1.below b4 k1.lt
  replace k2 := k2.below b4 k2.lt
  replace k3 := k3.below b4 k3.lt
  go_wp2_with fail
  refine (Gs.out _ _ _ _ _ (k1.bsn e0 Y0.out) (k2.bsn e1 Y1.out) (k3.bsn e2 Y2.out) (k4.bsn e3 Y3.out)).mono ?_
  rintro e w5 ⟨⟨A0, d0, rfl, o0⟩, b5⟩
  have s5 := b5.size
  have B5 := ab (ac B4 b5) (.cells #[.int .i64 C, .slice A0 N d0] 27)
  have z0 := B5.size
  rw [World.size_alloc] at z0
  have t0 := Two.new w5 27 (.int .i64 C) (.slice A0 N d0)
  have o00 := o0.alloc (.cells #[.int .i64 C, .slice A0 N d0] 27)
  clear k1 b1 k2 b2 k3 b3 k4 b4
  go_wp2_with fail
  refine (toByteS_any _ _ _ _ _ (h0.below B5) (by omega)).mono ?_
  rintro e w6 ⟨rfl, k6, b6⟩
  have B6 := ac B5 b6
  have s6 := b6.size
  replace t0 := t0.below b6 (by first | (simp; done) | (simp; omega) | omega)
  replace o00 := o00.below b6 (Nat.le_refl _)
  rw [World.size_alloc] at s6 k6
  have lt6 := k6.lt
  go_wp2_with fail
  refine (toByteS_any _ _ _ _ _ (h1.below B6) (by omega)).mono ?_
  rintro e w7 ⟨rfl, k7, b7⟩
  have B7 := ac B6 b7
  have s7 := b7.size
  replace t0 := t0.below b7 (by first | (simp; done) | (simp; omega) | omega)
  replace o00 := o00.below b7 (Nat.le_refl _)
  replace k6 := k6.below b7 k6.lt
  have lt7 := k7.lt
  go_wp2_with fail
  refine (toByteS_any _ _ _ _ _ (h2.below B7) (by omega)).mono ?_
  rintro e w8 ⟨rfl, k8, b8⟩
  have B8 := ac B7 b8
  have s8 := b8.size
  replace t0 := t0.below b8 (by first | (simp; done) | (simp; omega) | omega)
  replace o00 := o00.below b8 (Nat.le_refl _)
  replace k6 := k6.below b8 k6.lt
  replace k7 := k7.below b8 k7.lt
  have lt8 := k8.lt
  go_wp2_with fail
  refine (toByteS_any _ _ _ _ _ (h3.below B8) (by omega)).mono ?_
  rintro e w9 ⟨rfl, k9, b9⟩
  have B9 := ac B8 b9
  have s9 := b9.size
  replace t0 := t0.below b9 (by first | (simp; done) | (simp; omega) | omega)
  replace o00 := o00.below b9 (Nat.le_refl _)
  replace k6 := k6.below b9 k6.lt
  replace k7 := k7.below b9 k7.lt
  replace k8 := k8.below b9 k8.lt
  have lt9 := k9.lt
  have T1 := hkeep _ _ B9 hP
  go_wp2_with fail
  refine (Gi.out _ _ _ _ _ T1 (k6.bsn e0 Y0.out) (k7.bsn e1 Y1.out) (k8.bsn e2 Y2.out) (k9.bsn e3 Y3.out)).mono ?_
  rintro e w10 ⟨⟨A1, d1, rfl, o1⟩, b10⟩
  have s10 := b10.size
  replace t0 := t0.below b10 (by first | (simp; done) | (simp; omega) | omega)
  replace o00 := o00.below b10 (Nat.le_refl _)
  replace k6 := k6.below b10 k6.lt
  replace k7 := k7.below b10 k7.lt
  replace k8 := k8.below b10 k8.lt
  replace k9 := k9.below b10 k9.lt
  have B10 := ac B9 b10
  obtain ⟨q0, q1, q2, q3⟩ := t0.cells
  have zlt : w5.heap.size < w10.heap.size := by omega
  have otop := o1.top
  go_wp2_with fail
  refine (eqBytesResult_any _ _ _ _ _ _ _ _ _ _ _ (o1.alloc _).bs (o00.alloc _).bs (by omega) (by omega)).mono ?_
  rintro e w11 ⟨rfl, b11⟩
  clear q0 q1 q2 q3
  have s11 := b11.size
  rw [World.size_alloc] at s11
  have g1 := (Two.new w10 27 (.int .i64 C) (.slice A1 N d1)).below b11 (by simp)
  replace t0 := (t0.alloc (.cells #[.int .i64 C, .slice A1 N d1] 27) (by omega)).below b11 (by simp; omega)
  replace o1 := (o1.alloc (.cells #[.int .i64 C, .slice A1 N d1] 27)).below b11 (Nat.le_refl _)
  replace o00 := (o00.alloc (.cells #[.int .i64 C, .slice A1 N d1] 27)).below b11 (Nat.le_refl _)
  replace k6 := (k6.alloc (.cells #[.int .i64 C, .slice A1 N d1] 27)).below b11 (by have := k6.lt; simp; omega)
  replace k7 := (k7.alloc (.cells #[.int .i64 C, .slice A1 N d1] 27)).below b11 (by have := k7.lt; simp; omega)
  replace k8 := (k8.alloc (.cells #[.int .i64 C, .slice A1 N d1] 27)).below b11 (by have := k8.lt; simp; omega)
  replace k9 := (k9.alloc (.cells #[.int .i64 C, .slice A1 N d1] 27)).below b11 (by have := k9.lt; simp; omega)
  have B11 := ac (ab B10 (.cells #[.int .i64 C, .slice A1 N d1] 27)) b11
  go_wp2_with fail
  refine (toByteS_any _ _ _ _ _ (h0.below B11) (by omega)).mono ?_
  rintro e w12 ⟨rfl, k12, b12⟩
  have B12 := ac B11 b12
  have s12 := b12.size
  replace t0 := t0.below b12 (by omega)
  replace o00 := o00.below b12 (Nat.le_refl _)
  replace g1 := g1.below b12 (by omega)
  replace o1 := o1.below b12 (Nat.le_refl _)
  replace k6 := k6.below b12 k6.lt
  replace k7 := k7.below b12 k7.lt
  replace k8 := k8.below b12 k8.lt
  replace k9 := k9.below b12 k9.lt
  go_wp2_with fail
  refine (eqByteS_any _ _ _ _ _ _ _ _ _ (k6.bsn e0 Y0.out) (k12.bsn e0 Y0.out) (by omega) (by omega)).mono ?_
  rintro e u13 ⟨rfl, q13, rfl⟩
  replace B12 := ad B12 q13
  replace t0 : Two (w12.drewN q13) _ _ _ _ := t0
  replace o00 := o00.drewN q13
  replace g1 : Two (w12.drewN q13) _ _ _ _ := g1
  replace o1 := o1.drewN q13
  replace k6 := k6.drewN q13
  replace k7 := k7.drewN q13
  replace k8 := k8.drewN q13
  replace k9 := k9.drewN q13
  clear k12 b12
  have su13 : (w12.drewN q13).heap.size = w12.heap.size := rfl
  generalize w12.drewN q13 = u13 at *
  go_wp2_with fail
  refine (toByteS_any _ _ _ _ _ (h1.below B12) (by omega)).mono ?_
  rintro e w14 ⟨rfl, k14, b14⟩
  have B14 := ac B12 b14
  have s14 := b14.size
  replace t0 := t0.below b14 (by omega)
  replace o00 := o00.below b14 (Nat.le_refl _)
  replace g1 := g1.below b14 (by omega)
  replace o1 := o1.below b14 (Nat.le_refl _)
  replace k6 := k6.below b14 k6.lt
  replace k7 := k7.below b14 k7.lt
  replace k8 := k8.below b14 k8.lt
  replace k9 := k9.below b14 k9.lt
  rw [su13] at k14
  go_wp2_with fail
  refine (eqByteS_any _ _ _ _ _ _ _ _ _ (k7.bsn e1 Y1.out) (k14.bsn e1 Y1.out) (by omega) (by omega)).mono ?_
  rintro e u15 ⟨rfl, q15, rfl⟩
  replace B14 := ad B14 q15
  replace t0 : Two (w14.drewN q15) _ _ _ _ := t0
  replace o00 := o00.drewN q15
  replace g1 : Two (w14.drewN q15) _ _ _ _ := g1
  replace o1 := o1.drewN q15
  replace k6 := k6.drewN q15
  replace k7 := k7.drewN q15
  replace k8 := k8.drewN q15
  replace k9 := k9.drewN q15
  clear k14 b14
  have su15 : (w14.drewN q15).heap.size = w14.heap.size := rfl
  generalize w14.drewN q15 = u15 at *
  go_wp2_with fail
  refine (toByteS_any _ _ _ _ _ (h2.below B14) (by omega)).mono ?_
  rintro e w16 ⟨rfl, k16, b16⟩
  have B16 := ac B14 b16
  have s16 := b16.size
  replace t0 := t0.below b16 (by omega)
  replace o00 := o00.below b16 (Nat.le_refl _)
  replace g1 := g1.below b16 (by omega)
  replace o1 := o1.below b16 (Nat.le_refl _)
  replace k6 := k6.below b16 k6.lt
  replace k7 := k7.below b16 k7.lt
  replace k8 := k8.below b16 k8.lt
  replace k9 := k9.below b16 k9.lt
  rw [su15] at k16
  go_wp2_with fail
  refine (eqByteS_any _ _ _ _ _ _ _ _ _ (k8.bsn e2 Y2.out) (k16.bsn e2 Y2.out) (by omega) (by omega)).mono ?_
  rintro e u17 ⟨rfl, q17, rfl⟩
  replace B16 := ad B16 q17
  replace t0 : Two (w16.drewN q17) _ _ _ _ := t0
  replace o00 := o00.drewN q17
  replace g1 : Two (w16.drewN q17) _ _ _ _ := g1
  replace o1 := o1.drewN q17
  replace k6 := k6.drewN q17
  replace k7 := k7.drewN q17
  replace k8 := k8.drewN q17
  replace k9 := k9.drewN q17
  clear k16 b16
  have su17 : (w16.drewN q17).heap.size = w16.heap.size := rfl
  generalize w16.drewN q17 = u17 at *
  go_wp2_with fail
  refine (toByteS_any _ _ _ _ _ (h3.below B16) (by omega)).mono ?_
  rintro e w18 ⟨rfl, k18, b18⟩
  have B18 := ac B16 b18
  have s18 := b18.size
  replace t0 := t0.below b18 (by omega)
  replace o00 := o00.below b18 (Nat.le_refl _)
  replace g1 := g1.below b18 (by omega)
  replace o1 := o1.below b18 (Nat.le_refl _)
  replace k6 := k6.below b18 k6.lt
  replace k7 := k7.below b18 k7.lt
  replace k8 := k8.below b18 k8.lt
  replace k9 := k9.below b18 k9.lt
  rw [su17] at k18
  go_wp2_with fail
  refine (eqByteS_any _ _ _ _ _ _ _ _ _ (k9.bsn e3 Y3.out) (k18.bsn e3 Y3.out) (by omega) (by omega)).mono ?_
  rintro e u19 ⟨rfl, q19, rfl⟩
  replace B18 := ad B18 q19
  replace t0 : Two (w18.drewN q19) _ _ _ _ := t0
  replace o00 := o00.drewN q19
  replace g1 : Two (w18.drewN q19) _ _ _ _ := g1
  replace o1 := o1.drewN q19
  replace k6 := k6.drewN q19
  replace k7 := k7.drewN q19
  replace k8 := k8.drewN q19
  replace k9 := k9.drewN q19
  clear k18 b18
  have su19 : (w18.drewN q19).heap.size = w18.heap.size := rfl
  generalize w18.drewN q19 = u19 at *
  go_wp2_with fail
  refine (markByteS_any _ _ _ _ _ _ _ (k6.own e0 Y0.out) (by omega) (by omega) (by omega)).mono ?_
  rintro e v20 ⟨rfl, _, on20⟩
  have s20 := on20.size
  have bo20 := on20.below (B := w5.heap.size + 1) (fun _ a ha => by injection ha with ha; subst ha; exact Nat.le_refl _)
  replace t0 := t0.below bo20 (by omega)
  replace o00 := o00.under bo20 (fun hp a ha => by have := o0.top hp a ha; omega)
  replace g1 := g1.only on20 (fun _ a ha => by injection ha with ha; subst ha; simp; omega)
  replace o1 := o1.only on20 (fun _ a ha => by injection ha with ha; subst ha; simp; omega)
  replace k7 := k7.only on20 (fun _ a ha => by injection ha with ha; subst ha; simp; omega)
  replace k8 := k8.only on20 (fun _ a ha => by injection ha with ha; subst ha; simp; omega)
  replace k9 := k9.only on20 (fun _ a ha => by injection ha with ha; subst ha; simp; omega)
  replace B18 := B18.trans (bo20.mono (by omega))
  go_wp2_with fail
  refine (markByteS_any _ _ _ _ _ _ _ (k7.own e1 Y1.out) (by omega) (by omega) (by omega)).mono ?_
  rintro e v21 ⟨rfl, _, on21⟩
  have s21 := on21.size
  have bo21 := on21.below (B := w6.heap.size) (fun _ a ha => by injection ha with ha; subst ha; exact Nat.le_refl _)
  replace t0 := t0.below bo21 (by omega)
  replace o00 := o00.under bo21 (fun hp a ha => by have := o0.top hp a ha; omega)
  replace g1 := g1.only on21 (fun _ a ha => by injection ha with ha; subst ha; simp; omega)
  replace o1 := o1.only on21 (fun _ a ha => by injection ha with ha; subst ha; simp; omega)
  replace k8 := k8.only on21 (fun _ a ha => by injection ha with ha; subst ha; simp; omega)
  replace k9 := k9.only on21 (fun _ a ha => by injection ha with ha; subst ha; simp; omega)
  replace B18 := B18.trans (bo21.mono (by omega))
  go_wp2_with fail
  refine (markByteS_any _ _ _ _ _ _ _ (k8.own e2 Y2.out) (by omega) (by omega) (by omega)).mono ?_
  rintro e v22 ⟨rfl, _, on22⟩
  have s22 := on22.size
  have bo22 := on22.below (B := w7.heap.size) (fun _ a ha => by injection ha with ha; subst ha; exact Nat.le_refl _)
  replace t0 := t0.below bo22 (by omega)
  replace o00 := o00.under bo22 (fun hp a ha => by have := o0.top hp a ha; omega)
  replace g1 := g1.only on22 (fun _ a ha => by injection ha with ha; subst ha; simp; omega)
  replace o1 := o1.only on22 (fun _ a ha => by injection ha with ha; subst ha; simp; omega)
  replace k9 := k9.only on22 (fun _ a ha => by injection ha with ha; subst ha; simp; omega)
  replace B18 := B18.trans (bo22.mono (by omega))
  go_wp2_with fail
  refine (markByteS_any _ _ _ _ _ _ _ (k9.own e3 Y3.out) (by omega) (by omega) (by omega)).mono ?_
  rintro e v23 ⟨rfl, _, on23⟩
  have s23 := on23.size
  have bo23 := on23.below (B := w8.heap.size) (fun _ a ha => by injection ha with ha; subst ha; exact Nat.le_refl _)
  replace t0 := t0.below bo23 (by omega)
  replace o00 := o00.under bo23 (fun hp a ha => by have := o0.top hp a ha; omega)
  replace g1 := g1.only on23 (fun _ a ha => by injection ha with ha; subst ha; simp; omega)
  replace o1 := o1.only on23 (fun _ a ha => by injection ha with ha; subst ha; simp; omega)
  replace B18 := B18.trans (bo23.mono (by omega))
  obtain ⟨q0, q1, q2, q3⟩ := t0.cells
  obtain ⟨y0, y1, y2, y3⟩ := g1.cells
  go_wp2_with fail
  refine (eqBytesResult_any _ _ _ _ _ _ _ _ _ _ _ o1.bs o00.bs (by omega) (by omega)).mono ?_
  rintro e v24 ⟨rfl, b24⟩
  have s24 := b24.size
  clear q0 q1 q2 q3 y0 y1 y2 y3
  replace t0 := t0.below b24 (by omega)
  replace g1 := g1.below b24 (by omega)
  replace o1 := o1.below b24 (Nat.le_refl _)
  replace o00 := o00.below b24 (Nat.le_refl _)
  replace B18 := ac B18 b24
  obtain ⟨y0, y1, y2, y3⟩ := g1.cells
  go_wp2_with fail
  refine (markBytesResult_any _ _ _ _ _ _ _ _ o1 (by omega) (by omega) (by omega)).mono ?_
  rintro e v25 ⟨rfl, o2, wm, on25, bm⟩
  clear y0 y1 y2 y3
  have sm := bm.size
  have s25 := on25.size
  have bo : Below w9.heap.size wm v25 := on25.below (fun hp a ha => o1.base hp a ha)
  replace g1 := (g1.below bm (by omega)).only on25 (fun hp a ha => by have := otop hp a ha; omega)
  replace t0 := (t0.below bm (by omega)).below bo (by omega)
  replace o00 := (o00.below bm (Nat.le_refl _)).under bo (fun hp a ha => by have := o0.top hp a ha; omega)
  replace B18 := (ac B18 bm).trans (bo.mono (by omega))
  obtain ⟨y0, y1, y2, y3⟩ := g1.cells
  go_wp2_with fail
  refine (heldBytesResult_any _ _ _ _ _ _ o2.bs (by omega) (by omega) (by omega)).mono ?_
  rintro e v26 ⟨rfl, b26⟩
  clear y0 y1 y2 y3
  have s26 := b26.size
  replace t0 := t0.below b26 (by omega)
  replace o00 := o00.below b26 (Nat.le_refl _)
  replace g1 := g1.below b26 (by omega)
  replace o2 := o2.below b26 (Nat.le_refl _)
  have B26 := ac B18 b26
  go_wp2_with fail
  refine (toByteS_any _ _ _ _ _ (h0.below B26) (by omega)).mono ?_
  rintro e w27 ⟨rfl, k27, b27⟩
  have B27 := ac B26 b27
  have s27 := b27.size
  replace t0 := t0.below b27 (by omega)
  replace o00 := o00.below b27 (Nat.le_refl _)
  replace g1 := g1.below b27 (by omega)
  replace o2 := o2.below b27 (Nat.le_refl _)
  go_wp2_with fail
  refine (toByteS_any _ _ _ _ _ (h1.below B27) (by omega)).mono ?_
  rintro e w28 ⟨rfl, k28, b28⟩
  have B28 := ac B27 b28
  have s28 := b28.size
  replace t0 := t0.below b28 (by omega)
  replace o00 := o00.below b28 (Nat.le_refl _)
  replace g1 := g1.below b28 (by omega)
  replace o2 := o2.below b28 (Nat.le_refl _)
  replace k27 := k27.below b28 k27.lt
  go_wp2_with fail
  refine (toByteS_any _ _ _ _ _ (h2.below B28) (by omega)).mono ?_
  rintro e w29 ⟨rfl, k29, b29⟩
  have B29 := ac B28 b29
  have s29 := b29.size
  replace t0 := t0.below b29 (by omega)
  replace o00 := o00.below b29 (Nat.le_refl _)
  replace g1 := g1.below b29 (by omega)
  replace o2 := o2.below b29 (Nat.le_refl _)
  replace k27 := k27.below b29 k27.lt
  replace k28 := k28.below b29 k28.lt
  go_wp2_with fail
  refine (toByteS_any _ _ _ _ _ (h3.below B29) (by omega)).mono ?_
  rintro e w30 ⟨rfl, k30, b30⟩
  have B30 := ac B29 b30
  have s30 := b30.size
  replace t0 := t0.below b30 (by omega)
  replace o00 := o00.below b30 (Nat.le_refl _)
  replace g1 := g1.below b30 (by omega)
  replace o2 := o2.below b30 (Nat.le_refl _)
  replace k27 := k27.below b30 k27.lt
  replace k28 := k28.below b30 k28.lt
  replace k29 := k29.below b30 k29.lt
  have T2 := hkeep _ _ B30 hP
  go_wp2_with fail
  refine (Gi.out _ _ _ _ _ T2 (k27.bsn e0 Y0.out) (k28.bsn e1 Y1.out) (k29.bsn e2 Y2.out) (k30.bsn e3 Y3.out)).mono ?_
  rintro e w31 ⟨⟨A2, d2, rfl, o3⟩, b31⟩
  have s31 := b31.size
  replace t0 := t0.below b31 (by omega)
  replace o00 := o00.below b31 (Nat.le_refl _)
  replace g1 := g1.below b31 (by omega)
  replace o2 := o2.below b31 (Nat.le_refl _)
  have B31 := ac B30 b31
  obtain ⟨q0, q1, q2, q3⟩ := t0.cells
  have zl2 : w5.heap.size < w31.heap.size := by omega
  go_wp2_with fail
  refine (eqBytesResult_any _ _ _ _ _ _ _ _ _ _ _ (o3.alloc _).bs (o00.alloc _).bs (by omega) (by omega)).mono ?_
  rintro e w32 ⟨rfl, b32⟩
  clear q0 q1 q2 q3
  replace g1 := (g1.alloc (.cells #[.int .i64 C, .slice A2 N d2] 27) (by omega)).below b32 (by simp; omega)
  replace o2 := (o2.alloc (.cells #[.int .i64 C, .slice A2 N d2] 27)).below b32 (Nat.le_refl _)
  obtain ⟨y0, y1, y2, y3⟩ := g1.cells
  go_wp2_with fail
  refine (heldBytesResult_any _ _ _ _ _ _ o2.bs (by omega) (by omega) (by omega)).mono ?_
  rintro e w33 ⟨rfl, b33⟩
  go_wp2
  go_ret
  exact ⟨rfl, ac (ac (ab B31 _) b32) b33⟩

theorem exactOpenBox_all (a0 : Option Addr) (n0 c0 : Nat) (l0 : List Int) (a1 : Option Addr) (n1 c1 : Nat) (l1 : List Int) (a2 : Option Addr) (n2 c2 : Nat) (l2 : List Int) (a3 : Option Addr) (n3 c3 : Nat) (l3 : List Int) (w : World) (h0 : Bs w a0 n0 l0) (h1 : Bs w a1 n1 l1) (h2 : Bs w a2 n2 l2) (h3 : Bs w a3 n3 l3) (P : World → Prop) (hP : P w) (hkeep : ∀ W W' : World, Below W.heap.size W W' → P W → P W') (Gi : Shut (∀ (g0 g1 g2 g3 : Nat) (W : World) (_ : P W) (_ : Bs W (some ⟨g0, 0, none⟩) n0 l0) (_ : Bs W (some ⟨g1, 0, none⟩) n1 l1) (_ : Bs W (some ⟨g2, 0, none⟩) n2 l2) (_ : Bs W (some ⟨g3, 0, none⟩) n3 l3), Calls Tryd.prog 21 #[.slice (some ⟨g0, 0, none⟩) n0 n0, .slice (some ⟨g1, 0, none⟩) n1 n1, .slice (some ⟨g2, 0, none⟩) n2 n2, .slice (some ⟨g3, 0, none⟩) n3 n3] W (BytesAns (openCode (askCode n0 0 n1 (maxN n2 n3 : Int)) l0 l1 l2 l3) (okN (openCode (askCode n0 0 n1 (maxN n2 n3 : Int)) l0 l1 l2 l3) (n3 - 16)) (okL (openCode (askCode n0 0 n1 (maxN n2 n3 : Int)) l0 l1 l2 l3) (openL l0 l1 l3)) W))) :
    Calls Tryd.prog 8 #[.slice a0 n0 c0, .slice a1 n1 c1, .slice a2 n2 c2, .slice a3 n3 c3] w fun e w' => e = .returned (.bool true) ∧ Below w.heap.size w w' := by
  by_cases hl0 : n0 ≤ 1048576
  · by_cases hl1 : n1 ≤ 1048576
    · by_cases hl2 : n2 ≤ 1048576
      · by_cases hl3 : n3 ≤ 1048576
        · exact exactOpenBox_walk a0 n0 c0 l0 a1 n1 c1 l1 a2 n2 c2 l2 a3 n3 c3 l3 w h0 h1 h2 h3 hl0 hl1 hl2 hl3 P hP hkeep Gi
        · clear Gi hkeep
          go_enter Tryd.func8, Tryd.ntmps8
          go_wp2
          go_ret
          exact ⟨rfl, Below.refl _ _⟩
      · clear Gi hkeep
        go_enter Tryd.func8, Tryd.ntmps8
        go_wp2
        go_ret
        exact ⟨rfl, Below.refl _ _⟩
    · clear Gi hkeep
      go_enter Tryd.func8, Tryd.ntmps8
      go_wp2
      go_ret
      exact ⟨rfl, Below.refl _ _⟩
  · clear Gi hkeep
    go_enter Tryd.func8, Tryd.ntmps8
    go_wp2
    go_ret
    exact ⟨rfl, Below.refl _ _⟩
end Go.Proofs.YtcanmhlhnihijaaDoor
