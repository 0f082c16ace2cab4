/- The walk of the exact law of StreamXor. -/
import Derived.Test.YtcanmhlhnihijaaDoorCipFnC
namespace Go.Proofs.YtcanmhlhnihijaaDoor
open Go.RowKit

set_option maxHeartbeats 2000000 in
theorem exactStreamXor_walk (k : Int) (a0 : Option Addr) (n0 c0 : Nat) (l0 : List Int) (a1 : Option Addr) (n1 c1 : Nat) (l1 : List Int) (a2 : Option Addr) (n2 c2 : Nat) (l2 : List Int) (w : World) (h0 : Bs w a0 n0 l0) (h1 : Bs w a1 n1 l1) (h2 : Bs w a2 n2 l2) (hl0 : n0 ≤ 1048576) (hl1 : n1 ≤ 1048576) (hl2 : n2 ≤ 1048576) (P : World → Prop) (hP : P w) (hkeep : ∀ W W' : World, Below W.heap.size W W' → P W → P W') (Gi : Shut (∀ (g0 g1 g2 : Nat) (W : World) (_ : P W) (_ : Bs W (some ⟨g0, 0, none⟩) n0 l0) (_ : Bs W (some ⟨g1, 0, none⟩) n1 l1) (_ : Bs W (some ⟨g2, 0, none⟩) n2 l2), Calls Tryd.prog 11 #[.slice (some ⟨g0, 0, none⟩) n0 n0, .int .i64 k, .slice (some ⟨g1, 0, none⟩) n1 n1, .slice (some ⟨g2, 0, none⟩) n2 n2] W (BytesAns (askCode n0 k n1 (n2 : Int)) (okN (askCode n0 k n1 (n2 : Int)) n2) (okL (askCode n0 k n1 (n2 : Int)) (streamL l0 k l1 l2)) W))) :
    Calls Tryd.prog 6 #[.slice a0 n0 c0, .int .i64 k, .slice a1 n1 c1, .slice a2 n2 c2] w fun e w' => e = .returned (.bool true) ∧ Below w.heap.size w w' := by
  have hsm := okN_le (askCode n0 k n1 (n2 : Int)) n2
  have Hspec : ∀ (g0 g1 g2 : Nat) (W : World) (k0 : Bs W (some ⟨g0, 0, none⟩) n0 l0) (k1 : Bs W (some ⟨g1, 0, none⟩) n1 l1) (k2 : Bs W (some ⟨g2, 0, none⟩) n2 l2), Calls Tryd.prog 15 #[.slice (some ⟨g0, 0, none⟩) n0 n0, .int .i64 k, .slice (some ⟨g1, 0, none⟩) n1 n1, .slice (some ⟨g2, 0, none⟩) n2 n2] W (BytesAns (askCode n0 k n1 (n2 : Int)) (okN (askCode n0 k n1 (n2 : Int)) n2) (okL (askCode n0 k n1 (n2 : Int)) (streamL l0 k l1 l2)) W) := fun g0 g1 g2 W k0 k1 k2 => specStreamXor_any _ _ _ _ k _ _ _ _ _ _ _ _ W k0 (Nat.le_refl _) k1 (Nat.le_refl _) k2
  generalize okL (askCode n0 k n1 (n2 : Int)) (streamL l0 k l1 l2) = L at *
  generalize okN (askCode n0 k n1 (n2 : Int)) n2 = N at *
  generalize askCode n0 k n1 (n2 : Int) = C at *
  have Gs := Shut.mk Hspec
  have Y0 := Shut.mk h0.len
  have Y1 := Shut.mk h1.len
  have Y2 := Shut.mk h2.len
  have e0 := h0.byte
  have e1 := h1.byte
  have e2 := h2.byte
  clear Hspec
  go_enter Tryd.func6, Tryd.ntmps6
  go_wp2_with fail
  refine (toByteS_any _ _ _ _ _ h0 (by omega)).mono ?_
  rintro e w1 ⟨rfl, k1, b1⟩
  have B1 := ac (Below.refl _ w) b1
  have s1 := b1.size
  go_wp2_with fail
  refine (toByteS_any _ _ _ _ _ (h1.below B1) (by omega)).mono ?_
  rintro e w2 ⟨rfl, k2, b2⟩
  have B2 := ac B1 b2
  have s2 := b2.size
  replace k1 := k1.below b2 k1.lt
  go_wp2_with fail
  refine (toByteS_any _ _ _ _ _ (h2.below B2) (by omega)).mono ?_
  rintro e w3 ⟨rfl, k3, b3⟩
  have B3 := ac B2 b3
  have s3 := b3.size
  replace k1 := k1.below b3 k1.lt
  replace k2 := k2.below b3 k2.lt
  go_wp2_with fail
  refine (Gs.out _ _ _ _ (k1.bsn e0 Y0.out) (k2.bsn e1 Y1.out) (k3.bsn e2 Y2.out)).mono ?_
  rintro e w4 ⟨⟨A0, d0, rfl, o0⟩, b4⟩
  have s4 := b4.size
  have B4 := ab (ac B3 b4) (.cells #[.int .i64 C, .slice A0 N d0] 27)
  have z0 := B4.size
  rw [World.size_alloc] at z0
  have t0 := Two.new w4 27 (.int .i64 C) (.slice A0 N d0)
  have o00 := o0.alloc (.cells #[.int .i64 C, .slice A0 N d0] 27)
  clear k1 b1 k2 b2 k3 b3
  go_wp2_with fail
  refine (toByteS_any _ _ _ _ _ (h0.below B4) (by omega)).mono ?_
  rintro e w5 ⟨rfl, k5, b5⟩
  have B5 := ac B4 b5
  have s5 := b5.size
  replace t0 := t0.below b5 (by first | (simp; done) | (simp; omega) | omega)
  replace o00 := o00.below b5 (Nat.le_refl _)
  rw [World.size_alloc] at s5 k5
  have lt5 := k5.lt
  go_wp2_with fail
  refine (toByteS_any _ _ _ _ _ (h1.below B5) (by omega)).mono ?_
  rintro e w6 ⟨rfl, k6, b6⟩
  have B6 := ac B5 b6
  have s6 := b6.size
  replace t0 := t0.below b6 (by first | (simp; done) | (simp; omega) | omega)
  replace o00 := o00.below b6 (Nat.le_refl _)
  replace k5 := k5.below b6 k5.lt
  have lt6 := k6.lt
  go_wp2_with fail
  refine (toByteS_any _ _ _ _ _ (h2.below B6) (by omega)).mono ?_
  rintro e w7 ⟨rfl, k7, b7⟩
  have B7 := ac B6 b7
  have s7 := b7.size
  replace t0 := t0.below b7 (by first | (simp; done) | (simp; omega) | omega)
  replace o00 := o00.below b7 (Nat.le_refl _)
  replace k5 := k5.below b7 k5.lt
  replace k6 := k6.below b7 k6.lt
  have lt7 := k7.lt
  have T1 := hkeep _ _ B7 hP
  go_wp2_with fail
  refine (Gi.out _ _ _ _ T1 (k5.bsn e0 Y0.out) (k6.bsn e1 Y1.out) (k7.bsn e2 Y2.out)).mono ?_
  rintro e w8 ⟨⟨A1, d1, rfl, o1⟩, b8⟩
  have s8 := b8.size
  replace t0 := t0.below b8 (by first | (simp; done) | (simp; omega) | omega)
  replace o00 := o00.below b8 (Nat.le_refl _)
  replace k5 := k5.below b8 k5.lt
  replace k6 := k6.below b8 k6.lt
  replace k7 := k7.below b8 k7.lt
  have B8 := ac B7 b8
  obtain ⟨q0, q1, q2, q3⟩ := t0.cells
  have zlt : w4.heap.size < w8.heap.size := by omega
  have otop := o1.top
  go_wp2_with fail
  refine (eqBytesResult_any _ _ _ _ _ _ _ _ _ _ _ (o1.alloc _).bs (o00.alloc _).bs (by omega) (by omega)).mono ?_
  rintro e w9 ⟨rfl, b9⟩
  clear q0 q1 q2 q3
  have s9 := b9.size
  rw [World.size_alloc] at s9
  have g1 := (Two.new w8 27 (.int .i64 C) (.slice A1 N d1)).below b9 (by simp)
  replace t0 := (t0.alloc (.cells #[.int .i64 C, .slice A1 N d1] 27) (by omega)).below b9 (by simp; omega)
  replace o1 := (o1.alloc (.cells #[.int .i64 C, .slice A1 N d1] 27)).below b9 (Nat.le_refl _)
  replace o00 := (o00.alloc (.cells #[.int .i64 C, .slice A1 N d1] 27)).below b9 (Nat.le_refl _)
  replace k5 := (k5.alloc (.cells #[.int .i64 C, .slice A1 N d1] 27)).below b9 (by have := k5.lt; simp; omega)
  replace k6 := (k6.alloc (.cells #[.int .i64 C, .slice A1 N d1] 27)).below b9 (by have := k6.lt; simp; omega)
  replace k7 := (k7.alloc (.cells #[.int .i64 C, .slice A1 N d1] 27)).below b9 (by have := k7.lt; simp; omega)
  have B9 := ac (ab B8 (.cells #[.int .i64 C, .slice A1 N d1] 27)) b9
  go_wp2_with fail
  refine (toByteS_any _ _ _ _ _ (h0.below B9) (by omega)).mono ?_
  rintro e w10 ⟨rfl, k10, b10⟩
  have B10 := ac B9 b10
  have s10 := b10.size
  replace t0 := t0.below b10 (by omega)
  replace o00 := o00.below b10 (Nat.le_refl _)
  replace g1 := g1.below b10 (by omega)
  replace o1 := o1.below b10 (Nat.le_refl _)
  replace k5 := k5.below b10 k5.lt
  replace k6 := k6.below b10 k6.lt
  replace k7 := k7.below b10 k7.lt
  go_wp2_with fail
  refine (eqByteS_any _ _ _ _ _ _ _ _ _ (k5.bsn e0 Y0.out) (k10.bsn e0 Y0.out) (by omega) (by omega)).mono ?_
  rintro e u11 ⟨rfl, q11, rfl⟩
  replace B10 := ad B10 q11
  replace t0 : Two (w10.drewN q11) _ _ _ _ := t0
  replace o00 := o00.drewN q11
  replace g1 : Two (w10.drewN q11) _ _ _ _ := g1
  replace o1 := o1.drewN q11
  replace k5 := k5.drewN q11
  replace k6 := k6.drewN q11
  replace k7 := k7.drewN q11
  clear k10 b10
  have su11 : (w10.drewN q11).heap.size = w10.heap.size := rfl
  generalize w10.drewN q11 = u11 at *
  go_wp2_with fail
  refine (toByteS_any _ _ _ _ _ (h1.below B10) (by omega)).mono ?_
  rintro e w12 ⟨rfl, k12, b12⟩
  have B12 := ac B10 b12
  have s12 := b12.size
  replace t0 := t0.below b12 (by omega)
  replace o00 := o00.below b12 (Nat.le_refl _)
  replace g1 := g1.below b12 (by omega)
  replace o1 := o1.below b12 (Nat.le_refl _)
  replace k5 := k5.below b12 k5.lt
  replace k6 := k6.below b12 k6.lt
  replace k7 := k7.below b12 k7.lt
  rw [su11] at k12
  go_wp2_with fail
  refine (eqByteS_any _ _ _ _ _ _ _ _ _ (k6.bsn e1 Y1.out) (k12.bsn e1 Y1.out) (by omega) (by omega)).mono ?_
  rintro e u13 ⟨rfl, q13, rfl⟩
  replace B12 := ad B12 q13
  replace t0 : Two (w12.drewN q13) _ _ _ _ := t0
  replace o00 := o00.drewN q13
  replace g1 : Two (w12.drewN q13) _ _ _ _ := g1
  replace o1 := o1.drewN q13
  replace k5 := k5.drewN q13
  replace k6 := k6.drewN q13
  replace k7 := k7.drewN q13
  clear k12 b12
  have su13 : (w12.drewN q13).heap.size = w12.heap.size := rfl
  generalize w12.drewN q13 = u13 at *
  go_wp2_with fail
  refine (toByteS_any _ _ _ _ _ (h2.below B12) (by omega)).mono ?_
  rintro e w14 ⟨rfl, k14, b14⟩
  have B14 := ac B12 b14
  have s14 := b14.size
  replace t0 := t0.below b14 (by omega)
  replace o00 := o00.below b14 (Nat.le_refl _)
  replace g1 := g1.below b14 (by omega)
  replace o1 := o1.below b14 (Nat.le_refl _)
  replace k5 := k5.below b14 k5.lt
  replace k6 := k6.below b14 k6.lt
  replace k7 := k7.below b14 k7.lt
  rw [su13] at k14
  go_wp2_with fail
  refine (eqByteS_any _ _ _ _ _ _ _ _ _ (k7.bsn e2 Y2.out) (k14.bsn e2 Y2.out) (by omega) (by omega)).mono ?_
  rintro e u15 ⟨rfl, q15, rfl⟩
  replace B14 := ad B14 q15
  replace t0 : Two (w14.drewN q15) _ _ _ _ := t0
  replace o00 := o00.drewN q15
  replace g1 : Two (w14.drewN q15) _ _ _ _ := g1
  replace o1 := o1.drewN q15
  replace k5 := k5.drewN q15
  replace k6 := k6.drewN q15
  replace k7 := k7.drewN q15
  clear k14 b14
  have su15 : (w14.drewN q15).heap.size = w14.heap.size := rfl
  generalize w14.drewN q15 = u15 at *
  go_wp2_with fail
  refine (markByteS_any _ _ _ _ _ _ _ (k5.own e0 Y0.out) (by omega) (by omega) (by omega)).mono ?_
  rintro e v16 ⟨rfl, _, on16⟩
  have s16 := on16.size
  have bo16 := on16.below (B := w4.heap.size + 1) (fun _ a ha => by injection ha with ha; subst ha; exact Nat.le_refl _)
  replace t0 := t0.below bo16 (by omega)
  replace o00 := o00.under bo16 (fun hp a ha => by have := o0.top hp a ha; omega)
  replace g1 := g1.only on16 (fun _ a ha => by injection ha with ha; subst ha; simp; omega)
  replace o1 := o1.only on16 (fun _ a ha => by injection ha with ha; subst ha; simp; omega)
  replace k6 := k6.only on16 (fun _ a ha => by injection ha with ha; subst ha; simp; omega)
  replace k7 := k7.only on16 (fun _ a ha => by injection ha with ha; subst ha; simp; omega)
  replace B14 := B14.trans (bo16.mono (by omega))
  go_wp2_with fail
  refine (markByteS_any _ _ _ _ _ _ _ (k6.own e1 Y1.out) (by omega) (by omega) (by omega)).mono ?_
  rintro e v17 ⟨rfl, _, on17⟩
  have s17 := on17.size
  have bo17 := on17.below (B := w5.heap.size) (fun _ a ha => by injection ha with ha; subst ha; exact Nat.le_refl _)
  replace t0 := t0.below bo17 (by omega)
  replace o00 := o00.under bo17 (fun hp a ha => by have := o0.top hp a ha; omega)
  replace g1 := g1.only on17 (fun _ a ha => by injection ha with ha; subst ha; simp; omega)
  replace o1 := o1.only on17 (fun _ a ha => by injection ha with ha; subst ha; simp; omega)
  replace k7 := k7.only on17 (fun _ a ha => by injection ha with ha; subst ha; simp; omega)
  replace B14 := B14.trans (bo17.mono (by omega))
  go_wp2_with fail
  refine (markByteS_any _ _ _ _ _ _ _ (k7.own e2 Y2.out) (by omega) (by omega) (by omega)).mono ?_
  rintro e v18 ⟨rfl, _, on18⟩
  have s18 := on18.size
  have bo18 := on18.below (B := w6.heap.size) (fun _ a ha => by injection ha with ha; subst ha; exact Nat.le_refl _)
  replace t0 := t0.below bo18 (by omega)
  replace o00 := o00.under bo18 (fun hp a ha => by have := o0.top hp a ha; omega)
  replace g1 := g1.only on18 (fun _ a ha => by injection ha with ha; subst ha; simp; omega)
  replace o1 := o1.only on18 (fun _ a ha => by injection ha with ha; subst ha; simp; omega)
  replace B14 := B14.trans (bo18.mono (by omega))
  obtain ⟨q0, q1, q2, q3⟩ := t0.cells
  obtain ⟨y0, y1, y2, y3⟩ := g1.cells
  go_wp2_with fail
  refine (eqBytesResult_any _ _ _ _ _ _ _ _ _ _ _ o1.bs o00.bs (by omega) (by omega)).mono ?_
  rintro e v19 ⟨rfl, b19⟩
  have s19 := b19.size
  clear q0 q1 q2 q3 y0 y1 y2 y3
  replace t0 := t0.below b19 (by omega)
  replace g1 := g1.below b19 (by omega)
  replace o1 := o1.below b19 (Nat.le_refl _)
  replace o00 := o00.below b19 (Nat.le_refl _)
  replace B14 := ac B14 b19
  obtain ⟨y0, y1, y2, y3⟩ := g1.cells
  go_wp2_with fail
  refine (markBytesResult_any _ _ _ _ _ _ _ _ o1 (by omega) (by omega) (by omega)).mono ?_
  rintro e v20 ⟨rfl, o2, wm, on20, bm⟩
  clear y0 y1 y2 y3
  have sm := bm.size
  have s20 := on20.size
  have bo : Below w7.heap.size wm v20 := on20.below (fun hp a ha => o1.base hp a ha)
  replace g1 := (g1.below bm (by omega)).only on20 (fun hp a ha => by have := otop hp a ha; omega)
  replace t0 := (t0.below bm (by omega)).below bo (by omega)
  replace o00 := (o00.below bm (Nat.le_refl _)).under bo (fun hp a ha => by have := o0.top hp a ha; omega)
  replace B14 := (ac B14 bm).trans (bo.mono (by omega))
  obtain ⟨y0, y1, y2, y3⟩ := g1.cells
  go_wp2_with fail
  refine (heldBytesResult_any _ _ _ _ _ _ o2.bs (by omega) (by omega) (by omega)).mono ?_
  rintro e v21 ⟨rfl, b21⟩
  clear y0 y1 y2 y3
  have s21 := b21.size
  replace t0 := t0.below b21 (by omega)
  replace o00 := o00.below b21 (Nat.le_refl _)
  replace g1 := g1.below b21 (by omega)
  replace o2 := o2.below b21 (Nat.le_refl _)
  have B21 := ac B14 b21
  go_wp2_with fail
  refine (toByteS_any _ _ _ _ _ (h0.below B21) (by omega)).mono ?_
  rintro e w22 ⟨rfl, k22, b22⟩
  have B22 := ac B21 b22
  have s22 := b22.size
  replace t0 := t0.below b22 (by omega)
  replace o00 := o00.below b22 (Nat.le_refl _)
  replace g1 := g1.below b22 (by omega)
  replace o2 := o2.below b22 (Nat.le_refl _)
  go_wp2_with fail
  refine (toByteS_any _ _ _ _ _ (h1.below B22) (by omega)).mono ?_
  rintro e w23 ⟨rfl, k23, b23⟩
  have B23 := ac B22 b23
  have s23 := b23.size
  replace t0 := t0.below b23 (by omega)
  replace o00 := o00.below b23 (Nat.le_refl _)
  replace g1 := g1.below b23 (by omega)
  replace o2 := o2.below b23 (Nat.le_refl _)
  replace k22 := k22.below b23 k22.lt
  go_wp2_with fail
  refine (toByteS_any _ _ _ _ _ (h2.below B23) (by omega)).mono ?_
  rintro e w24 ⟨rfl, k24, b24⟩
  have B24 := ac B23 b24
  have s24 := b24.size
  replace t0 := t0.below b24 (by omega)
  replace o00 := o00.below b24 (Nat.le_refl _)
  replace g1 := g1.below b24 (by omega)
  replace o2 := o2.below b24 (Nat.le_refl _)
  replace k22 := k22.below b24 k22.lt
  replace k23 := k23.below b24 k23.lt
  have T2 := hkeep _ _ B24 hP
  go_wp2_with fail
  refine (Gi.out _ _ _ _ T2 (k22.bsn e0 Y0.out) (k23.bsn e1 Y1.out) (k24.bsn e2 Y2.out)).mono ?_
  rintro e w25 ⟨⟨A2, d2, rfl, o3⟩, b25⟩
  have s25 := b25.size
  replace t0 := t0.below b25 (by omega)
  replace o00 := o00.below b25 (Nat.le_refl _)
  replace g1 := g1.below b25 (by omega)
  replace o2 := o2.below b25 (Nat.le_refl _)
  have B25 := ac B24 b25
  obtain ⟨q0, q1, q2, q3⟩ := t0.cells
  have zl2 : w4.heap.size < w25.heap.size := by omega
  go_wp2_with fail
  refine (eqBytesResult_any _ _ _ _ _ _ _ _ _ _ _ (o3.alloc _).bs (o00.alloc _).bs (by omega) (by omega)).mono ?_
  rintro e w26 ⟨rfl, b26⟩
  clear q0 q1 q2 q3
  replace g1 := (g1.alloc (.cells #[.int .i64 C, .slice A2 N d2] 27) (by omega)).below b26 (by simp; omega)
  replace o2 := (o2.alloc (.cells #[.int .i64 C, .slice A2 N d2] 27)).below b26 (Nat.le_refl _)
  obtain ⟨y0, y1, y2, y3⟩ := g1.cells
  go_wp2_with fail
  refine (heldBytesResult_any _ _ _ _ _ _ o2.bs (by omega) (by omega) (by omega)).mono ?_
  rintro e w27 ⟨rfl, b27⟩
  go_wp2
  go_ret
  exact ⟨rfl, ac (ac (ab B25 _) b26) b27⟩

theorem exactStreamXor_all (k : Int) (a0 : Option Addr) (n0 c0 : Nat) (l0 : List Int) (a1 : Option Addr) (n1 c1 : Nat) (l1 : List Int) (a2 : Option Addr) (n2 c2 : Nat) (l2 : List Int) (w : World) (h0 : Bs w a0 n0 l0) (h1 : Bs w a1 n1 l1) (h2 : Bs w a2 n2 l2) (P : World → Prop) (hP : P w) (hkeep : ∀ W W' : World, Below W.heap.size W W' → P W → P W') (Gi : Shut (∀ (g0 g1 g2 : Nat) (W : World) (_ : P W) (_ : Bs W (some ⟨g0, 0, none⟩) n0 l0) (_ : Bs W (some ⟨g1, 0, none⟩) n1 l1) (_ : Bs W (some ⟨g2, 0, none⟩) n2 l2), Calls Tryd.prog 11 #[.slice (some ⟨g0, 0, none⟩) n0 n0, .int .i64 k, .slice (some ⟨g1, 0, none⟩) n1 n1, .slice (some ⟨g2, 0, none⟩) n2 n2] W (BytesAns (askCode n0 k n1 (n2 : Int)) (okN (askCode n0 k n1 (n2 : Int)) n2) (okL (askCode n0 k n1 (n2 : Int)) (streamL l0 k l1 l2)) W))) :
    Calls Tryd.prog 6 #[.slice a0 n0 c0, .int .i64 k, .slice a1 n1 c1, .slice a2 n2 c2] w fun e w' => e = .returned (.bool true) ∧ Below w.heap.size w w' := by
  by_cases hl0 : n0 ≤ 1048576
  · by_cases hl1 : n1 ≤ 1048576
    · by_cases hl2 : n2 ≤ 1048576
      · exact exactStreamXor_walk k a0 n0 c0 l0 a1 n1 c1 l1 a2 n2 c2 l2 w h0 h1 h2 hl0 hl1 hl2 P hP hkeep Gi
      · clear Gi hkeep
        go_enter Tryd.func6, Tryd.ntmps6
        go_wp2
        go_ret
        exact ⟨rfl, Below.refl _ _⟩
    · clear Gi hkeep
      go_enter Tryd.func6, Tryd.ntmps6
      go_wp2
      go_ret
      exact ⟨rfl, Below.refl _ _⟩
  · clear Gi hkeep
    go_enter Tryd.func6, Tryd.ntmps6
    go_wp2
    go_ret
    exact ⟨rfl, Below.refl _ _⟩
end Go.Proofs.YtcanmhlhnihijaaDoor
