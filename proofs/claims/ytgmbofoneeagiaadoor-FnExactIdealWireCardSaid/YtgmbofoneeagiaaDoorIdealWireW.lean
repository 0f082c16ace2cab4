/- The walk of the exact law of IdealWire. -/
import Derived.Test.YtgmbofoneeagiaaDoorIdlP
namespace Go.Proofs.YtgmbofoneeagiaaDoor
open Go.RowKit

set_option maxHeartbeats 2000000 in
theorem exactIdealWire_walk (k kb : Int) (a0 : Option Addr) (n0 c0 : Nat) (l0 : List Int) (w : World) (h0 : Bs w a0 n0 l0) (hl0 : n0 ≤ 1048576) (P : World → Prop) (hP : P w) (hkeep : ∀ W W' : World, Below W.heap.size W W' → P W → P W') (Gi : Shut (∀ (g0 : Nat) (W : World) (_ : P W) (_ : Bs W (some ⟨g0, 0, none⟩) n0 l0), Calls Tryd.prog 6 #[.slice (some ⟨g0, 0, none⟩) n0 n0, .int .i64 k, .int .i64 kb] W (BytesAns (idlC n0 k kb) (idlN (idlC n0 k kb)) (idlL (idlC n0 k kb) (idealL l0 k kb)) W))) :
    Calls Tryd.prog 3 #[.slice a0 n0 c0, .int .i64 k, .int .i64 kb] w fun e w' => e = .returned (.bool true) ∧ Below w.heap.size w w' := by
  have hsm := idlN_le (idlC n0 k kb)
  have Hspec : ∀ (g0 : Nat) (W : World) (k0 : Bs W (some ⟨g0, 0, none⟩) n0 l0), Calls Tryd.prog 4 #[.slice (some ⟨g0, 0, none⟩) n0 n0, .int .i64 k, .int .i64 kb] W (BytesAns (idlC n0 k kb) (idlN (idlC n0 k kb)) (idlL (idlC n0 k kb) (idealL l0 k kb)) W) := fun g0 W k0 => specIdealWire_any _ _ _ _ k kb W k0 (fun e => by cases e)
  generalize idlL (idlC n0 k kb) (idealL l0 k kb) = L at *
  generalize idlN (idlC n0 k kb) = N at *
  generalize idlC n0 k kb = C at *
  have Gs := Shut.mk Hspec
  have Y0 := Shut.mk h0.len
  have e0 := h0.byte
  clear Hspec
  go_enter Tryd.func3, Tryd.ntmps3
  go_wp2_with fail
  refine (toByteS_any _ _ _ _ _ h0 (by omega)).mono ?_
  rintro e w1 ⟨rfl, k1, b1⟩
  have B1 := ac (Below.refl _ w) b1
  have s1 := b1.size
  go_wp2_with fail
  refine (Gs.out _ _ (k1.bsn e0 Y0.out)).mono ?_
  rintro e w2 ⟨⟨A0, d0, rfl, o0⟩, b2⟩
  have s2 := b2.size
  have B2 := ab (ac B1 b2) (.cells #[.int .i64 C, .slice A0 N d0] 24)
  have z0 := B2.size
  rw [World.size_alloc] at z0
  have t0 := Two.new w2 24 (.int .i64 C) (.slice A0 N d0)
  have o00 := o0.alloc (.cells #[.int .i64 C, .slice A0 N d0] 24)
  clear k1 b1
  go_wp2_with fail
  refine (toByteS_any _ _ _ _ _ (h0.below B2) (by omega)).mono ?_
  rintro e w3 ⟨rfl, k3, b3⟩
  have B3 := ac B2 b3
  have s3 := b3.size
  replace t0 := t0.below b3 (by first | (simp; done) | (simp; omega) | omega)
  replace o00 := o00.below b3 (Nat.le_refl _)
  rw [World.size_alloc] at s3 k3
  have lt3 := k3.lt
  have T1 := hkeep _ _ B3 hP
  go_wp2_with fail
  refine (Gi.out _ _ T1 (k3.bsn e0 Y0.out)).mono ?_
  rintro e w4 ⟨⟨A1, d1, rfl, o1⟩, b4⟩
  have s4 := b4.size
  replace t0 := t0.below b4 (by first | (simp; done) | (simp; omega) | omega)
  replace o00 := o00.below b4 (Nat.le_refl _)
  replace k3 := k3.below b4 k3.lt
  have B4 := ac B3 b4
  obtain ⟨q0, q1, q2, q3⟩ := t0.cells
  have zlt : w2.heap.size < w4.heap.size := by omega
  have otop := o1.top
  go_wp2_with fail
  refine (eqBytesResult_any _ _ _ _ _ _ _ _ _ _ _ (o1.alloc _).bs (o00.alloc _).bs (by omega) (by omega)).mono ?_
  rintro e w5 ⟨rfl, b5⟩
  clear q0 q1 q2 q3
  have s5 := b5.size
  rw [World.size_alloc] at s5
  have g1 := (Two.new w4 24 (.int .i64 C) (.slice A1 N d1)).below b5 (by simp)
  replace t0 := (t0.alloc (.cells #[.int .i64 C, .slice A1 N d1] 24) (by omega)).below b5 (by simp; omega)
  replace o1 := (o1.alloc (.cells #[.int .i64 C, .slice A1 N d1] 24)).below b5 (Nat.le_refl _)
  replace o00 := (o00.alloc (.cells #[.int .i64 C, .slice A1 N d1] 24)).below b5 (Nat.le_refl _)
  replace k3 := (k3.alloc (.cells #[.int .i64 C, .slice A1 N d1] 24)).below b5 (by have := k3.lt; simp; omega)
  have B5 := ac (ab B4 (.cells #[.int .i64 C, .slice A1 N d1] 24)) b5
  go_wp2_with fail
  refine (toByteS_any _ _ _ _ _ (h0.below B5) (by omega)).mono ?_
  rintro e w6 ⟨rfl, k6, b6⟩
  have B6 := ac B5 b6
  have s6 := b6.size
  replace t0 := t0.below b6 (by omega)
  replace o00 := o00.below b6 (Nat.le_refl _)
  replace g1 := g1.below b6 (by omega)
  replace o1 := o1.below b6 (Nat.le_refl _)
  replace k3 := k3.below b6 k3.lt
  go_wp2_with fail
  refine (eqByteS_any _ _ _ _ _ _ _ _ _ (k3.bsn e0 Y0.out) (k6.bsn e0 Y0.out) (by omega) (by omega)).mono ?_
  rintro e u7 ⟨rfl, q7, rfl⟩
  replace B6 := ad B6 q7
  replace t0 : Two (w6.drewN q7) _ _ _ _ := t0
  replace o00 := o00.drewN q7
  replace g1 : Two (w6.drewN q7) _ _ _ _ := g1
  replace o1 := o1.drewN q7
  replace k3 := k3.drewN q7
  clear k6 b6
  have su7 : (w6.drewN q7).heap.size = w6.heap.size := rfl
  generalize w6.drewN q7 = u7 at *
  go_wp2_with fail
  refine (markByteS_any _ _ _ _ _ _ _ (k3.own e0 Y0.out) (by omega) (by omega) (by omega)).mono ?_
  rintro e v8 ⟨rfl, _, on8⟩
  have s8 := on8.size
  have bo8 := on8.below (B := w2.heap.size + 1) (fun _ a ha => by injection ha with ha; subst ha; exact Nat.le_refl _)
  replace t0 := t0.below bo8 (by omega)
  replace o00 := o00.under bo8 (fun hp a ha => by have := o0.top hp a ha; omega)
  replace g1 := g1.only on8 (fun _ a ha => by injection ha with ha; subst ha; simp; omega)
  replace o1 := o1.only on8 (fun _ a ha => by injection ha with ha; subst ha; simp; omega)
  replace B6 := B6.trans (bo8.mono (by omega))
  obtain ⟨q0, q1, q2, q3⟩ := t0.cells
  obtain ⟨y0, y1, y2, y3⟩ := g1.cells
  go_wp2_with fail
  refine (eqBytesResult_any _ _ _ _ _ _ _ _ _ _ _ o1.bs o00.bs (by omega) (by omega)).mono ?_
  rintro e v9 ⟨rfl, b9⟩
  have s9 := b9.size
  clear q0 q1 q2 q3 y0 y1 y2 y3
  replace t0 := t0.below b9 (by omega)
  replace g1 := g1.below b9 (by omega)
  replace o1 := o1.below b9 (Nat.le_refl _)
  replace o00 := o00.below b9 (Nat.le_refl _)
  replace B6 := ac B6 b9
  obtain ⟨y0, y1, y2, y3⟩ := g1.cells
  go_wp2_with fail
  refine (markBytesResult_any _ _ _ _ _ _ _ _ o1 (by omega) (by omega) (by omega)).mono ?_
  rintro e v10 ⟨rfl, o2, wm, on10, bm⟩
  clear y0 y1 y2 y3
  have sm := bm.size
  have s10 := on10.size
  have bo : Below w3.heap.size wm v10 := on10.below (fun hp a ha => o1.base hp a ha)
  replace g1 := (g1.below bm (by omega)).only on10 (fun hp a ha => by have := otop hp a ha; omega)
  replace t0 := (t0.below bm (by omega)).below bo (by omega)
  replace o00 := (o00.below bm (Nat.le_refl _)).under bo (fun hp a ha => by have := o0.top hp a ha; omega)
  replace B6 := (ac B6 bm).trans (bo.mono (by omega))
  obtain ⟨y0, y1, y2, y3⟩ := g1.cells
  go_wp2_with fail
  refine (heldBytesResult_any _ _ _ _ _ _ o2.bs (by omega) (by omega) (by omega)).mono ?_
  rintro e v11 ⟨rfl, b11⟩
  clear y0 y1 y2 y3
  have s11 := b11.size
  replace t0 := t0.below b11 (by omega)
  replace o00 := o00.below b11 (Nat.le_refl _)
  replace g1 := g1.below b11 (by omega)
  replace o2 := o2.below b11 (Nat.le_refl _)
  have B11 := ac B6 b11
  go_wp2_with fail
  refine (toByteS_any _ _ _ _ _ (h0.below B11) (by omega)).mono ?_
  rintro e w12 ⟨rfl, k12, b12⟩
  have B12 := ac B11 b12
  have s12 := b12.size
  replace t0 := t0.below b12 (by omega)
  replace o00 := o00.below b12 (Nat.le_refl _)
  replace g1 := g1.below b12 (by omega)
  replace o2 := o2.below b12 (Nat.le_refl _)
  have T2 := hkeep _ _ B12 hP
  go_wp2_with fail
  refine (Gi.out _ _ T2 (k12.bsn e0 Y0.out)).mono ?_
  rintro e w13 ⟨⟨A2, d2, rfl, o3⟩, b13⟩
  have s13 := b13.size
  replace t0 := t0.below b13 (by omega)
  replace o00 := o00.below b13 (Nat.le_refl _)
  replace g1 := g1.below b13 (by omega)
  replace o2 := o2.below b13 (Nat.le_refl _)
  have B13 := ac B12 b13
  obtain ⟨q0, q1, q2, q3⟩ := t0.cells
  have zl2 : w2.heap.size < w13.heap.size := by omega
  go_wp2_with fail
  refine (eqBytesResult_any _ _ _ _ _ _ _ _ _ _ _ (o3.alloc _).bs (o00.alloc _).bs (by omega) (by omega)).mono ?_
  rintro e w14 ⟨rfl, b14⟩
  clear q0 q1 q2 q3
  replace g1 := (g1.alloc (.cells #[.int .i64 C, .slice A2 N d2] 24) (by omega)).below b14 (by simp; omega)
  replace o2 := (o2.alloc (.cells #[.int .i64 C, .slice A2 N d2] 24)).below b14 (Nat.le_refl _)
  obtain ⟨y0, y1, y2, y3⟩ := g1.cells
  go_wp2_with fail
  refine (heldBytesResult_any _ _ _ _ _ _ o2.bs (by omega) (by omega) (by omega)).mono ?_
  rintro e w15 ⟨rfl, b15⟩
  go_wp2
  go_ret
  exact ⟨rfl, ac (ac (ab B13 _) b14) b15⟩

theorem exactIdealWire_all (k kb : Int) (a0 : Option Addr) (n0 c0 : Nat) (l0 : List Int) (w : World) (h0 : Bs w a0 n0 l0) (P : World → Prop) (hP : P w) (hkeep : ∀ W W' : World, Below W.heap.size W W' → P W → P W') (Gi : Shut (∀ (g0 : Nat) (W : World) (_ : P W) (_ : Bs W (some ⟨g0, 0, none⟩) n0 l0), Calls Tryd.prog 6 #[.slice (some ⟨g0, 0, none⟩) n0 n0, .int .i64 k, .int .i64 kb] W (BytesAns (idlC n0 k kb) (idlN (idlC n0 k kb)) (idlL (idlC n0 k kb) (idealL l0 k kb)) W))) :
    Calls Tryd.prog 3 #[.slice a0 n0 c0, .int .i64 k, .int .i64 kb] w fun e w' => e = .returned (.bool true) ∧ Below w.heap.size w w' := by
  by_cases hl0 : n0 ≤ 1048576
  · exact exactIdealWire_walk k kb a0 n0 c0 l0 w h0 hl0 P hP hkeep Gi
  · clear Gi hkeep
    go_enter Tryd.func3, Tryd.ntmps3
    go_wp2
    go_ret
    exact ⟨rfl, Below.refl _ _⟩
end Go.Proofs.YtgmbofoneeagiaaDoor
