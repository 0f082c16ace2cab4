/- The walk of the exact law of PublicOf. -/
import Derived.Test.YtgmmoilgmaklgaaPubC
namespace Go.Proofs.Ytgmmoilgmaklgaa
open Go.RowKit

set_option maxHeartbeats 2000000 in
theorem exactPublicOf_walk (k : Int)  (w : World)   (P : World → Prop) (hP : P w) (hkeep : ∀ W W' : World, Below W.heap.size W W' → P W → P W') (Gi : Shut (∀  (W : World) (_ : P W) , Calls Try.prog 15 #[.int .i64 k] W (BytesAns (pubC k) (eight (pubC k)) (eightL (pubC k) (pubX k)) W))) :
    Calls Try.prog 6 #[.int .i64 k] w fun e w' => e = .returned (.bool true) ∧ Below w.heap.size w w' := by
  have hsm := eight_le (pubC k)
  have Hspec : ∀  (W : World) , Calls Try.prog 23 #[.int .i64 k] W (BytesAns (pubC k) (eight (pubC k)) (eightL (pubC k) (pubX k)) W) := fun  W  => specPublicOf_any k W
  generalize eightL (pubC k) (pubX k) = L at *
  generalize eight (pubC k) = N at *
  generalize pubC k = C at *
  have Gs := Shut.mk Hspec
  clear Hspec
  go_enter Try.func6, Try.ntmps6
  go_wp2_with fail
  refine (Gs.out  _ ).mono ?_
  rintro e w1 ⟨⟨A0, d0, rfl, o0⟩, b1⟩
  have s1 := b1.size
  have B1 := ab (ac (Below.refl _ w) b1) (.cells #[.int .i64 C, .slice A0 N d0] 31)
  have z0 := B1.size
  rw [World.size_alloc] at z0
  have t0 := Two.new w1 31 (.int .i64 C) (.slice A0 N d0)
  have o00 := o0.alloc (.cells #[.int .i64 C, .slice A0 N d0] 31)
  have T1 := hkeep _ _ B1 hP
  go_wp2_with fail
  refine (Gi.out  _ T1 ).mono ?_
  rintro e w2 ⟨⟨A1, d1, rfl, o1⟩, b2⟩
  have s2 := b2.size
  rw [World.size_alloc] at s2
  replace t0 := t0.below b2 (by first | (simp; done) | (simp; omega) | omega)
  replace o00 := o00.below b2 (Nat.le_refl _)
  have B2 := ac B1 b2
  obtain ⟨q0, q1, q2, q3⟩ := t0.cells
  have zlt : w1.heap.size < w2.heap.size := by omega
  have otop := o1.top
  go_wp2_with fail
  refine (eqBytesResult_any _ _ _ _ _ _ _ _ _ _ _ (o1.alloc _).bs (o00.alloc _).bs (by omega) (by omega)).mono ?_
  rintro e w3 ⟨rfl, b3⟩
  clear q0 q1 q2 q3
  have s3 := b3.size
  rw [World.size_alloc] at s3
  have g1 := (Two.new w2 31 (.int .i64 C) (.slice A1 N d1)).below b3 (by simp)
  replace t0 := (t0.alloc (.cells #[.int .i64 C, .slice A1 N d1] 31) (by omega)).below b3 (by simp; omega)
  replace o1 := (o1.alloc (.cells #[.int .i64 C, .slice A1 N d1] 31)).below b3 (Nat.le_refl _)
  replace o00 := (o00.alloc (.cells #[.int .i64 C, .slice A1 N d1] 31)).below b3 (Nat.le_refl _)
  have B3 := ac (ab B2 (.cells #[.int .i64 C, .slice A1 N d1] 31)) b3
  obtain ⟨y0, y1, y2, y3⟩ := g1.cells
  go_wp2_with fail
  refine (markBytesResult_any _ _ _ _ _ _ _ _ o1 (by omega) (by omega) (by omega)).mono ?_
  rintro e v5 ⟨rfl, o2, wm, on5, bm⟩
  clear y0 y1 y2 y3
  have sm := bm.size
  have s5 := on5.size
  have bo : Below (w1.alloc (.cells #[.int .i64 C, .slice A0 N d0] 31)).heap.size wm v5 := on5.below (fun hp a ha => o1.base hp a ha)
  rw [World.size_alloc] at bo
  replace g1 := (g1.below bm (by omega)).only on5 (fun hp a ha => by have := otop hp a ha; omega)
  replace t0 := (t0.below bm (by omega)).below bo (by omega)
  replace o00 := (o00.below bm (Nat.le_refl _)).under bo (fun hp a ha => by have := o0.top hp a ha; omega)
  replace B3 := (ac B3 bm).trans (bo.mono (by omega))
  obtain ⟨y0, y1, y2, y3⟩ := g1.cells
  go_wp2_with fail
  refine (heldBytesResult_any _ _ _ _ _ _ o2.bs (by omega) (by omega) (by omega)).mono ?_
  rintro e v6 ⟨rfl, b6⟩
  clear y0 y1 y2 y3
  have s6 := b6.size
  replace t0 := t0.below b6 (by omega)
  replace o00 := o00.below b6 (Nat.le_refl _)
  replace g1 := g1.below b6 (by omega)
  replace o2 := o2.below b6 (Nat.le_refl _)
  have B6 := ac B3 b6
  have T2 := hkeep _ _ B6 hP
  go_wp2_with fail
  refine (Gi.out  _ T2 ).mono ?_
  rintro e w7 ⟨⟨A2, d2, rfl, o3⟩, b7⟩
  have s7 := b7.size
  replace t0 := t0.below b7 (by omega)
  replace o00 := o00.below b7 (Nat.le_refl _)
  replace g1 := g1.below b7 (by omega)
  replace o2 := o2.below b7 (Nat.le_refl _)
  have B7 := ac B6 b7
  obtain ⟨q0, q1, q2, q3⟩ := t0.cells
  have zl2 : w1.heap.size < w7.heap.size := by omega
  go_wp2_with fail
  refine (eqBytesResult_any _ _ _ _ _ _ _ _ _ _ _ (o3.alloc _).bs (o00.alloc _).bs (by omega) (by omega)).mono ?_
  rintro e w8 ⟨rfl, b8⟩
  clear q0 q1 q2 q3
  replace g1 := (g1.alloc (.cells #[.int .i64 C, .slice A2 N d2] 31) (by omega)).below b8 (by simp; omega)
  replace o2 := (o2.alloc (.cells #[.int .i64 C, .slice A2 N d2] 31)).below b8 (Nat.le_refl _)
  obtain ⟨y0, y1, y2, y3⟩ := g1.cells
  go_wp2_with fail
  refine (heldBytesResult_any _ _ _ _ _ _ o2.bs (by omega) (by omega) (by omega)).mono ?_
  rintro e w9 ⟨rfl, b9⟩
  go_wp2
  go_ret
  exact ⟨rfl, ac (ac (ab B7 _) b8) b9⟩

theorem exactPublicOf_all (k : Int)  (w : World)  (P : World → Prop) (hP : P w) (hkeep : ∀ W W' : World, Below W.heap.size W W' → P W → P W') (Gi : Shut (∀  (W : World) (_ : P W) , Calls Try.prog 15 #[.int .i64 k] W (BytesAns (pubC k) (eight (pubC k)) (eightL (pubC k) (pubX k)) W))) :
    Calls Try.prog 6 #[.int .i64 k] w fun e w' => e = .returned (.bool true) ∧ Below w.heap.size w w' := by
  exact exactPublicOf_walk k w P hP hkeep Gi
end Go.Proofs.Ytgmmoilgmaklgaa
