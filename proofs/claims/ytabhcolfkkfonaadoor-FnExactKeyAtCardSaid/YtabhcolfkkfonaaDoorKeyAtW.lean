/- The walk of the exact law of KeyAt. -/
import Derived.Test.YtabhcolfkkfonaaDoorSymB
import Derived.Test.YtabhcolfkkfonaaDoorKeyC
import Derived.Test.YtabhcolfkkfonaaDoorKeysAns
import Derived.Test.YtabhcolfkkfonaaDoorHashFns2
import Derived.Deep.RegionHeld3
import Derived.Deep.CutRange
namespace Go.Proofs.YtabhcolfkkfonaaDoor
open Go.RowKit

set_option maxRecDepth 100000 in
set_option maxHeartbeats 4000000 in
theorem exactKeyAt_walk (k1 : Int) (a0_0 : Option Addr) (n0_0 c0_0 : Nat) (l0_0 : List Int) (w : World) (h0_0 : Bs w a0_0 n0_0 l0_0) (hd0 : n0_0 ≤ 1048576) (Z0 : Int) (N0 N1 : Nat) (L0 L1 : List Int) (hN0 : N0 ≤ 2000000) (hN1 : N1 ≤ 2000000) (P : World → Prop) (hP : P w) (hkeep : ∀ W W' : World, Below W.heap.size W W' → P W → P W') (Gs : Shut (∀ (g0_0 : Nat) (W : World) (_ : Bs W (some ⟨g0_0, 0, none⟩) n0_0 l0_0), Calls Tryd.prog 12 #[.slice (some ⟨g0_0, 0, none⟩) n0_0 n0_0, .int .i64 k1] W (fun e w' => (∃ A0 d0 A1 d1, e = .returned (.agg #[.int .i64 Z0, .slice A0 N0 d0, .slice A1 N1 d1]) ∧ Rs w' W.heap.size [(A0, N0, L0), (A1, N1, L1)]) ∧ Below W.heap.size W w'))) (Gi : Shut (∀ (g0_0 : Nat) (W : World) (_ : P W) (_ : Bs W (some ⟨g0_0, 0, none⟩) n0_0 l0_0), Calls Tryd.prog 8 #[.slice (some ⟨g0_0, 0, none⟩) n0_0 n0_0, .int .i64 k1] W (fun e w' => (∃ A0 d0 A1 d1, e = .returned (.agg #[.int .i64 Z0, .slice A0 N0 d0, .slice A1 N1 d1]) ∧ Rs w' W.heap.size [(A0, N0, L0), (A1, N1, L1)]) ∧ Below W.heap.size W w'))) :
    Calls Tryd.prog 5 #[.slice a0_0 n0_0 c0_0, .int .i64 k1] w fun e w' => e = .returned (.bool true) ∧ Below w.heap.size w w' := by
  have G0 := Shut.mk (fun W (b : Below w.heap.size w W) => toByteS_any a0_0 n0_0 c0_0 l0_0 W (h0_0.below b) (by omega))
  have e0_0 := h0_0.byte
  have Y0_0 := Shut.mk h0_0.len
  have f0_0 : n0_0 ≤ 1048576 := by omega
  have d0_0 : n0_0 ≤ 140737488351232 := by omega
  clear h0_0
  have B0 := Below.refl w.heap.size w
  go_enter Tryd.func5, Tryd.ntmps5
  go_wp2_with fail
  refine (G0.out _ B0).mono ?_
  rintro e w1 ⟨rfl, K1, b1⟩
  have z1 := b1.size
  have B1 := ac B0 b1
  clear b1 B0
  have M0 : Rs w1 (w.heap.size) [(some ⟨w.heap.size, 0, none⟩, n0_0, l0_0)] := Rs.cons (K1.own e0_0 Y0_0.out) (fun y hy => by cases hy) (Rs.nil _ _)
  clear K1
  go_wp2_with fail
  refine (Gs.out _ _ M0.head.bs).mono ?_
  rintro e w2 ⟨⟨A0, u0, A1, u1, rfl, R0⟩, b2⟩
  clear M0
  have z2 := b2.size
  have B2 := ac B1 b2
  clear b2 B1
  have tR0 := R0.tops
  have bR0 := R0.bases
  replace B2 := ab B2 (.cells #[.int .i64 Z0, .slice A0 N0 u0, .slice A1 N1 u1] 27)
  replace R0 := R0.alloc (.cells #[.int .i64 Z0, .slice A0 N0 u0, .slice A1 N1 u1] 27)
  have T0 := Stc.new w2 27 [.int .i64 Z0, .slice A0 N0 u0, .slice A1 N1 u1] _ rfl
  go_wp2_with fail
  refine (G0.out _ B2).mono ?_
  rintro e w3 ⟨rfl, K3, b3⟩
  simp only [World.size_alloc] at K3 ⊢
  have z3 := b3.size
  simp only [World.size_alloc] at z3
  replace R0 := R0.below b3 (Nat.le_refl _)
  replace T0 := T0.below b3 T0.lt
  have B3 := ac B2 b3
  clear b3 B2
  have X0 : Rs w3 (w2.heap.size + 1) [(some ⟨w2.heap.size + 1, 0, none⟩, n0_0, l0_0)] := Rs.cons (K3.own e0_0 Y0_0.out) (fun y hy => by cases hy) (Rs.nil _ _)
  clear K3
  have tX0 := X0.tops
  have bX0 := X0.bases
  have T1P := hkeep _ _ B3 hP
  go_wp2_with fail
  refine (Gi.out _ _ T1P X0.head.bs).mono ?_
  rintro e w4 ⟨⟨D0, v0, D1, v1, rfl, R1⟩, b4⟩
  clear T1P
  have z4 := b4.size
  replace R0 := R0.below b4 (Nat.le_refl _)
  replace T0 := T0.below b4 T0.lt
  replace X0 := X0.below b4 (Nat.le_refl _)
  have B4 := ac B3 b4
  clear b4 B3
  have tR1 := R1.tops
  have bR1 := R1.bases
  replace R0 := R0.alloc (.cells #[.int .i64 Z0, .slice D0 N0 v0, .slice D1 N1 v1] 27)
  replace T0 := T0.alloc (.cells #[.int .i64 Z0, .slice D0 N0 v0, .slice D1 N1 v1] 27)
  replace X0 := X0.alloc (.cells #[.int .i64 Z0, .slice D0 N0 v0, .slice D1 N1 v1] 27)
  replace B4 := ab B4 (.cells #[.int .i64 Z0, .slice D0 N0 v0, .slice D1 N1 v1] 27)
  replace R1 := R1.alloc (.cells #[.int .i64 Z0, .slice D0 N0 v0, .slice D1 N1 v1] 27)
  have T1 := Stc.new w4 27 [.int .i64 Z0, .slice D0 N0 v0, .slice D1 N1 v1] _ rfl
  have x0 := T1.cell (i := 0) rfl
  have x1 := T1.cell (i := 1) rfl
  have x2 := T1.cell (i := 2) rfl
  have y0 := T0.cell (i := 0) rfl
  have y1 := T0.cell (i := 1) rfl
  have y2 := T0.cell (i := 2) rfl
  go_wp2_with fail
  refine (sameKeyResult_any Z0 _ _ _ _ _ _ _ _ _ _ _ _ _ R1.head.bs R1.rest.head.bs R0.head.bs R0.rest.head.bs (by omega) (by omega)).mono ?_
  rintro e w5 ⟨rfl, b5⟩
  clear x0 x1 x2
  clear y0 y1 y2
  have z5 := b5.size
  simp only [World.size_alloc] at z5
  replace R0 := R0.below b5 (Nat.le_refl _)
  replace T0 := T0.below b5 T0.lt
  replace X0 := X0.below b5 (Nat.le_refl _)
  replace R1 := R1.below b5 (Nat.le_refl _)
  replace T1 := T1.below b5 T1.lt
  have B5 := ac B4 b5
  clear b5 B4
  go_wp2_with fail
  refine (G0.out _ B5).mono ?_
  rintro e w6 ⟨rfl, K6, b6⟩
  have z6 := b6.size
  replace R0 := R0.below b6 (Nat.le_refl _)
  replace T0 := T0.below b6 T0.lt
  replace X0 := X0.below b6 (Nat.le_refl _)
  replace R1 := R1.below b6 (Nat.le_refl _)
  replace T1 := T1.below b6 T1.lt
  have B6 := ac B5 b6
  clear b6 B5
  have Q0 : Rs w6 (w5.heap.size) [(some ⟨w5.heap.size, 0, none⟩, n0_0, l0_0)] := Rs.cons (K6.own e0_0 Y0_0.out) (fun y hy => by cases hy) (Rs.nil _ _)
  clear K6
  go_wp2_with fail
  refine (eqByteS_any _ _ _ _ _ _ _ _ _ X0.head.bs Q0.head.bs (by omega) (by omega)).mono ?_
  rintro e u7 ⟨rfl, q7, rfl⟩
  replace R0 := R0.drewN q7
  replace T0 := T0.drewN q7
  replace X0 := X0.drewN q7
  replace R1 := R1.drewN q7
  replace T1 := T1.drewN q7
  replace B6 := ad B6 q7
  clear Q0
  have z7 : (w6.drewN q7).heap.size = w6.heap.size := rfl
  generalize w6.drewN q7 = u7 at *
  replace z7 : w6.heap.size ≤ u7.heap.size := by omega
  go_wp2_with fail
  refine (markByteS_any _ _ _ _ _ _ _ X0.head (by omega) (by omega) (by omega)).mono ?_
  rintro e w8 ⟨rfl, _, on8⟩
  have tc8 := Touch.ofOnly (L := [(some ⟨w2.heap.size + 1, 0, none⟩, n0_0, l0_0)]) (l := l0_0) on8 (by simp)
  clear on8
  have z8 := tc8.size
  have tb := tc8.below (C := _) (by omega) bX0
  replace R0 := R0.under tb (tR0.mono (by omega))
  replace T0 := T0.below tb (by omega)
  replace R1 := R1.touch tc8 (tX0.mono (by omega))
  replace T1 := T1.touch tc8 (fun y hy h0 a ha => by have := tX0 y hy h0 a ha; omega)
  have B8 := B6.trans (tb.mono (by omega))
  clear B6 tb tc8 X0
  have x0 := T1.cell (i := 0) rfl
  have x1 := T1.cell (i := 1) rfl
  have x2 := T1.cell (i := 2) rfl
  have y0 := T0.cell (i := 0) rfl
  have y1 := T0.cell (i := 1) rfl
  have y2 := T0.cell (i := 2) rfl
  go_wp2_with fail
  refine (sameKeyResult_any Z0 _ _ _ _ _ _ _ _ _ _ _ _ _ R1.head.bs R1.rest.head.bs R0.head.bs R0.rest.head.bs (by omega) (by omega)).mono ?_
  rintro e w9 ⟨rfl, b9⟩
  clear x0 x1 x2
  clear y0 y1 y2
  have z9 := b9.size
  replace R0 := R0.below b9 (Nat.le_refl _)
  replace T0 := T0.below b9 T0.lt
  replace R1 := R1.below b9 (Nat.le_refl _)
  replace T1 := T1.below b9 T1.lt
  have B9 := ac B8 b9
  clear b9 B8
  have x0 := T1.cell (i := 0) rfl
  have x1 := T1.cell (i := 1) rfl
  have x2 := T1.cell (i := 2) rfl
  go_wp2_with fail
  refine (markRKeyResult_any Z0 _ _ _ _ _ _ _ _ _ _ _ R1 (by omega) (by omega) (by omega) (by omega)).mono ?_
  rintro e w10 ⟨rfl, RM, tc10⟩
  clear x0 x1 x2
  have z10 := tc10.size
  have tb := tc10.below (C := _) (by omega) bR1
  replace R0 := R0.under tb (tR0.mono (by omega))
  replace T0 := T0.below tb (by omega)
  replace T1 := T1.touch tc10 (fun y hy h0 a ha => by have := tR1 y hy h0 a ha; omega)
  have B10 := B9.trans (tb.mono (by omega))
  clear B9 tb tc10 R1
  have x0 := T1.cell (i := 0) rfl
  have x1 := T1.cell (i := 1) rfl
  have x2 := T1.cell (i := 2) rfl
  go_wp2_with fail
  refine (heldRKeyResult_any Z0 _ _ _ _ _ _ _ _ RM.head.bs RM.rest.head.bs (by omega) (by omega) (by omega) (by omega)).mono ?_
  rintro e w11 ⟨rfl, b11⟩
  clear x0 x1 x2
  have z11 := b11.size
  replace R0 := R0.below b11 (Nat.le_refl _)
  replace T0 := T0.below b11 T0.lt
  replace T1 := T1.below b11 T1.lt
  replace RM := RM.below b11 (Nat.le_refl _)
  have B11 := ac B10 b11
  clear b11 B10
  go_wp2_with fail
  refine (G0.out _ B11).mono ?_
  rintro e w12 ⟨rfl, K12, b12⟩
  have z12 := b12.size
  replace R0 := R0.below b12 (Nat.le_refl _)
  replace T0 := T0.below b12 T0.lt
  replace T1 := T1.below b12 T1.lt
  replace RM := RM.below b12 (Nat.le_refl _)
  have B12 := ac B11 b12
  clear b12 B11
  have V0 : Rs w12 (w11.heap.size) [(some ⟨w11.heap.size, 0, none⟩, n0_0, l0_0)] := Rs.cons (K12.own e0_0 Y0_0.out) (fun y hy => by cases hy) (Rs.nil _ _)
  clear K12
  have T1P := hkeep _ _ B12 hP
  go_wp2_with fail
  refine (Gi.out _ _ T1P V0.head.bs).mono ?_
  rintro e w13 ⟨⟨E0, f0, E1, f1, rfl, R2⟩, b13⟩
  clear T1P
  clear V0
  have z13 := b13.size
  replace R0 := R0.below b13 (Nat.le_refl _)
  replace T0 := T0.below b13 T0.lt
  replace T1 := T1.below b13 T1.lt
  replace RM := RM.below b13 (Nat.le_refl _)
  have B13 := ac B12 b13
  clear b13 B12
  have tR2 := R2.tops
  have bR2 := R2.bases
  replace R0 := R0.alloc (.cells #[.int .i64 Z0, .slice E0 N0 f0, .slice E1 N1 f1] 27)
  replace T0 := T0.alloc (.cells #[.int .i64 Z0, .slice E0 N0 f0, .slice E1 N1 f1] 27)
  replace T1 := T1.alloc (.cells #[.int .i64 Z0, .slice E0 N0 f0, .slice E1 N1 f1] 27)
  replace RM := RM.alloc (.cells #[.int .i64 Z0, .slice E0 N0 f0, .slice E1 N1 f1] 27)
  replace B13 := ab B13 (.cells #[.int .i64 Z0, .slice E0 N0 f0, .slice E1 N1 f1] 27)
  replace R2 := R2.alloc (.cells #[.int .i64 Z0, .slice E0 N0 f0, .slice E1 N1 f1] 27)
  have T2 := Stc.new w13 27 [.int .i64 Z0, .slice E0 N0 f0, .slice E1 N1 f1] _ rfl
  have x0 := T2.cell (i := 0) rfl
  have x1 := T2.cell (i := 1) rfl
  have x2 := T2.cell (i := 2) rfl
  have y0 := T0.cell (i := 0) rfl
  have y1 := T0.cell (i := 1) rfl
  have y2 := T0.cell (i := 2) rfl
  go_wp2_with fail
  refine (sameKeyResult_any Z0 _ _ _ _ _ _ _ _ _ _ _ _ _ R2.head.bs R2.rest.head.bs R0.head.bs R0.rest.head.bs (by omega) (by omega)).mono ?_
  rintro e w14 ⟨rfl, b14⟩
  clear x0 x1 x2
  clear y0 y1 y2
  have z14 := b14.size
  simp only [World.size_alloc] at z14
  replace R0 := R0.below b14 (Nat.le_refl _)
  replace T0 := T0.below b14 T0.lt
  replace T1 := T1.below b14 T1.lt
  replace RM := RM.below b14 (Nat.le_refl _)
  replace R2 := R2.below b14 (Nat.le_refl _)
  replace T2 := T2.below b14 T2.lt
  have B14 := ac B13 b14
  clear b14 B13
  have x0 := T1.cell (i := 0) rfl
  have x1 := T1.cell (i := 1) rfl
  have x2 := T1.cell (i := 2) rfl
  go_wp2_with fail
  refine (heldRKeyResult_any Z0 _ _ _ _ _ _ _ _ RM.head.bs RM.rest.head.bs (by omega) (by omega) (by omega) (by omega)).mono ?_
  rintro e w15 ⟨rfl, b15⟩
  clear x0 x1 x2
  have z15 := b15.size
  replace R0 := R0.below b15 (Nat.le_refl _)
  replace T0 := T0.below b15 T0.lt
  replace T1 := T1.below b15 T1.lt
  replace RM := RM.below b15 (Nat.le_refl _)
  replace R2 := R2.below b15 (Nat.le_refl _)
  replace T2 := T2.below b15 T2.lt
  have B15 := ac B14 b15
  clear b15 B14
  go_wp2
  go_ret
  exact ⟨rfl, B15⟩

theorem exactKeyAt_all (k1 : Int) (a0_0 : Option Addr) (n0_0 c0_0 : Nat) (l0_0 : List Int) (w : World) (h0_0 : Bs w a0_0 n0_0 l0_0) (m0_0 : n0_0 ≤ 9223372036854775807) (hall : n0_0 ≤ 1048576 → ∃ (Z0 : Int) (N0 N1 : Nat) (L0 L1 : List Int), N0 ≤ 2000000 ∧ N1 ≤ 2000000 ∧ ∃ (P : World → Prop), P w ∧ (∀ W W' : World, Below W.heap.size W W' → P W → P W') ∧ Shut (∀ (g0_0 : Nat) (W : World) (_ : Bs W (some ⟨g0_0, 0, none⟩) n0_0 l0_0), Calls Tryd.prog 12 #[.slice (some ⟨g0_0, 0, none⟩) n0_0 n0_0, .int .i64 k1] W (fun e w' => (∃ A0 d0 A1 d1, e = .returned (.agg #[.int .i64 Z0, .slice A0 N0 d0, .slice A1 N1 d1]) ∧ Rs w' W.heap.size [(A0, N0, L0), (A1, N1, L1)]) ∧ Below W.heap.size W w')) ∧ Shut (∀ (g0_0 : Nat) (W : World) (_ : P W) (_ : Bs W (some ⟨g0_0, 0, none⟩) n0_0 l0_0), Calls Tryd.prog 8 #[.slice (some ⟨g0_0, 0, none⟩) n0_0 n0_0, .int .i64 k1] W (fun e w' => (∃ A0 d0 A1 d1, e = .returned (.agg #[.int .i64 Z0, .slice A0 N0 d0, .slice A1 N1 d1]) ∧ Rs w' W.heap.size [(A0, N0, L0), (A1, N1, L1)]) ∧ Below W.heap.size W w'))) :
    Calls Tryd.prog 5 #[.slice a0_0 n0_0 c0_0, .int .i64 k1] w fun e w' => e = .returned (.bool true) ∧ Below w.heap.size w w' := by
  by_cases hd0 : n0_0 ≤ 1048576
  rotate_left
  · clear hall
    go_enter Tryd.func5, Tryd.ntmps5
    go_wp2
    go_ret
    exact ⟨rfl, (Below.refl _ w)⟩
  obtain ⟨Z0, N0, N1, L0, L1, hN0, hN1, P, hP, hkeep, Gs, Gi⟩ := hall hd0
  exact exactKeyAt_walk k1 a0_0 n0_0 c0_0 l0_0 w h0_0 hd0 Z0 N0 N1 L0 L1 hN0 hN1 P hP hkeep Gs Gi
end Go.Proofs.YtabhcolfkkfonaaDoor
