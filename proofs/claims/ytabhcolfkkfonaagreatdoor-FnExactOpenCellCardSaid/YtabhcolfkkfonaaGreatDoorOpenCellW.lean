/- The walk of the exact law of OpenCell. -/
import Derived.Test.YtabhcolfkkfonaaGreatDoorSymB
import Derived.Deep.RegionHeld3
namespace Go.Proofs.YtabhcolfkkfonaaGreatDoor
open Go.RowKit

set_option maxRecDepth 100000 in
set_option maxHeartbeats 4000000 in
theorem exactOpenCell_walk  (a0_0 : Option Addr) (n0_0 c0_0 : Nat) (l0_0 : List Int) (a1_0 : Option Addr) (n1_0 c1_0 : Nat) (l1_0 : List Int) (w : World) (h0_0 : Bs w a0_0 n0_0 l0_0) (h1_0 : Bs w a1_0 n1_0 l1_0) (hd0 : n0_0 ≤ 1048576) (hd1 : n1_0 ≤ 1048576) (Z0 : Int) (Z1 : Int) (Z2 : Int) (Z3 : Int) (Z4 : Int) (Z5 : Int) (Z6 : Bool) (N0 : Nat) (L0 : List Int) (hN0 : N0 ≤ 2000000) (P : World → Prop) (hP : P w) (hkeep : ∀ W W' : World, Below W.heap.size W W' → P W → P W') (Gs : Shut (∀ (g0_0 g1_0 : Nat) (W : World) (_ : Bs W (some ⟨g0_0, 0, none⟩) n0_0 l0_0) (_ : Bs W (some ⟨g1_0, 0, none⟩) n1_0 l1_0), Calls Tryz.prog 45 #[.slice (some ⟨g0_0, 0, none⟩) n0_0 n0_0, .slice (some ⟨g1_0, 0, none⟩) n1_0 n1_0] W (fun e w' => (∃ A0 d0, e = .returned (.agg #[.int .i64 Z0, .int .i64 Z1, .int .i64 Z2, .int .i64 Z3, .int .i64 Z4, .int .i64 Z5, .bool Z6, .slice A0 N0 d0]) ∧ Rs w' W.heap.size [(A0, N0, L0)]) ∧ Below W.heap.size W w'))) (Gi : Shut (∀ (g0_0 g1_0 : Nat) (W : World) (_ : P W) (_ : Bs W (some ⟨g0_0, 0, none⟩) n0_0 l0_0) (_ : Bs W (some ⟨g1_0, 0, none⟩) n1_0 l1_0), Calls Tryz.prog 40 #[.slice (some ⟨g0_0, 0, none⟩) n0_0 n0_0, .slice (some ⟨g1_0, 0, none⟩) n1_0 n1_0] W (fun e w' => (∃ A0 d0, e = .returned (.agg #[.int .i64 Z0, .int .i64 Z1, .int .i64 Z2, .int .i64 Z3, .int .i64 Z4, .int .i64 Z5, .bool Z6, .slice A0 N0 d0]) ∧ Rs w' W.heap.size [(A0, N0, L0)]) ∧ Below W.heap.size W w'))) :
    Calls Tryz.prog 9 #[.slice a0_0 n0_0 c0_0, .slice a1_0 n1_0 c1_0] w fun e w' => e = .returned (.bool true) ∧ Below w.heap.size w w' := by
  have G0 := Shut.mk (fun W (b : Below w.heap.size w W) => toByteS_any a0_0 n0_0 c0_0 l0_0 W (h0_0.below b) (by omega))
  have e0_0 := h0_0.byte
  have Y0_0 := Shut.mk h0_0.len
  have G1 := Shut.mk (fun W (b : Below w.heap.size w W) => toByteS_any a1_0 n1_0 c1_0 l1_0 W (h1_0.below b) (by omega))
  have e1_0 := h1_0.byte
  have Y1_0 := Shut.mk h1_0.len
  have f0_0 : n0_0 ≤ 1048576 := by omega
  have d0_0 : n0_0 ≤ 140737488351232 := by omega
  have f1_0 : n1_0 ≤ 1048576 := by omega
  have d1_0 : n1_0 ≤ 140737488351232 := by omega
  clear h0_0 h1_0
  have B0 := Below.refl w.heap.size w
  go_enter Tryz.func9, Tryz.ntmps9
  go_wp2_with fail
  refine (G0.out _ B0).mono ?_
  rintro e w1 ⟨rfl, K1, b1⟩
  have z1 := b1.size
  have B1 := ac B0 b1
  clear b1 B0
  have M0 : Rs w1 (w.heap.size) [(some ⟨w.heap.size, 0, none⟩, n0_0, l0_0)] := Rs.cons (K1.own e0_0 Y0_0.out) (fun y hy => by cases hy) (Rs.nil _ _)
  clear K1
  go_wp2_with fail
  refine (G1.out _ B1).mono ?_
  rintro e w2 ⟨rfl, K2, b2⟩
  have z2 := b2.size
  replace M0 := M0.below b2 (Nat.le_refl _)
  have B2 := ac B1 b2
  clear b2 B1
  have M1 : Rs w2 (w1.heap.size) [(some ⟨w1.heap.size, 0, none⟩, n1_0, l1_0)] := Rs.cons (K2.own e1_0 Y1_0.out) (fun y hy => by cases hy) (Rs.nil _ _)
  clear K2
  go_wp2_with fail
  refine (Gs.out _ _ _ M0.head.bs M1.head.bs).mono ?_
  rintro e w3 ⟨⟨A0, u0, rfl, R0⟩, b3⟩
  clear M0 M1
  have z3 := b3.size
  have B3 := ac B2 b3
  clear b3 B2
  have tR0 := R0.tops
  have bR0 := R0.bases
  replace B3 := ab B3 (.cells #[.int .i64 Z0, .int .i64 Z1, .int .i64 Z2, .int .i64 Z3, .int .i64 Z4, .int .i64 Z5, .bool Z6, .slice A0 N0 u0] 60)
  replace R0 := R0.alloc (.cells #[.int .i64 Z0, .int .i64 Z1, .int .i64 Z2, .int .i64 Z3, .int .i64 Z4, .int .i64 Z5, .bool Z6, .slice A0 N0 u0] 60)
  have T0 := Stc.new w3 60 [.int .i64 Z0, .int .i64 Z1, .int .i64 Z2, .int .i64 Z3, .int .i64 Z4, .int .i64 Z5, .bool Z6, .slice A0 N0 u0] _ rfl
  go_wp2_with fail
  refine (G0.out _ B3).mono ?_
  rintro e w4 ⟨rfl, K4, b4⟩
  simp only [World.size_alloc] at K4 ⊢
  have z4 := b4.size
  simp only [World.size_alloc] at z4
  replace R0 := R0.below b4 (Nat.le_refl _)
  replace T0 := T0.below b4 T0.lt
  have B4 := ac B3 b4
  clear b4 B3
  have X0 : Rs w4 (w3.heap.size + 1) [(some ⟨w3.heap.size + 1, 0, none⟩, n0_0, l0_0)] := Rs.cons (K4.own e0_0 Y0_0.out) (fun y hy => by cases hy) (Rs.nil _ _)
  clear K4
  have tX0 := X0.tops
  have bX0 := X0.bases
  go_wp2_with fail
  refine (G1.out _ B4).mono ?_
  rintro e w5 ⟨rfl, K5, b5⟩
  have z5 := b5.size
  replace R0 := R0.below b5 (Nat.le_refl _)
  replace T0 := T0.below b5 T0.lt
  replace X0 := X0.below b5 (Nat.le_refl _)
  have B5 := ac B4 b5
  clear b5 B4
  have X1 : Rs w5 (w4.heap.size) [(some ⟨w4.heap.size, 0, none⟩, n1_0, l1_0)] := Rs.cons (K5.own e1_0 Y1_0.out) (fun y hy => by cases hy) (Rs.nil _ _)
  clear K5
  have tX1 := X1.tops
  have bX1 := X1.bases
  have T1P := hkeep _ _ B5 hP
  go_wp2_with fail
  refine (Gi.out _ _ _ T1P X0.head.bs X1.head.bs).mono ?_
  rintro e w6 ⟨⟨D0, v0, rfl, R1⟩, b6⟩
  clear T1P
  have z6 := b6.size
  replace R0 := R0.below b6 (Nat.le_refl _)
  replace T0 := T0.below b6 T0.lt
  replace X0 := X0.below b6 (Nat.le_refl _)
  replace X1 := X1.below b6 (Nat.le_refl _)
  have B6 := ac B5 b6
  clear b6 B5
  have tR1 := R1.tops
  have bR1 := R1.bases
  replace R0 := R0.alloc (.cells #[.int .i64 Z0, .int .i64 Z1, .int .i64 Z2, .int .i64 Z3, .int .i64 Z4, .int .i64 Z5, .bool Z6, .slice D0 N0 v0] 60)
  replace T0 := T0.alloc (.cells #[.int .i64 Z0, .int .i64 Z1, .int .i64 Z2, .int .i64 Z3, .int .i64 Z4, .int .i64 Z5, .bool Z6, .slice D0 N0 v0] 60)
  replace X0 := X0.alloc (.cells #[.int .i64 Z0, .int .i64 Z1, .int .i64 Z2, .int .i64 Z3, .int .i64 Z4, .int .i64 Z5, .bool Z6, .slice D0 N0 v0] 60)
  replace X1 := X1.alloc (.cells #[.int .i64 Z0, .int .i64 Z1, .int .i64 Z2, .int .i64 Z3, .int .i64 Z4, .int .i64 Z5, .bool Z6, .slice D0 N0 v0] 60)
  replace B6 := ab B6 (.cells #[.int .i64 Z0, .int .i64 Z1, .int .i64 Z2, .int .i64 Z3, .int .i64 Z4, .int .i64 Z5, .bool Z6, .slice D0 N0 v0] 60)
  replace R1 := R1.alloc (.cells #[.int .i64 Z0, .int .i64 Z1, .int .i64 Z2, .int .i64 Z3, .int .i64 Z4, .int .i64 Z5, .bool Z6, .slice D0 N0 v0] 60)
  have T1 := Stc.new w6 60 [.int .i64 Z0, .int .i64 Z1, .int .i64 Z2, .int .i64 Z3, .int .i64 Z4, .int .i64 Z5, .bool Z6, .slice D0 N0 v0] _ rfl
  have x0 := T1.cell (i := 0) rfl
  have x1 := T1.cell (i := 1) rfl
  have x2 := T1.cell (i := 2) rfl
  have x3 := T1.cell (i := 3) rfl
  have x4 := T1.cell (i := 4) rfl
  have x5 := T1.cell (i := 5) rfl
  have x6 := T1.cell (i := 6) rfl
  have x7 := T1.cell (i := 7) rfl
  have y0 := T0.cell (i := 0) rfl
  have y1 := T0.cell (i := 1) rfl
  have y2 := T0.cell (i := 2) rfl
  have y3 := T0.cell (i := 3) rfl
  have y4 := T0.cell (i := 4) rfl
  have y5 := T0.cell (i := 5) rfl
  have y6 := T0.cell (i := 6) rfl
  have y7 := T0.cell (i := 7) rfl
  go_wp2_with fail
  refine (sameCellResult_any Z0 Z1 Z2 Z3 Z4 Z5 Z6 _ _ _ _ _ _ _ R1.head.bs R0.head.bs (by omega)).mono ?_
  rintro e w7 ⟨rfl, b7⟩
  clear x0 x1 x2 x3 x4 x5 x6 x7
  clear y0 y1 y2 y3 y4 y5 y6 y7
  have z7 := b7.size
  simp only [World.size_alloc] at z7
  replace R0 := R0.below b7 (Nat.le_refl _)
  replace T0 := T0.below b7 T0.lt
  replace X0 := X0.below b7 (Nat.le_refl _)
  replace X1 := X1.below b7 (Nat.le_refl _)
  replace R1 := R1.below b7 (Nat.le_refl _)
  replace T1 := T1.below b7 T1.lt
  have B7 := ac B6 b7
  clear b7 B6
  go_wp2_with fail
  refine (G0.out _ B7).mono ?_
  rintro e w8 ⟨rfl, K8, b8⟩
  have z8 := b8.size
  replace R0 := R0.below b8 (Nat.le_refl _)
  replace T0 := T0.below b8 T0.lt
  replace X0 := X0.below b8 (Nat.le_refl _)
  replace X1 := X1.below b8 (Nat.le_refl _)
  replace R1 := R1.below b8 (Nat.le_refl _)
  replace T1 := T1.below b8 T1.lt
  have B8 := ac B7 b8
  clear b8 B7
  have Q0 : Rs w8 (w7.heap.size) [(some ⟨w7.heap.size, 0, none⟩, n0_0, l0_0)] := Rs.cons (K8.own e0_0 Y0_0.out) (fun y hy => by cases hy) (Rs.nil _ _)
  clear K8
  go_wp2_with fail
  refine (eqByteS_any _ _ _ _ _ _ _ _ _ X0.head.bs Q0.head.bs (by omega) (by omega)).mono ?_
  rintro e u9 ⟨rfl, q9, rfl⟩
  replace R0 := R0.drewN q9
  replace T0 := T0.drewN q9
  replace X0 := X0.drewN q9
  replace X1 := X1.drewN q9
  replace R1 := R1.drewN q9
  replace T1 := T1.drewN q9
  replace B8 := ad B8 q9
  clear Q0
  have z9 : (w8.drewN q9).heap.size = w8.heap.size := rfl
  generalize w8.drewN q9 = u9 at *
  replace z9 : w8.heap.size ≤ u9.heap.size := by omega
  go_wp2_with fail
  refine (G1.out _ B8).mono ?_
  rintro e w10 ⟨rfl, K10, b10⟩
  have z10 := b10.size
  replace R0 := R0.below b10 (Nat.le_refl _)
  replace T0 := T0.below b10 T0.lt
  replace X0 := X0.below b10 (Nat.le_refl _)
  replace X1 := X1.below b10 (Nat.le_refl _)
  replace R1 := R1.below b10 (Nat.le_refl _)
  replace T1 := T1.below b10 T1.lt
  have B10 := ac B8 b10
  clear b10 B8
  have Q1 : Rs w10 (u9.heap.size) [(some ⟨u9.heap.size, 0, none⟩, n1_0, l1_0)] := Rs.cons (K10.own e1_0 Y1_0.out) (fun y hy => by cases hy) (Rs.nil _ _)
  clear K10
  go_wp2_with fail
  refine (eqByteS_any _ _ _ _ _ _ _ _ _ X1.head.bs Q1.head.bs (by omega) (by omega)).mono ?_
  rintro e u11 ⟨rfl, q11, rfl⟩
  replace R0 := R0.drewN q11
  replace T0 := T0.drewN q11
  replace X0 := X0.drewN q11
  replace X1 := X1.drewN q11
  replace R1 := R1.drewN q11
  replace T1 := T1.drewN q11
  replace B10 := ad B10 q11
  clear Q1
  have z11 : (w10.drewN q11).heap.size = w10.heap.size := rfl
  generalize w10.drewN q11 = u11 at *
  replace z11 : w10.heap.size ≤ u11.heap.size := by omega
  go_wp2_with fail
  refine (markByteS_any _ _ _ _ _ _ _ X0.head (by omega) (by omega) (by omega)).mono ?_
  rintro e w12 ⟨rfl, _, on12⟩
  have tc12 := Touch.ofOnly (L := [(some ⟨w3.heap.size + 1, 0, none⟩, n0_0, l0_0)]) (l := l0_0) on12 (by simp)
  clear on12
  have z12 := tc12.size
  have tb := tc12.below (C := _) (by omega) bX0
  replace R0 := R0.under tb (tR0.mono (by omega))
  replace T0 := T0.below tb (by omega)
  replace X1 := X1.touch tc12 (tX0.mono (by omega))
  replace R1 := R1.touch tc12 (tX0.mono (by omega))
  replace T1 := T1.touch tc12 (fun y hy h0 a ha => by have := tX0 y hy h0 a ha; omega)
  have B12 := B10.trans (tb.mono (by omega))
  clear B10 tb tc12 X0
  go_wp2_with fail
  refine (markByteS_any _ _ _ _ _ _ _ X1.head (by omega) (by omega) (by omega)).mono ?_
  rintro e w13 ⟨rfl, _, on13⟩
  have tc13 := Touch.ofOnly (L := [(some ⟨w4.heap.size, 0, none⟩, n1_0, l1_0)]) (l := l1_0) on13 (by simp)
  clear on13
  have z13 := tc13.size
  have tb := tc13.below (C := _) (by omega) bX1
  replace R0 := R0.under tb (tR0.mono (by omega))
  replace T0 := T0.below tb (by omega)
  replace R1 := R1.touch tc13 (tX1.mono (by omega))
  replace T1 := T1.touch tc13 (fun y hy h0 a ha => by have := tX1 y hy h0 a ha; omega)
  have B13 := B12.trans (tb.mono (by omega))
  clear B12 tb tc13 X1
  have x0 := T1.cell (i := 0) rfl
  have x1 := T1.cell (i := 1) rfl
  have x2 := T1.cell (i := 2) rfl
  have x3 := T1.cell (i := 3) rfl
  have x4 := T1.cell (i := 4) rfl
  have x5 := T1.cell (i := 5) rfl
  have x6 := T1.cell (i := 6) rfl
  have x7 := T1.cell (i := 7) rfl
  have y0 := T0.cell (i := 0) rfl
  have y1 := T0.cell (i := 1) rfl
  have y2 := T0.cell (i := 2) rfl
  have y3 := T0.cell (i := 3) rfl
  have y4 := T0.cell (i := 4) rfl
  have y5 := T0.cell (i := 5) rfl
  have y6 := T0.cell (i := 6) rfl
  have y7 := T0.cell (i := 7) rfl
  go_wp2_with fail
  refine (sameCellResult_any Z0 Z1 Z2 Z3 Z4 Z5 Z6 _ _ _ _ _ _ _ R1.head.bs R0.head.bs (by omega)).mono ?_
  rintro e w14 ⟨rfl, b14⟩
  clear x0 x1 x2 x3 x4 x5 x6 x7
  clear y0 y1 y2 y3 y4 y5 y6 y7
  have z14 := b14.size
  replace R0 := R0.below b14 (Nat.le_refl _)
  replace T0 := T0.below b14 T0.lt
  replace R1 := R1.below b14 (Nat.le_refl _)
  replace T1 := T1.below b14 T1.lt
  have B14 := ac B13 b14
  clear b14 B13
  have x0 := T1.cell (i := 0) rfl
  have x1 := T1.cell (i := 1) rfl
  have x2 := T1.cell (i := 2) rfl
  have x3 := T1.cell (i := 3) rfl
  have x4 := T1.cell (i := 4) rfl
  have x5 := T1.cell (i := 5) rfl
  have x6 := T1.cell (i := 6) rfl
  have x7 := T1.cell (i := 7) rfl
  go_wp2_with fail
  refine (markRCellResult_any Z0 Z1 Z2 Z3 Z4 Z5 Z6 _ _ _ _ _ _ _ R1 (by omega) (by omega) (by omega)).mono ?_
  rintro e w15 ⟨rfl, RM, tc15⟩
  clear x0 x1 x2 x3 x4 x5 x6 x7
  have z15 := tc15.size
  have tb := tc15.below (C := _) (by omega) bR1
  replace R0 := R0.under tb (tR0.mono (by omega))
  replace T0 := T0.below tb (by omega)
  replace T1 := T1.touch tc15 (fun y hy h0 a ha => by have := tR1 y hy h0 a ha; omega)
  have B15 := B14.trans (tb.mono (by omega))
  clear B14 tb tc15 R1
  have x0 := T1.cell (i := 0) rfl
  have x1 := T1.cell (i := 1) rfl
  have x2 := T1.cell (i := 2) rfl
  have x3 := T1.cell (i := 3) rfl
  have x4 := T1.cell (i := 4) rfl
  have x5 := T1.cell (i := 5) rfl
  have x6 := T1.cell (i := 6) rfl
  have x7 := T1.cell (i := 7) rfl
  go_wp2_with fail
  refine (heldRCellResult_any Z0 Z1 Z2 Z3 Z4 Z5 Z6 _ _ _ _ _ RM.head.bs (by omega) (by omega) (by omega)).mono ?_
  rintro e w16 ⟨rfl, b16⟩
  clear x0 x1 x2 x3 x4 x5 x6 x7
  have z16 := b16.size
  replace R0 := R0.below b16 (Nat.le_refl _)
  replace T0 := T0.below b16 T0.lt
  replace T1 := T1.below b16 T1.lt
  replace RM := RM.below b16 (Nat.le_refl _)
  have B16 := ac B15 b16
  clear b16 B15
  go_wp2_with fail
  refine (G0.out _ B16).mono ?_
  rintro e w17 ⟨rfl, K17, b17⟩
  have z17 := b17.size
  replace R0 := R0.below b17 (Nat.le_refl _)
  replace T0 := T0.below b17 T0.lt
  replace T1 := T1.below b17 T1.lt
  replace RM := RM.below b17 (Nat.le_refl _)
  have B17 := ac B16 b17
  clear b17 B16
  have V0 : Rs w17 (w16.heap.size) [(some ⟨w16.heap.size, 0, none⟩, n0_0, l0_0)] := Rs.cons (K17.own e0_0 Y0_0.out) (fun y hy => by cases hy) (Rs.nil _ _)
  clear K17
  go_wp2_with fail
  refine (G1.out _ B17).mono ?_
  rintro e w18 ⟨rfl, K18, b18⟩
  have z18 := b18.size
  replace R0 := R0.below b18 (Nat.le_refl _)
  replace T0 := T0.below b18 T0.lt
  replace T1 := T1.below b18 T1.lt
  replace RM := RM.below b18 (Nat.le_refl _)
  replace V0 := V0.below b18 (Nat.le_refl _)
  have B18 := ac B17 b18
  clear b18 B17
  have V1 : Rs w18 (w17.heap.size) [(some ⟨w17.heap.size, 0, none⟩, n1_0, l1_0)] := Rs.cons (K18.own e1_0 Y1_0.out) (fun y hy => by cases hy) (Rs.nil _ _)
  clear K18
  have T1P := hkeep _ _ B18 hP
  go_wp2_with fail
  refine (Gi.out _ _ _ T1P V0.head.bs V1.head.bs).mono ?_
  rintro e w19 ⟨⟨E0, f0, rfl, R2⟩, b19⟩
  clear T1P
  clear V0 V1
  have z19 := b19.size
  replace R0 := R0.below b19 (Nat.le_refl _)
  replace T0 := T0.below b19 T0.lt
  replace T1 := T1.below b19 T1.lt
  replace RM := RM.below b19 (Nat.le_refl _)
  have B19 := ac B18 b19
  clear b19 B18
  have tR2 := R2.tops
  have bR2 := R2.bases
  replace R0 := R0.alloc (.cells #[.int .i64 Z0, .int .i64 Z1, .int .i64 Z2, .int .i64 Z3, .int .i64 Z4, .int .i64 Z5, .bool Z6, .slice E0 N0 f0] 60)
  replace T0 := T0.alloc (.cells #[.int .i64 Z0, .int .i64 Z1, .int .i64 Z2, .int .i64 Z3, .int .i64 Z4, .int .i64 Z5, .bool Z6, .slice E0 N0 f0] 60)
  replace T1 := T1.alloc (.cells #[.int .i64 Z0, .int .i64 Z1, .int .i64 Z2, .int .i64 Z3, .int .i64 Z4, .int .i64 Z5, .bool Z6, .slice E0 N0 f0] 60)
  replace RM := RM.alloc (.cells #[.int .i64 Z0, .int .i64 Z1, .int .i64 Z2, .int .i64 Z3, .int .i64 Z4, .int .i64 Z5, .bool Z6, .slice E0 N0 f0] 60)
  replace B19 := ab B19 (.cells #[.int .i64 Z0, .int .i64 Z1, .int .i64 Z2, .int .i64 Z3, .int .i64 Z4, .int .i64 Z5, .bool Z6, .slice E0 N0 f0] 60)
  replace R2 := R2.alloc (.cells #[.int .i64 Z0, .int .i64 Z1, .int .i64 Z2, .int .i64 Z3, .int .i64 Z4, .int .i64 Z5, .bool Z6, .slice E0 N0 f0] 60)
  have T2 := Stc.new w19 60 [.int .i64 Z0, .int .i64 Z1, .int .i64 Z2, .int .i64 Z3, .int .i64 Z4, .int .i64 Z5, .bool Z6, .slice E0 N0 f0] _ rfl
  have x0 := T2.cell (i := 0) rfl
  have x1 := T2.cell (i := 1) rfl
  have x2 := T2.cell (i := 2) rfl
  have x3 := T2.cell (i := 3) rfl
  have x4 := T2.cell (i := 4) rfl
  have x5 := T2.cell (i := 5) rfl
  have x6 := T2.cell (i := 6) rfl
  have x7 := T2.cell (i := 7) rfl
  have y0 := T0.cell (i := 0) rfl
  have y1 := T0.cell (i := 1) rfl
  have y2 := T0.cell (i := 2) rfl
  have y3 := T0.cell (i := 3) rfl
  have y4 := T0.cell (i := 4) rfl
  have y5 := T0.cell (i := 5) rfl
  have y6 := T0.cell (i := 6) rfl
  have y7 := T0.cell (i := 7) rfl
  go_wp2_with fail
  refine (sameCellResult_any Z0 Z1 Z2 Z3 Z4 Z5 Z6 _ _ _ _ _ _ _ R2.head.bs R0.head.bs (by omega)).mono ?_
  rintro e w20 ⟨rfl, b20⟩
  clear x0 x1 x2 x3 x4 x5 x6 x7
  clear y0 y1 y2 y3 y4 y5 y6 y7
  have z20 := b20.size
  simp only [World.size_alloc] at z20
  replace R0 := R0.below b20 (Nat.le_refl _)
  replace T0 := T0.below b20 T0.lt
  replace T1 := T1.below b20 T1.lt
  replace RM := RM.below b20 (Nat.le_refl _)
  replace R2 := R2.below b20 (Nat.le_refl _)
  replace T2 := T2.below b20 T2.lt
  have B20 := ac B19 b20
  clear b20 B19
  have x0 := T1.cell (i := 0) rfl
  have x1 := T1.cell (i := 1) rfl
  have x2 := T1.cell (i := 2) rfl
  have x3 := T1.cell (i := 3) rfl
  have x4 := T1.cell (i := 4) rfl
  have x5 := T1.cell (i := 5) rfl
  have x6 := T1.cell (i := 6) rfl
  have x7 := T1.cell (i := 7) rfl
  go_wp2_with fail
  refine (heldRCellResult_any Z0 Z1 Z2 Z3 Z4 Z5 Z6 _ _ _ _ _ RM.head.bs (by omega) (by omega) (by omega)).mono ?_
  rintro e w21 ⟨rfl, b21⟩
  clear x0 x1 x2 x3 x4 x5 x6 x7
  have z21 := b21.size
  replace R0 := R0.below b21 (Nat.le_refl _)
  replace T0 := T0.below b21 T0.lt
  replace T1 := T1.below b21 T1.lt
  replace RM := RM.below b21 (Nat.le_refl _)
  replace R2 := R2.below b21 (Nat.le_refl _)
  replace T2 := T2.below b21 T2.lt
  have B21 := ac B20 b21
  clear b21 B20
  go_wp2
  go_ret
  exact ⟨rfl, B21⟩

theorem exactOpenCell_all  (a0_0 : Option Addr) (n0_0 c0_0 : Nat) (l0_0 : List Int) (a1_0 : Option Addr) (n1_0 c1_0 : Nat) (l1_0 : List Int) (w : World) (h0_0 : Bs w a0_0 n0_0 l0_0) (h1_0 : Bs w a1_0 n1_0 l1_0) (m0_0 : n0_0 ≤ 9223372036854775807) (m1_0 : n1_0 ≤ 9223372036854775807) (hall : n0_0 ≤ 1048576 → n1_0 ≤ 1048576 → ∃ (Z0 : Int) (Z1 : Int) (Z2 : Int) (Z3 : Int) (Z4 : Int) (Z5 : Int) (Z6 : Bool) (N0 : Nat) (L0 : List Int), N0 ≤ 2000000 ∧ ∃ (P : World → Prop), P w ∧ (∀ W W' : World, Below W.heap.size W W' → P W → P W') ∧ Shut (∀ (g0_0 g1_0 : Nat) (W : World) (_ : Bs W (some ⟨g0_0, 0, none⟩) n0_0 l0_0) (_ : Bs W (some ⟨g1_0, 0, none⟩) n1_0 l1_0), Calls Tryz.prog 45 #[.slice (some ⟨g0_0, 0, none⟩) n0_0 n0_0, .slice (some ⟨g1_0, 0, none⟩) n1_0 n1_0] W (fun e w' => (∃ A0 d0, e = .returned (.agg #[.int .i64 Z0, .int .i64 Z1, .int .i64 Z2, .int .i64 Z3, .int .i64 Z4, .int .i64 Z5, .bool Z6, .slice A0 N0 d0]) ∧ Rs w' W.heap.size [(A0, N0, L0)]) ∧ Below W.heap.size W w')) ∧ Shut (∀ (g0_0 g1_0 : Nat) (W : World) (_ : P W) (_ : Bs W (some ⟨g0_0, 0, none⟩) n0_0 l0_0) (_ : Bs W (some ⟨g1_0, 0, none⟩) n1_0 l1_0), Calls Tryz.prog 40 #[.slice (some ⟨g0_0, 0, none⟩) n0_0 n0_0, .slice (some ⟨g1_0, 0, none⟩) n1_0 n1_0] W (fun e w' => (∃ A0 d0, e = .returned (.agg #[.int .i64 Z0, .int .i64 Z1, .int .i64 Z2, .int .i64 Z3, .int .i64 Z4, .int .i64 Z5, .bool Z6, .slice A0 N0 d0]) ∧ Rs w' W.heap.size [(A0, N0, L0)]) ∧ Below W.heap.size W w'))) :
    Calls Tryz.prog 9 #[.slice a0_0 n0_0 c0_0, .slice a1_0 n1_0 c1_0] w fun e w' => e = .returned (.bool true) ∧ Below w.heap.size w w' := by
  by_cases hd0 : n0_0 ≤ 1048576
  rotate_left
  · clear hall
    go_enter Tryz.func9, Tryz.ntmps9
    go_wp2
    go_ret
    exact ⟨rfl, (Below.refl _ w)⟩
  by_cases hd1 : n1_0 ≤ 1048576
  rotate_left
  · clear hall
    go_enter Tryz.func9, Tryz.ntmps9
    go_wp2
    go_ret
    exact ⟨rfl, (Below.refl _ w)⟩
  obtain ⟨Z0, Z1, Z2, Z3, Z4, Z5, Z6, N0, L0, hN0, P, hP, hkeep, Gs, Gi⟩ := hall hd0 hd1
  exact exactOpenCell_walk  a0_0 n0_0 c0_0 l0_0 a1_0 n1_0 c1_0 l1_0 w h0_0 h1_0 hd0 hd1 Z0 Z1 Z2 Z3 Z4 Z5 Z6 N0 L0 hN0 P hP hkeep Gs Gi
end Go.Proofs.YtabhcolfkkfonaaGreatDoor
