/- The walk of the exact law of MutedEvents. -/
import Derived.Test.YtpaemmoopjkppaaMutS
import Derived.Deep.RegionHeld3
import Derived.Deep.CutRange
namespace Go.Proofs.Ytpaemmoopjkppaa
open Go.RowKit

set_option linter.unusedVariables false in
set_option maxRecDepth 100000 in
set_option maxHeartbeats 4000000 in
theorem exactMutedEvents_walk  (a0_0 : Option Addr) (n0_0 c0_0 : Nat) (l0_0 : List EventD) (w : World) (h0_0 : Lst EventD.cels 6 w a0_0 n0_0 l0_0)  (hsz : n0_0 + sumE EventD.len l0_0 ≤ 1048576) (Z0 : Int) (N0 : Nat) (D0 : List EventD) (hN0 : N0 ≤ 2000000) (hS0 : sumE EventD.wd D0 ≤ 2000000) (hB0 : ∀ e ∈ D0, e.f2.length ≤ 100000000) (P : World → Prop) (hP : P w) (hkeep : ∀ W W' : World, Below W.heap.size W W' → P W → P W') (Gs : Shut (∀ (g0_0 : Nat) (W : World) (_ : Lst EventD.cels 6 W (some ⟨g0_0, 0, none⟩) n0_0 l0_0), Calls Try.prog 20 #[.slice (some ⟨g0_0, 0, none⟩) n0_0 n0_0] W (fun e w' => (∃ A0 d0, e = .returned (.agg #[.int .i64 Z0, .slice A0 N0 d0]) ∧ (tE A0 N0 D0) w' (rng W.heap.size w'.heap.size)) ∧ Below W.heap.size W w'))) (Gi : Shut (∀ (g0_0 : Nat) (W : World) (_ : P W) (_ : Lst EventD.cels 6 W (some ⟨g0_0, 0, none⟩) n0_0 l0_0), Calls Try.prog 22 #[.slice (some ⟨g0_0, 0, none⟩) n0_0 n0_0] W (fun e w' => (∃ A0 d0, e = .returned (.agg #[.int .i64 Z0, .slice A0 N0 d0]) ∧ (tE A0 N0 D0) w' (rng W.heap.size w'.heap.size)) ∧ Below W.heap.size W w'))) :
    Calls Try.prog 4 #[.slice a0_0 n0_0 c0_0] w fun e w' => e = .returned (.bool true) ∧ Below w.heap.size w w' := by
  have HSZ : True := trivial
  have ts0 : n0_0 + sumE EventD.len l0_0 = n0_0 + sumE EventD.len l0_0 := rfl
  have f0_0 : n0_0 ≤ 1048576 := by omega
  have b0_0 : ∀ e ∈ l0_0, e.f2.length ≤ 1048576 := fun e he => by have h1 : e.f2.length ≤ sumE EventD.len l0_0 := sumE_mem EventD.len he; omega
  have q0_0 : sumE EventD.wd l0_0 ≤ 6400000 := by have h1 := sumEventD_wd l0_0; have h2 := h0_0.len; omega
  have G0 := Shut.mk (fun W (b : Below w.heap.size w W) => toEventS_any a0_0 n0_0 c0_0 l0_0 W (h0_0.below b) f0_0 b0_0)
  have hq0 : leftC 1048576 (n0_0 + sumE EventD.len l0_0) = 1048576 - (((n0_0 + sumE EventD.len l0_0 : Nat) : Int) : Int) := by unfold leftC; rw [if_neg (by omega)]
  have cz0 := fun W (b : Below w.heap.size w W) => szEventS_any a0_0 n0_0 c0_0 l0_0 (1048576) W (h0_0.below b) (by omega) (by omega) (by omega) (fun e he => by have := b0_0 e he; omega)
  unfold leftE at cz0
  rw [hq0] at cz0
  clear hq0
  obtain ⟨lf0, hlf0⟩ : ∃ x, x = 1048576 - ((n0_0 + sumE EventD.len l0_0 : Nat) : Int) := ⟨_, rfl⟩
  rw [← hlf0] at cz0
  have lp0 : ¬ lf0 < 0 := by omega
  have lm0 : lf0 ≤ 1048576 := by omega
  clear hlf0 ts0
  clear h0_0
  clear hsz
  have B0 := Below.refl w.heap.size w
  go_enter Try.func4, Try.ntmps4
  go_wp2_with fail
  refine (cz0 _ B0).mono ?_
  rintro e w1 ⟨rfl, b1⟩
  have z1 := b1.size
  have B1 := ac B0 b1
  clear b1 B0
  go_wp2_with fail
  refine (G0.out _ B1).mono ?_
  rintro e w2 ⟨⟨rfl, M0⟩, b2⟩
  replace M0 : (tE (some ⟨w1.heap.size, 0, none⟩) n0_0 l0_0) w2 (rng (w1.heap.size) w2.heap.size) := M0
  have z2 := b2.size
  have B2 := ac B1 b2
  clear b2 B1
  have O0_0 := Lo.rows M0
  go_wp2_with fail
  refine (Gs.out _ _ O0_0).mono ?_
  rintro e w3 ⟨⟨A0, u0, rfl, R0⟩, b3⟩
  clear O0_0
  clear M0
  have z3 := b3.size
  have B3 := ac B2 b3
  clear b3 B2
  replace R0 := (okE _ _ _).alloc R0 (.cells #[.int .i64 Z0, .slice A0 N0 u0] 51)
  replace B3 := ab B3 (.cells #[.int .i64 Z0, .slice A0 N0 u0] 51)
  have T0 := Stc.new w3 51 [.int .i64 Z0, .slice A0 N0 u0] _ rfl
  go_wp2_with fail
  refine (G0.out _ B3).mono ?_
  rintro e w4 ⟨⟨rfl, X0⟩, b4⟩
  simp only [World.size_alloc] at X0 ⊢
  replace X0 : (tE (some ⟨w3.heap.size + 1, 0, none⟩) n0_0 l0_0) w4 (rng (w3.heap.size + 1) w4.heap.size) := X0
  have z4 := b4.size
  simp only [World.size_alloc] at z4
  replace R0 := (okE _ _ _).below R0 b4
  replace T0 := T0.below b4 T0.lt
  have B4 := ac B3 b4
  clear b4 B3
  have O0_0 := Lo.rows X0
  have T1P := hkeep _ _ B4 hP
  go_wp2_with fail
  refine (Gi.out _ _ T1P O0_0).mono ?_
  rintro e w5 ⟨⟨DA0, v0, rfl, R1⟩, b5⟩
  clear T1P O0_0
  have z5 := b5.size
  replace R0 := (okE _ _ _).below R0 b5
  replace T0 := T0.below b5 T0.lt
  replace X0 := (okE _ _ _).below X0 b5
  have B5 := ac B4 b5
  clear b5 B4
  replace R0 := (okE _ _ _).alloc R0 (.cells #[.int .i64 Z0, .slice DA0 N0 v0] 51)
  replace T0 := T0.alloc (.cells #[.int .i64 Z0, .slice DA0 N0 v0] 51)
  replace X0 := (okE _ _ _).alloc X0 (.cells #[.int .i64 Z0, .slice DA0 N0 v0] 51)
  replace R1 := (okE _ _ _).alloc R1 (.cells #[.int .i64 Z0, .slice DA0 N0 v0] 51)
  replace B5 := ab B5 (.cells #[.int .i64 Z0, .slice DA0 N0 v0] 51)
  have T1 := Stc.new w5 51 [.int .i64 Z0, .slice DA0 N0 v0] _ rfl
  have x0 := T1.cell (i := 0) rfl
  have x1 := T1.cell (i := 1) rfl
  have y0 := T0.cell (i := 0) rfl
  have y1 := T0.cell (i := 1) rfl
  have V := R1
  have V_0 := V
  replace V_0 := Lo.rows V_0
  have U := R0
  have U_0 := U
  replace U_0 := Lo.rows U_0
  go_wp2_with fail
  refine (eqMutedResult_any Z0 _ _ _ _ _ _ _ V_0 U_0 (by omega) hB0).mono ?_
  rintro e w6 ⟨rfl, b6⟩
  clear x0 x1
  clear y0 y1
  clear V_0 U_0
  have z6 := b6.size
  simp only [World.size_alloc] at z6
  replace R0 := (okE _ _ _).below R0 b6
  replace T0 := T0.below b6 T0.lt
  replace X0 := (okE _ _ _).below X0 b6
  replace R1 := (okE _ _ _).below R1 b6
  replace T1 := T1.below b6 T1.lt
  have B6 := ac B5 b6
  clear b6 B5
  go_wp2_with fail
  refine (G0.out _ B6).mono ?_
  rintro e w7 ⟨⟨rfl, Q0⟩, b7⟩
  replace Q0 : (tE (some ⟨w6.heap.size, 0, none⟩) n0_0 l0_0) w7 (rng (w6.heap.size) w7.heap.size) := Q0
  have z7 := b7.size
  replace R0 := (okE _ _ _).below R0 b7
  replace T0 := T0.below b7 T0.lt
  replace X0 := (okE _ _ _).below X0 b7
  replace R1 := (okE _ _ _).below R1 b7
  replace T1 := T1.below b7 T1.lt
  have B7 := ac B6 b7
  clear b7 B6
  go_wp2_with fail
  refine (eqEventS_any _ _ _ _ _ _ _ (Lo.rows X0) (Lo.rows Q0) (by omega) (fun e he => by have := b0_0 e he; omega)).mono ?_
  rintro e w8 ⟨rfl, b8⟩
  clear Q0
  have z8 := b8.size
  replace R0 := (okE _ _ _).below R0 b8
  replace T0 := T0.below b8 T0.lt
  replace X0 := (okE _ _ _).below X0 b8
  replace R1 := (okE _ _ _).below R1 b8
  replace T1 := T1.below b8 T1.lt
  have B8 := ac B7 b8
  clear b8 B7
  go_wp2_with fail
  refine (markEventS_any _ _ _ _ _ _ _ X0 (by omega) (by omega) (by omega) (by omega)).mono ?_
  rintro e w9 ⟨rfl, _, tc9⟩
  have z9 := tc9.size
  have tb := tc9.below (C := w.heap.size) (by have := B8.size; omega) (fun b hb => by unfold rng at hb; have := B8.size; omega)
  replace R0 := (okE _ _ _).tur R0 tc9 (by first | (left; omega) | (right; omega))
  replace T0 := T0.tu tc9 (by unfold rng; omega)
  replace R1 := (okE _ _ _).tur R1 tc9 (by first | (left; omega) | (right; omega))
  replace T1 := T1.tu tc9 (by unfold rng; omega)
  have B9 := B8.trans tb
  clear B8 tb tc9
  clear X0
  have x0 := T1.cell (i := 0) rfl
  have x1 := T1.cell (i := 1) rfl
  have y0 := T0.cell (i := 0) rfl
  have y1 := T0.cell (i := 1) rfl
  have V := R1
  have V_0 := V
  replace V_0 := Lo.rows V_0
  have U := R0
  have U_0 := U
  replace U_0 := Lo.rows U_0
  go_wp2_with fail
  refine (eqMutedResult_any Z0 _ _ _ _ _ _ _ V_0 U_0 (by omega) hB0).mono ?_
  rintro e w10 ⟨rfl, b10⟩
  clear x0 x1
  clear y0 y1
  clear V_0 U_0
  have z10 := b10.size
  replace R0 := (okE _ _ _).below R0 b10
  replace T0 := T0.below b10 T0.lt
  replace R1 := (okE _ _ _).below R1 b10
  replace T1 := T1.below b10 T1.lt
  have B10 := ac B9 b10
  clear b10 B9
  have x0 := T1.cell (i := 0) rfl
  have x1 := T1.cell (i := 1) rfl
  go_wp2_with fail
  refine (markMutedResult_any Z0 _ _ _ _ _ _ _ R1 (fun b hb => by unfold rng at hb; omega) (by omega) (by omega) (by omega) (by omega)).mono ?_
  rintro e w11 ⟨rfl, RM, tc11⟩
  clear x0 x1
  have z11 := tc11.size
  have tb := tc11.below (C := w.heap.size) (by have := B10.size; omega) (fun b hb => by unfold rng at hb; have := B10.size; omega)
  replace R0 := (okE _ _ _).tur R0 tc11 (by first | (left; omega) | (right; omega))
  replace T0 := T0.tu tc11 (by unfold rng; omega)
  replace T1 := T1.tu tc11 (by unfold rng; omega)
  have B11 := B10.trans tb
  clear B10 tb tc11
  clear R1
  have x0 := T1.cell (i := 0) rfl
  have x1 := T1.cell (i := 1) rfl
  have V := RM
  have V_0 := V
  replace V_0 := Lo.rows V_0
  go_wp2_with fail
  refine (heldMutedResult_any Z0 _ _ _ _ _ _ V_0 (by omega) (by omega) (by omega) (by omega)).mono ?_
  rintro e w12 ⟨rfl, b12⟩
  clear x0 x1
  clear V_0
  have z12 := b12.size
  replace R0 := (okE _ _ _).below R0 b12
  replace T0 := T0.below b12 T0.lt
  replace T1 := T1.below b12 T1.lt
  replace RM := (okE _ _ _).below RM b12
  have B12 := ac B11 b12
  clear b12 B11
  go_wp2_with fail
  refine (G0.out _ B12).mono ?_
  rintro e w13 ⟨⟨rfl, E0⟩, b13⟩
  replace E0 : (tE (some ⟨w12.heap.size, 0, none⟩) n0_0 l0_0) w13 (rng (w12.heap.size) w13.heap.size) := E0
  have z13 := b13.size
  replace R0 := (okE _ _ _).below R0 b13
  replace T0 := T0.below b13 T0.lt
  replace T1 := T1.below b13 T1.lt
  replace RM := (okE _ _ _).below RM b13
  have B13 := ac B12 b13
  clear b13 B12
  have O0_0 := Lo.rows E0
  have T1P := hkeep _ _ B13 hP
  go_wp2_with fail
  refine (Gi.out _ _ T1P O0_0).mono ?_
  rintro e w14 ⟨⟨EA0, f0, rfl, R2⟩, b14⟩
  clear T1P O0_0
  clear E0
  have z14 := b14.size
  replace R0 := (okE _ _ _).below R0 b14
  replace T0 := T0.below b14 T0.lt
  replace T1 := T1.below b14 T1.lt
  replace RM := (okE _ _ _).below RM b14
  have B14 := ac B13 b14
  clear b14 B13
  replace R0 := (okE _ _ _).alloc R0 (.cells #[.int .i64 Z0, .slice EA0 N0 f0] 51)
  replace T0 := T0.alloc (.cells #[.int .i64 Z0, .slice EA0 N0 f0] 51)
  replace T1 := T1.alloc (.cells #[.int .i64 Z0, .slice EA0 N0 f0] 51)
  replace RM := (okE _ _ _).alloc RM (.cells #[.int .i64 Z0, .slice EA0 N0 f0] 51)
  replace R2 := (okE _ _ _).alloc R2 (.cells #[.int .i64 Z0, .slice EA0 N0 f0] 51)
  replace B14 := ab B14 (.cells #[.int .i64 Z0, .slice EA0 N0 f0] 51)
  have T2 := Stc.new w14 51 [.int .i64 Z0, .slice EA0 N0 f0] _ rfl
  have x0 := T2.cell (i := 0) rfl
  have x1 := T2.cell (i := 1) rfl
  have y0 := T0.cell (i := 0) rfl
  have y1 := T0.cell (i := 1) rfl
  have V := R2
  have V_0 := V
  replace V_0 := Lo.rows V_0
  have U := R0
  have U_0 := U
  replace U_0 := Lo.rows U_0
  go_wp2_with fail
  refine (eqMutedResult_any Z0 _ _ _ _ _ _ _ V_0 U_0 (by omega) hB0).mono ?_
  rintro e w15 ⟨rfl, b15⟩
  clear x0 x1
  clear y0 y1
  clear V_0 U_0
  have z15 := b15.size
  simp only [World.size_alloc] at z15
  replace R0 := (okE _ _ _).below R0 b15
  replace T0 := T0.below b15 T0.lt
  replace T1 := T1.below b15 T1.lt
  replace RM := (okE _ _ _).below RM b15
  replace R2 := (okE _ _ _).below R2 b15
  replace T2 := T2.below b15 T2.lt
  have B15 := ac B14 b15
  clear b15 B14
  have x0 := T1.cell (i := 0) rfl
  have x1 := T1.cell (i := 1) rfl
  have V := RM
  have V_0 := V
  replace V_0 := Lo.rows V_0
  go_wp2_with fail
  refine (heldMutedResult_any Z0 _ _ _ _ _ _ V_0 (by omega) (by omega) (by omega) (by omega)).mono ?_
  rintro e w16 ⟨rfl, b16⟩
  clear x0 x1
  clear V_0
  have z16 := b16.size
  replace R0 := (okE _ _ _).below R0 b16
  replace T0 := T0.below b16 T0.lt
  replace T1 := T1.below b16 T1.lt
  replace RM := (okE _ _ _).below RM b16
  replace R2 := (okE _ _ _).below R2 b16
  replace T2 := T2.below b16 T2.lt
  have B16 := ac B15 b16
  clear b16 B15
  go_wp2
  go_ret
  exact ⟨rfl, B16⟩

theorem exactMutedEvents_all  (a0_0 : Option Addr) (n0_0 c0_0 : Nat) (l0_0 : List EventD) (w : World) (h0_0 : Lst EventD.cels 6 w a0_0 n0_0 l0_0) (m0_0 : n0_0 ≤ 9223372036854775807) (mb0_0 : ∀ e ∈ l0_0, e.f2.length ≤ 9223372036854775807) (hall :  n0_0 + sumE EventD.len l0_0 ≤ 1048576 → ∃ (Z0 : Int) (N0 : Nat) (D0 : List EventD), N0 ≤ 2000000 ∧ sumE EventD.wd D0 ≤ 2000000 ∧ (∀ e ∈ D0, e.f2.length ≤ 100000000) ∧ ∃ (P : World → Prop), P w ∧ (∀ W W' : World, Below W.heap.size W W' → P W → P W') ∧ Shut (∀ (g0_0 : Nat) (W : World) (_ : Lst EventD.cels 6 W (some ⟨g0_0, 0, none⟩) n0_0 l0_0), Calls Try.prog 20 #[.slice (some ⟨g0_0, 0, none⟩) n0_0 n0_0] W (fun e w' => (∃ A0 d0, e = .returned (.agg #[.int .i64 Z0, .slice A0 N0 d0]) ∧ (tE A0 N0 D0) w' (rng W.heap.size w'.heap.size)) ∧ Below W.heap.size W w')) ∧ Shut (∀ (g0_0 : Nat) (W : World) (_ : P W) (_ : Lst EventD.cels 6 W (some ⟨g0_0, 0, none⟩) n0_0 l0_0), Calls Try.prog 22 #[.slice (some ⟨g0_0, 0, none⟩) n0_0 n0_0] W (fun e w' => (∃ A0 d0, e = .returned (.agg #[.int .i64 Z0, .slice A0 N0 d0]) ∧ (tE A0 N0 D0) w' (rng W.heap.size w'.heap.size)) ∧ Below W.heap.size W w'))) :
    Calls Try.prog 4 #[.slice a0_0 n0_0 c0_0] w fun e w' => e = .returned (.bool true) ∧ Below w.heap.size w w' := by
  by_cases hz0 : n0_0 + sumE EventD.len l0_0 ≤ 1048576
  rotate_left
  · clear hall
    have hq0 : leftC 1048576 (n0_0 + sumE EventD.len l0_0) = -1 := by unfold leftC; rw [if_pos (by omega)]
    have cz0 := fun W (b : Below w.heap.size w W) => szEventS_any a0_0 n0_0 c0_0 l0_0 (1048576) W (h0_0.below b) (by omega) (by omega) m0_0 mb0_0
    unfold leftE at cz0
    rw [hq0] at cz0
    clear hq0
    have B0 := (Below.refl w.heap.size w)
    go_enter Try.func4, Try.ntmps4
    go_wp2_with fail
    refine (cz0 _ B0).mono ?_
    rintro e w1 ⟨rfl, b1⟩
    have B1_ := ac B0 b1
    go_wp2
    go_ret
    exact ⟨rfl, B1_⟩
  obtain ⟨Z0, N0, D0, hN0, hS0, hB0, P, hP, hkeep, Gs, Gi⟩ := hall hz0
  exact exactMutedEvents_walk  a0_0 n0_0 c0_0 l0_0 w h0_0 hz0 Z0 N0 D0 hN0 hS0 hB0 P hP hkeep Gs Gi
end Go.Proofs.Ytpaemmoopjkppaa
