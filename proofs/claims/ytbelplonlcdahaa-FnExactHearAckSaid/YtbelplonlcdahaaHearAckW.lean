/- The walk of the exact law of HearAck. -/
import Derived.Test.YtbelplonlcdahaaSndC
import Derived.Deep.RegionHeld3
import Derived.Deep.CutRange
namespace Go.Proofs.Ytbelplonlcdahaa
open Go.RowKit

set_option linter.unusedVariables false in
set_option maxRecDepth 100000 in
set_option maxHeartbeats 4000000 in
theorem exactHearAck_walk (s0_0 : Int) (k1 : Int) (k2 : Int) (a0_0 : Option Addr) (n0_0 c0_0 : Nat) (l0_0 : List PartD) (w : World) (h0_0 : Lst PartD.cels 4 w a0_0 n0_0 l0_0)  (hsz : totSender n0_0 l0_0 ≤ 1048576) (Z0 : Int) (Z1 : Int) (N0 : Nat) (D0 : List PartD) (hN0 : N0 ≤ 2000000) (hS0 : sumE PartD.wd D0 ≤ 2000000) (hB0 : ∀ e ∈ D0, e.f0.length ≤ 100000000) (P : World → Prop) (hP : P w) (hkeep : ∀ W W' : World, Below W.heap.size W W' → P W → P W') (Gs : Shut (∀ (g0_0 : Nat) (W : World) (_ : Lst PartD.cels 4 W (some ⟨g0_0, 0, none⟩) n0_0 l0_0), Calls Try.prog 34 #[.agg #[.int .i64 s0_0, .slice (some ⟨g0_0, 0, none⟩) n0_0 n0_0], .int .i64 k1, .int .i64 k2] W (fun e w' => (∃ A0 d0, e = .returned (.agg #[.int .i64 Z0, .int .i64 Z1, .slice A0 N0 d0]) ∧ (tP A0 N0 D0) w' (rng W.heap.size w'.heap.size)) ∧ Below W.heap.size W w'))) (Gi : Shut (∀ (g0_0 : Nat) (W : World) (_ : P W) (_ : Lst PartD.cels 4 W (some ⟨g0_0, 0, none⟩) n0_0 l0_0), Calls Try.prog 31 #[.agg #[.int .i64 s0_0, .slice (some ⟨g0_0, 0, none⟩) n0_0 n0_0], .int .i64 k1, .int .i64 k2] W (fun e w' => (∃ A0 d0, e = .returned (.agg #[.int .i64 Z0, .int .i64 Z1, .slice A0 N0 d0]) ∧ (tP A0 N0 D0) w' (rng W.heap.size w'.heap.size)) ∧ Below W.heap.size W w'))) :
    Calls Try.prog 9 #[.agg #[.int .i64 s0_0, .slice a0_0 n0_0 c0_0], .int .i64 k1, .int .i64 k2] w fun e w' => e = .returned (.bool true) ∧ Below w.heap.size w w' := by
  have HSZ : True := trivial
  have ts0 : totSender n0_0 l0_0 = n0_0 + sumE PartD.len l0_0 := rfl
  have f0_0 : n0_0 ≤ 1048576 := by omega
  have b0_0 : ∀ e ∈ l0_0, e.f0.length ≤ 1048576 := fun e he => by have h1 : e.f0.length ≤ sumE PartD.len l0_0 := sumE_mem PartD.len he; omega
  have q0_0 : sumE PartD.wd l0_0 ≤ 10000000 := by have h1 := sumPartD_wd l0_0; have h2 := h0_0.len; omega
  have G0 := Shut.mk (fun W (b : Below w.heap.size w W) => toSender_any s0_0 a0_0 n0_0 c0_0 l0_0 W (h0_0.below b) f0_0 b0_0)
  have hq0 : leftC 1048576 (totSender n0_0 l0_0) = 1048576 - (((totSender n0_0 l0_0 : Nat) : Int) : Int) := by unfold leftC; rw [if_neg (by omega)]
  have cz0 := fun W (b : Below w.heap.size w W) => szSender_any s0_0 a0_0 n0_0 c0_0 l0_0 (1048576) W (h0_0.below b) (by omega) (by omega) (by omega) (fun e he => by have := b0_0 e he; omega)
  rw [hq0] at cz0
  clear hq0
  obtain ⟨lf0, hlf0⟩ : ∃ x, x = 1048576 - ((totSender n0_0 l0_0 : Nat) : Int) := ⟨_, rfl⟩
  rw [← hlf0] at cz0
  have lp0 : ¬ lf0 < 0 := by omega
  have lm0 : lf0 ≤ 1048576 := by omega
  clear hlf0 ts0
  clear h0_0
  clear hsz
  have B0 := Below.refl w.heap.size w
  replace B0 := ab B0 (.cells #[.int .i64 s0_0, .slice a0_0 n0_0 c0_0] 70)
  have S0 := Stc.new w 70 [.int .i64 s0_0, .slice a0_0 n0_0 c0_0] _ rfl
  go_enter Try.func9, Try.ntmps9
  have x0 := S0.cell (i := 0) rfl
  have x1 := S0.cell (i := 1) rfl
  go_wp2_with fail
  refine (cz0 _ B0).mono ?_
  rintro e w1 ⟨rfl, b1⟩
  clear x0 x1
  have z1 := b1.size
  simp only [World.size_alloc] at z1
  replace S0 := S0.below b1 S0.lt
  have B1 := ac B0 b1
  clear b1 B0
  have x0 := S0.cell (i := 0) rfl
  have x1 := S0.cell (i := 1) rfl
  go_wp2_with fail
  refine (G0.out _ B1).mono ?_
  rintro e w2 ⟨⟨g2_0, rfl, M0⟩, b2⟩
  clear x0 x1
  have z2 := b2.size
  replace S0 := S0.below b2 S0.lt
  have B2 := ac B1 b2
  clear b2 B1
  have O0 := M0
  have O0_0 := O0
  replace O0_0 := Lo.rows O0_0
  go_wp2_with fail
  refine (Gs.out _ _ O0_0).mono ?_
  rintro e w3 ⟨⟨A0, u0, rfl, R0⟩, b3⟩
  clear O0_0
  clear M0
  have z3 := b3.size
  replace S0 := S0.below b3 S0.lt
  have B3 := ac B2 b3
  clear b3 B2
  replace S0 := S0.alloc (.cells #[.int .i64 Z0, .int .i64 Z1, .slice A0 N0 u0] 30)
  replace R0 := (okP _ _ _).alloc R0 (.cells #[.int .i64 Z0, .int .i64 Z1, .slice A0 N0 u0] 30)
  replace B3 := ab B3 (.cells #[.int .i64 Z0, .int .i64 Z1, .slice A0 N0 u0] 30)
  have T0 := Stc.new w3 30 [.int .i64 Z0, .int .i64 Z1, .slice A0 N0 u0] _ rfl
  have x0 := S0.cell (i := 0) rfl
  have x1 := S0.cell (i := 1) rfl
  go_wp2_with fail
  refine (G0.out _ B3).mono ?_
  rintro e w4 ⟨⟨g4_0, rfl, X0⟩, b4⟩
  clear x0 x1
  simp only [World.size_alloc] at X0
  have z4 := b4.size
  simp only [World.size_alloc] at z4
  replace S0 := S0.below b4 S0.lt
  replace R0 := (okP _ _ _).below R0 b4
  replace T0 := T0.below b4 T0.lt
  have B4 := ac B3 b4
  clear b4 B3
  replace S0 := S0.alloc (.cells #[.int .i64 s0_0, .slice (some ⟨g4_0, 0, none⟩) n0_0 n0_0] 26)
  replace R0 := (okP _ _ _).alloc R0 (.cells #[.int .i64 s0_0, .slice (some ⟨g4_0, 0, none⟩) n0_0 n0_0] 26)
  replace T0 := T0.alloc (.cells #[.int .i64 s0_0, .slice (some ⟨g4_0, 0, none⟩) n0_0 n0_0] 26)
  replace X0 := (okP _ _ _).alloc X0 (.cells #[.int .i64 s0_0, .slice (some ⟨g4_0, 0, none⟩) n0_0 n0_0] 26)
  replace B4 := ab B4 (.cells #[.int .i64 s0_0, .slice (some ⟨g4_0, 0, none⟩) n0_0 n0_0] 26)
  have XB0 := Stc.new w4 26 [.int .i64 s0_0, .slice (some ⟨g4_0, 0, none⟩) n0_0 n0_0] _ rfl
  have x0_0 := XB0.cell (i := 0) rfl
  have x0_1 := XB0.cell (i := 1) rfl
  have O0 := X0
  have O0_0 := O0
  replace O0_0 := Lo.rows O0_0
  have T1P := hkeep _ _ B4 hP
  go_wp2_with fail
  refine (Gi.out _ _ T1P O0_0).mono ?_
  rintro e w5 ⟨⟨DA0, v0, rfl, R1⟩, b5⟩
  clear T1P O0_0
  clear x0_0 x0_1
  simp only [World.size_alloc] at R1
  have z5 := b5.size
  simp only [World.size_alloc] at z5
  replace S0 := S0.below b5 S0.lt
  replace R0 := (okP _ _ _).below R0 b5
  replace T0 := T0.below b5 T0.lt
  replace X0 := (okP _ _ _).below X0 b5
  replace XB0 := XB0.below b5 XB0.lt
  have B5 := ac B4 b5
  clear b5 B4
  replace S0 := S0.alloc (.cells #[.int .i64 Z0, .int .i64 Z1, .slice DA0 N0 v0] 30)
  replace R0 := (okP _ _ _).alloc R0 (.cells #[.int .i64 Z0, .int .i64 Z1, .slice DA0 N0 v0] 30)
  replace T0 := T0.alloc (.cells #[.int .i64 Z0, .int .i64 Z1, .slice DA0 N0 v0] 30)
  replace X0 := (okP _ _ _).alloc X0 (.cells #[.int .i64 Z0, .int .i64 Z1, .slice DA0 N0 v0] 30)
  replace XB0 := XB0.alloc (.cells #[.int .i64 Z0, .int .i64 Z1, .slice DA0 N0 v0] 30)
  replace R1 := (okP _ _ _).alloc R1 (.cells #[.int .i64 Z0, .int .i64 Z1, .slice DA0 N0 v0] 30)
  replace B5 := ab B5 (.cells #[.int .i64 Z0, .int .i64 Z1, .slice DA0 N0 v0] 30)
  have T1 := Stc.new w5 30 [.int .i64 Z0, .int .i64 Z1, .slice DA0 N0 v0] _ rfl
  have x0 := T1.cell (i := 0) rfl
  have x1 := T1.cell (i := 1) rfl
  have x2 := T1.cell (i := 2) rfl
  have y0 := T0.cell (i := 0) rfl
  have y1 := T0.cell (i := 1) rfl
  have y2 := T0.cell (i := 2) rfl
  have V := R1
  have V_0 := V
  have V_0_0 := V_0
  replace V_0_0 := Lo.rows V_0_0
  have U := R0
  have U_0 := U
  have U_0_0 := U_0
  replace U_0_0 := Lo.rows U_0_0
  go_wp2_with fail
  refine (eqSenderResult_any Z0 Z1 _ _ _ _ _ _ _ V_0_0 U_0_0 (by omega) hB0).mono ?_
  rintro e w6 ⟨rfl, b6⟩
  clear x0 x1 x2
  clear y0 y1 y2
  clear V_0_0 U_0_0
  have z6 := b6.size
  simp only [World.size_alloc] at z6
  replace S0 := S0.below b6 S0.lt
  replace R0 := (okP _ _ _).below R0 b6
  replace T0 := T0.below b6 T0.lt
  replace X0 := (okP _ _ _).below X0 b6
  replace XB0 := XB0.below b6 XB0.lt
  replace R1 := (okP _ _ _).below R1 b6
  replace T1 := T1.below b6 T1.lt
  have B6 := ac B5 b6
  clear b6 B5
  have x0 := S0.cell (i := 0) rfl
  have x1 := S0.cell (i := 1) rfl
  have xx0 := XB0.cell (i := 0) rfl
  have xx1 := XB0.cell (i := 1) rfl
  have lS := S0.lt
  have lX := XB0.lt
  have hWW := Below.refl w6.heap.size w6
  have sl0 : w.heap.size < w6.heap.size := by first | assumption | omega
  have sl1 : w4.heap.size < w6.heap.size := by first | assumption | omega
  have GA : Shut (∀ W : World, (W.cell? ⟨w.heap.size, 0, none⟩ = some (.int .i64 s0_0) ∧ W.cell? ⟨w.heap.size, 1, none⟩ = some (.slice a0_0 n0_0 c0_0) ∧ W.cell? ⟨w4.heap.size, 0, none⟩ = some (.int .i64 s0_0) ∧ W.cell? ⟨w4.heap.size, 1, none⟩ = some (.slice (some ⟨g4_0, 0, none⟩) n0_0 n0_0) ∧ Below w6.heap.size w6 W) → Calls Try.prog 45 #[.agg #[.int .i64 s0_0, .slice a0_0 n0_0 c0_0]] W fun e w' => (∃ q0, e = .returned (.agg #[.int .i64 s0_0, .slice (some ⟨q0, 0, none⟩) n0_0 n0_0]) ∧ Lst PartD.cels 4 w' (some ⟨q0, 0, none⟩) n0_0 l0_0) ∧ w'.cell? ⟨w.heap.size, 0, none⟩ = some (.int .i64 s0_0) ∧ w'.cell? ⟨w.heap.size, 1, none⟩ = some (.slice a0_0 n0_0 c0_0) ∧ w'.cell? ⟨w4.heap.size, 0, none⟩ = some (.int .i64 s0_0) ∧ w'.cell? ⟨w4.heap.size, 1, none⟩ = some (.slice (some ⟨g4_0, 0, none⟩) n0_0 n0_0) ∧ Below w6.heap.size w6 w') := by
    refine ⟨fun W ⟨y0, y1, y2, y3, y4⟩ => (G0.out W (ac B6 y4)).mono ?_⟩
    rintro e w' ⟨⟨q0, rfl, R⟩, hb⟩
    have hc := fun (b i : Nat) (h : b < w6.heap.size) => hb.cell (p := ⟨b, i, none⟩) (Nat.lt_of_lt_of_le h y4.size)
    have OR := R
    have OR_0 := OR
    replace OR_0 := Lo.rows OR_0
    exact ⟨⟨q0, rfl, OR_0⟩, (hc (w.heap.size) 0 sl0).trans y0, (hc (w.heap.size) 1 sl0).trans y1, (hc (w4.heap.size) 0 sl1).trans y2, (hc (w4.heap.size) 1 sl1).trans y3, ac y4 hb⟩
  have OX := X0
  have OX_0 := OX
  replace OX_0 := Lo.rows OX_0
  have GB : Shut (∀ (q0 : Nat) (W : World), (W.cell? ⟨w.heap.size, 0, none⟩ = some (.int .i64 s0_0) ∧ W.cell? ⟨w.heap.size, 1, none⟩ = some (.slice a0_0 n0_0 c0_0) ∧ W.cell? ⟨w4.heap.size, 0, none⟩ = some (.int .i64 s0_0) ∧ W.cell? ⟨w4.heap.size, 1, none⟩ = some (.slice (some ⟨g4_0, 0, none⟩) n0_0 n0_0) ∧ Below w6.heap.size w6 W) → Lst PartD.cels 4 W (some ⟨q0, 0, none⟩) n0_0 l0_0 → Calls Try.prog 46 #[.agg #[.int .i64 s0_0, .slice (some ⟨g4_0, 0, none⟩) n0_0 n0_0], .agg #[.int .i64 s0_0, .slice (some ⟨q0, 0, none⟩) n0_0 n0_0]] W fun e w' => e = .returned (.bool true) ∧ w'.cell? ⟨w.heap.size, 0, none⟩ = some (.int .i64 s0_0) ∧ w'.cell? ⟨w.heap.size, 1, none⟩ = some (.slice a0_0 n0_0 c0_0) ∧ w'.cell? ⟨w4.heap.size, 0, none⟩ = some (.int .i64 s0_0) ∧ w'.cell? ⟨w4.heap.size, 1, none⟩ = some (.slice (some ⟨g4_0, 0, none⟩) n0_0 n0_0) ∧ Below w6.heap.size w6 w') := by
    refine ⟨fun q0 W ⟨y0, y1, y2, y3, y4⟩ p0 => (eqSender_any s0_0 _ _ _ _ _ _ W (OX_0.below y4) p0 (by omega) (fun e he => by have := b0_0 e he; omega)).mono ?_⟩
    rintro e w' ⟨rfl, hb⟩
    have hc := fun (b i : Nat) (h : b < w6.heap.size) => hb.cell (p := ⟨b, i, none⟩) (Nat.lt_of_lt_of_le h y4.size)
    exact ⟨rfl, (hc (w.heap.size) 0 sl0).trans y0, (hc (w.heap.size) 1 sl0).trans y1, (hc (w4.heap.size) 0 sl1).trans y2, (hc (w4.heap.size) 1 sl1).trans y3, ac y4 hb⟩
  clear OX_0
  go_wp2_with fail
  go_region_held3 (fun W => W.cell? ⟨w.heap.size, 0, none⟩ = some (.int .i64 s0_0) ∧ W.cell? ⟨w.heap.size, 1, none⟩ = some (.slice a0_0 n0_0 c0_0) ∧ W.cell? ⟨w4.heap.size, 0, none⟩ = some (.int .i64 s0_0) ∧ W.cell? ⟨w4.heap.size, 1, none⟩ = some (.slice (some ⟨g4_0, 0, none⟩) n0_0 n0_0) ∧ Below w6.heap.size w6 W)
    (first | (exact ⟨by assumption, by assumption, by assumption, by assumption, by assumption⟩) | (exact ⟨x0, x1, xx0, xx1, hWW.drew⟩) | go_keep)
    (first
      | (go_at_call 45; refine (GA.out _ ?_).mono ?_; (first | assumption | (simp [*]; done)); rintro e w7 ⟨⟨ee0, rfl, pp0⟩, y0, y1, y2, y3, y4⟩)
      | (go_at_call 46; refine (GB.out _ _ ?_ ?_).mono ?_; (first | assumption | (simp [*]; done)); assumption; rintro e w7 ⟨rfl, y0, y1, y2, y3, y4⟩))
  clear GA GB hWW sl0 sl1 lS lX y0 y1 y2 y3
  clear x0 x1
  clear xx0 xx1
  have z7 := y4.size
  replace S0 := S0.below y4 S0.lt
  replace R0 := (okP _ _ _).below R0 y4
  replace T0 := T0.below y4 T0.lt
  replace X0 := (okP _ _ _).below X0 y4
  replace XB0 := XB0.below y4 XB0.lt
  replace R1 := (okP _ _ _).below R1 y4
  replace T1 := T1.below y4 T1.lt
  have B7 := ac B6 y4
  clear y4 B6
  have x0 := XB0.cell (i := 0) rfl
  have x1 := XB0.cell (i := 1) rfl
  go_wp2_with fail
  refine (markSender_any s0_0 _ _ _ _ _ _ _ X0 (fun b hb => by unfold rng at hb; omega) (by omega) (by omega) (by omega) q0_0).mono ?_
  rintro e w8 ⟨rfl, _, tc8⟩
  clear x0 x1
  have z8 := tc8.size
  have tb := tc8.below (C := w.heap.size) (by have := B7.size; omega) (fun b hb => by unfold rng at hb; have := B7.size; omega)
  replace S0 := S0.tu tc8 (by unfold rng; omega)
  replace R0 := (okP _ _ _).tur R0 tc8 (by first | (left; omega) | (right; omega))
  replace T0 := T0.tu tc8 (by unfold rng; omega)
  replace XB0 := XB0.tu tc8 (by unfold rng; omega)
  replace R1 := (okP _ _ _).tur R1 tc8 (by first | (left; omega) | (right; omega))
  replace T1 := T1.tu tc8 (by unfold rng; omega)
  have B8 := B7.trans tb
  clear B7 tb tc8
  clear X0
  clear XB0
  have x0 := T1.cell (i := 0) rfl
  have x1 := T1.cell (i := 1) rfl
  have x2 := T1.cell (i := 2) rfl
  have y0 := T0.cell (i := 0) rfl
  have y1 := T0.cell (i := 1) rfl
  have y2 := T0.cell (i := 2) rfl
  have V := R1
  have V_0 := V
  have V_0_0 := V_0
  replace V_0_0 := Lo.rows V_0_0
  have U := R0
  have U_0 := U
  have U_0_0 := U_0
  replace U_0_0 := Lo.rows U_0_0
  go_wp2_with fail
  refine (eqSenderResult_any Z0 Z1 _ _ _ _ _ _ _ V_0_0 U_0_0 (by omega) hB0).mono ?_
  rintro e w9 ⟨rfl, b9⟩
  clear x0 x1 x2
  clear y0 y1 y2
  clear V_0_0 U_0_0
  have z9 := b9.size
  replace S0 := S0.below b9 S0.lt
  replace R0 := (okP _ _ _).below R0 b9
  replace T0 := T0.below b9 T0.lt
  replace R1 := (okP _ _ _).below R1 b9
  replace T1 := T1.below b9 T1.lt
  have B9 := ac B8 b9
  clear b9 B8
  have x0 := T1.cell (i := 0) rfl
  have x1 := T1.cell (i := 1) rfl
  have x2 := T1.cell (i := 2) rfl
  go_wp2_with fail
  refine (markSenderResult_any Z0 Z1 _ _ _ _ _ _ _ R1 (fun b hb => by unfold rng at hb; omega) (by omega) (by omega) (by omega) (by omega)).mono ?_
  rintro e w10 ⟨rfl, RM, tc10⟩
  clear x0 x1 x2
  have z10 := tc10.size
  have tb := tc10.below (C := w.heap.size) (by have := B9.size; omega) (fun b hb => by unfold rng at hb; have := B9.size; omega)
  replace S0 := S0.tu tc10 (by unfold rng; omega)
  replace R0 := (okP _ _ _).tur R0 tc10 (by first | (left; omega) | (right; omega))
  replace T0 := T0.tu tc10 (by unfold rng; omega)
  replace T1 := T1.tu tc10 (by unfold rng; omega)
  have B10 := B9.trans tb
  clear B9 tb tc10
  clear R1
  have x0 := T1.cell (i := 0) rfl
  have x1 := T1.cell (i := 1) rfl
  have x2 := T1.cell (i := 2) rfl
  have V := RM
  have V_0 := V
  have V_0_0 := V_0
  replace V_0_0 := Lo.rows V_0_0
  go_wp2_with fail
  refine (heldSenderResult_any Z0 Z1 _ _ _ _ _ _ V_0_0 (by omega) (by omega) (by omega) (by omega)).mono ?_
  rintro e w11 ⟨rfl, b11⟩
  clear x0 x1 x2
  clear V_0_0
  have z11 := b11.size
  replace S0 := S0.below b11 S0.lt
  replace R0 := (okP _ _ _).below R0 b11
  replace T0 := T0.below b11 T0.lt
  replace T1 := T1.below b11 T1.lt
  replace RM := (okP _ _ _).below RM b11
  have B11 := ac B10 b11
  clear b11 B10
  have x0 := S0.cell (i := 0) rfl
  have x1 := S0.cell (i := 1) rfl
  go_wp2_with fail
  refine (G0.out _ B11).mono ?_
  rintro e w12 ⟨⟨g12_0, rfl, E0⟩, b12⟩
  clear x0 x1
  have z12 := b12.size
  replace S0 := S0.below b12 S0.lt
  replace R0 := (okP _ _ _).below R0 b12
  replace T0 := T0.below b12 T0.lt
  replace T1 := T1.below b12 T1.lt
  replace RM := (okP _ _ _).below RM b12
  have B12 := ac B11 b12
  clear b12 B11
  have O0 := E0
  have O0_0 := O0
  replace O0_0 := Lo.rows O0_0
  have T1P := hkeep _ _ B12 hP
  go_wp2_with fail
  refine (Gi.out _ _ T1P O0_0).mono ?_
  rintro e w13 ⟨⟨EA0, f0, rfl, R2⟩, b13⟩
  clear T1P O0_0
  clear E0
  have z13 := b13.size
  replace S0 := S0.below b13 S0.lt
  replace R0 := (okP _ _ _).below R0 b13
  replace T0 := T0.below b13 T0.lt
  replace T1 := T1.below b13 T1.lt
  replace RM := (okP _ _ _).below RM b13
  have B13 := ac B12 b13
  clear b13 B12
  replace S0 := S0.alloc (.cells #[.int .i64 Z0, .int .i64 Z1, .slice EA0 N0 f0] 30)
  replace R0 := (okP _ _ _).alloc R0 (.cells #[.int .i64 Z0, .int .i64 Z1, .slice EA0 N0 f0] 30)
  replace T0 := T0.alloc (.cells #[.int .i64 Z0, .int .i64 Z1, .slice EA0 N0 f0] 30)
  replace T1 := T1.alloc (.cells #[.int .i64 Z0, .int .i64 Z1, .slice EA0 N0 f0] 30)
  replace RM := (okP _ _ _).alloc RM (.cells #[.int .i64 Z0, .int .i64 Z1, .slice EA0 N0 f0] 30)
  replace R2 := (okP _ _ _).alloc R2 (.cells #[.int .i64 Z0, .int .i64 Z1, .slice EA0 N0 f0] 30)
  replace B13 := ab B13 (.cells #[.int .i64 Z0, .int .i64 Z1, .slice EA0 N0 f0] 30)
  have T2 := Stc.new w13 30 [.int .i64 Z0, .int .i64 Z1, .slice EA0 N0 f0] _ rfl
  have x0 := T2.cell (i := 0) rfl
  have x1 := T2.cell (i := 1) rfl
  have x2 := T2.cell (i := 2) rfl
  have y0 := T0.cell (i := 0) rfl
  have y1 := T0.cell (i := 1) rfl
  have y2 := T0.cell (i := 2) rfl
  have V := R2
  have V_0 := V
  have V_0_0 := V_0
  replace V_0_0 := Lo.rows V_0_0
  have U := R0
  have U_0 := U
  have U_0_0 := U_0
  replace U_0_0 := Lo.rows U_0_0
  go_wp2_with fail
  refine (eqSenderResult_any Z0 Z1 _ _ _ _ _ _ _ V_0_0 U_0_0 (by omega) hB0).mono ?_
  rintro e w14 ⟨rfl, b14⟩
  clear x0 x1 x2
  clear y0 y1 y2
  clear V_0_0 U_0_0
  have z14 := b14.size
  simp only [World.size_alloc] at z14
  replace S0 := S0.below b14 S0.lt
  replace R0 := (okP _ _ _).below R0 b14
  replace T0 := T0.below b14 T0.lt
  replace T1 := T1.below b14 T1.lt
  replace RM := (okP _ _ _).below RM b14
  replace R2 := (okP _ _ _).below R2 b14
  replace T2 := T2.below b14 T2.lt
  have B14 := ac B13 b14
  clear b14 B13
  have x0 := T1.cell (i := 0) rfl
  have x1 := T1.cell (i := 1) rfl
  have x2 := T1.cell (i := 2) rfl
  have V := RM
  have V_0 := V
  have V_0_0 := V_0
  replace V_0_0 := Lo.rows V_0_0
  go_wp2_with fail
  refine (heldSenderResult_any Z0 Z1 _ _ _ _ _ _ V_0_0 (by omega) (by omega) (by omega) (by omega)).mono ?_
  rintro e w15 ⟨rfl, b15⟩
  clear x0 x1 x2
  clear V_0_0
  have z15 := b15.size
  replace S0 := S0.below b15 S0.lt
  replace R0 := (okP _ _ _).below R0 b15
  replace T0 := T0.below b15 T0.lt
  replace T1 := T1.below b15 T1.lt
  replace RM := (okP _ _ _).below RM b15
  replace R2 := (okP _ _ _).below R2 b15
  replace T2 := T2.below b15 T2.lt
  have B15 := ac B14 b15
  clear b15 B14
  go_wp2
  go_ret
  exact ⟨rfl, B15⟩

theorem exactHearAck_all (s0_0 : Int) (k1 : Int) (k2 : Int) (a0_0 : Option Addr) (n0_0 c0_0 : Nat) (l0_0 : List PartD) (w : World) (h0_0 : Lst PartD.cels 4 w a0_0 n0_0 l0_0) (m0_0 : n0_0 ≤ 9223372036854775807) (mb0_0 : ∀ e ∈ l0_0, e.f0.length ≤ 9223372036854775807) (hall :  totSender n0_0 l0_0 ≤ 1048576 → ∃ (Z0 : Int) (Z1 : Int) (N0 : Nat) (D0 : List PartD), N0 ≤ 2000000 ∧ sumE PartD.wd D0 ≤ 2000000 ∧ (∀ e ∈ D0, e.f0.length ≤ 100000000) ∧ ∃ (P : World → Prop), P w ∧ (∀ W W' : World, Below W.heap.size W W' → P W → P W') ∧ Shut (∀ (g0_0 : Nat) (W : World) (_ : Lst PartD.cels 4 W (some ⟨g0_0, 0, none⟩) n0_0 l0_0), Calls Try.prog 34 #[.agg #[.int .i64 s0_0, .slice (some ⟨g0_0, 0, none⟩) n0_0 n0_0], .int .i64 k1, .int .i64 k2] W (fun e w' => (∃ A0 d0, e = .returned (.agg #[.int .i64 Z0, .int .i64 Z1, .slice A0 N0 d0]) ∧ (tP A0 N0 D0) w' (rng W.heap.size w'.heap.size)) ∧ Below W.heap.size W w')) ∧ Shut (∀ (g0_0 : Nat) (W : World) (_ : P W) (_ : Lst PartD.cels 4 W (some ⟨g0_0, 0, none⟩) n0_0 l0_0), Calls Try.prog 31 #[.agg #[.int .i64 s0_0, .slice (some ⟨g0_0, 0, none⟩) n0_0 n0_0], .int .i64 k1, .int .i64 k2] W (fun e w' => (∃ A0 d0, e = .returned (.agg #[.int .i64 Z0, .int .i64 Z1, .slice A0 N0 d0]) ∧ (tP A0 N0 D0) w' (rng W.heap.size w'.heap.size)) ∧ Below W.heap.size W w'))) :
    Calls Try.prog 9 #[.agg #[.int .i64 s0_0, .slice a0_0 n0_0 c0_0], .int .i64 k1, .int .i64 k2] w fun e w' => e = .returned (.bool true) ∧ Below w.heap.size w w' := by
  by_cases hz0 : totSender n0_0 l0_0 ≤ 1048576
  rotate_left
  · clear hall
    have hq0 : leftC 1048576 (totSender n0_0 l0_0) = -1 := by unfold leftC; rw [if_pos (by omega)]
    have cz0 := fun W (b : Below w.heap.size w W) => szSender_any s0_0 a0_0 n0_0 c0_0 l0_0 (1048576) W (h0_0.below b) (by omega) (by omega) m0_0 mb0_0
    rw [hq0] at cz0
    clear hq0
    have S0 := Stc.new w 70 [.int .i64 s0_0, .slice a0_0 n0_0 c0_0] _ rfl
    have B0 := (ab (Below.refl _ w) (.cells #[.int .i64 s0_0, .slice a0_0 n0_0 c0_0] 70))
    go_enter Try.func9, Try.ntmps9
    have x0 := S0.cell (i := 0) rfl
    have x1 := S0.cell (i := 1) rfl
    go_wp2_with fail
    refine (cz0 _ B0).mono ?_
    rintro e w1 ⟨rfl, b1⟩
    clear x0 x1
    replace S0 := S0.below b1 S0.lt
    have B1_ := ac B0 b1
    go_wp2
    go_ret
    exact ⟨rfl, B1_⟩
  obtain ⟨Z0, Z1, N0, D0, hN0, hS0, hB0, P, hP, hkeep, Gs, Gi⟩ := hall hz0
  exact exactHearAck_walk s0_0 k1 k2 a0_0 n0_0 c0_0 l0_0 w h0_0 hz0 Z0 Z1 N0 D0 hN0 hS0 hB0 P hP hkeep Gs Gi
end Go.Proofs.Ytbelplonlcdahaa
