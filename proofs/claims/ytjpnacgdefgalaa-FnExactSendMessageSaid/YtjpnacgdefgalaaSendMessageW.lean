/- The walk of the exact law of SendMessage. -/
import Derived.Test.YtjpnacgdefgalaaSndC
import Derived.Deep.RegionHeld3
import Derived.Deep.CutRange
namespace Go.Proofs.Ytjpnacgdefgalaa
open Go.RowKit

set_option linter.unusedVariables false in
set_option maxRecDepth 100000 in
set_option maxHeartbeats 4000000 in
theorem exactSendMessage_walk (s0_0 : Int) (a0_0 : Option Addr) (n0_0 c0_0 : Nat) (l0_0 : List PartD) (a1_0 : Option Addr) (n1_0 c1_0 : Nat) (l1_0 : List Int) (w : World) (h0_0 : Lst PartD.cels 4 w a0_0 n0_0 l0_0) (h1_0 : Bs w a1_0 n1_0 l1_0) (hd1 : n1_0 ≤ 1048576) (hsz : totSender n0_0 l0_0 ≤ 1048576) (Z0 : Int) (Z1 : Int) (N0 : Nat) (D0 : List PartD) (hN0 : N0 ≤ 2000000) (hS0 : sumE PartD.wd D0 ≤ 2000000) (hB0 : ∀ e ∈ D0, e.f0.length ≤ 100000000) (P : World → Prop) (hP : P w) (hkeep : ∀ W W' : World, Below W.heap.size W W' → P W → P W') (Gs : Shut (∀ (g0_0 g1_0 : Nat) (W : World) (_ : Lst PartD.cels 4 W (some ⟨g0_0, 0, none⟩) n0_0 l0_0) (_ : Bs W (some ⟨g1_0, 0, none⟩) n1_0 l1_0), Calls Try.prog 31 #[.agg #[.int .i64 s0_0, .slice (some ⟨g0_0, 0, none⟩) n0_0 n0_0], .slice (some ⟨g1_0, 0, none⟩) n1_0 n1_0] W (fun e w' => (∃ A0 d0, e = .returned (.agg #[.int .i64 Z0, .int .i64 Z1, .slice A0 N0 d0]) ∧ (tP A0 N0 D0) w' (rng W.heap.size w'.heap.size)) ∧ Below W.heap.size W w'))) (Gi : Shut (∀ (g0_0 g1_0 : Nat) (W : World) (_ : P W) (_ : Lst PartD.cels 4 W (some ⟨g0_0, 0, none⟩) n0_0 l0_0) (_ : Bs W (some ⟨g1_0, 0, none⟩) n1_0 l1_0), Calls Try.prog 33 #[.agg #[.int .i64 s0_0, .slice (some ⟨g0_0, 0, none⟩) n0_0 n0_0], .slice (some ⟨g1_0, 0, none⟩) n1_0 n1_0] W (fun e w' => (∃ A0 d0, e = .returned (.agg #[.int .i64 Z0, .int .i64 Z1, .slice A0 N0 d0]) ∧ (tP A0 N0 D0) w' (rng W.heap.size w'.heap.size)) ∧ Below W.heap.size W w'))) :
    Calls Try.prog 7 #[.agg #[.int .i64 s0_0, .slice a0_0 n0_0 c0_0], .slice a1_0 n1_0 c1_0] w fun e w' => e = .returned (.bool true) ∧ Below w.heap.size w w' := by
  have HSZ : True := trivial
  have ts0 : totSender n0_0 l0_0 = n0_0 + sumE PartD.len l0_0 := rfl
  have f0_0 : n0_0 ≤ 1048576 := by omega
  have b0_0 : ∀ e ∈ l0_0, e.f0.length ≤ 1048576 := fun e he => by have h1 : e.f0.length ≤ sumE PartD.len l0_0 := sumE_mem PartD.len he; omega
  have q0_0 : sumE PartD.wd l0_0 ≤ 10000000 := by have h1 := sumPartD_wd l0_0; have h2 := h0_0.len; omega
  have f1_0 : n1_0 ≤ 1048576 := by omega
  have G0 := Shut.mk (fun W (b : Below w.heap.size w W) => toSender_any s0_0 a0_0 n0_0 c0_0 l0_0 W (h0_0.below b) f0_0 b0_0)
  have G1 := Shut.mk (fun W (b : Below w.heap.size w W) => toByteS_any a1_0 n1_0 c1_0 l1_0 W (h1_0.below b) (by omega))
  have e1_0 := h1_0.byte
  have Y1_0 := Shut.mk h1_0.len
  have hq0 : leftC 1048576 (totSender n0_0 l0_0) = 1048576 - (((totSender n0_0 l0_0 : Nat) : Int) : Int) := by unfold leftC; rw [if_neg (by omega)]
  have cz0 := fun W (b : Below w.heap.size w W) => szSender_any s0_0 a0_0 n0_0 c0_0 l0_0 (1048576) W (h0_0.below b) (by omega) (by omega) (by omega) (fun e he => by have := b0_0 e he; omega)
  rw [hq0] at cz0
  clear hq0
  obtain ⟨lf0, hlf0⟩ : ∃ x, x = 1048576 - ((totSender n0_0 l0_0 : Nat) : Int) := ⟨_, rfl⟩
  rw [← hlf0] at cz0
  have lp0 : ¬ lf0 < 0 := by omega
  have lm0 : lf0 ≤ 1048576 := by omega
  clear hlf0 ts0
  clear h0_0 h1_0
  clear hsz
  have B0 := Below.refl w.heap.size w
  replace B0 := ab B0 (.cells #[.int .i64 s0_0, .slice a0_0 n0_0 c0_0] 24)
  have S0 := Stc.new w 24 [.int .i64 s0_0, .slice a0_0 n0_0 c0_0] _ rfl
  go_enter Try.func7, Try.ntmps7
  have x0 := S0.cell (i := 0) rfl
  have x1 := S0.cell (i := 1) rfl
  go_wp2_with fail
  refine (cz0 _ B0).mono ?_
  rintro e w1 ⟨rfl, b1⟩
  clear x0 x1
  have z1 := b1.size
  simp only [World.size_alloc] at z1
  replace S0 := S0.below b1 S0.lt
  have B1 := ac B0 b1
  clear b1 B0
  have x0 := S0.cell (i := 0) rfl
  have x1 := S0.cell (i := 1) rfl
  go_wp2_with fail
  refine (G0.out _ B1).mono ?_
  rintro e w2 ⟨⟨g2_0, rfl, M0⟩, b2⟩
  clear x0 x1
  have z2 := b2.size
  replace S0 := S0.below b2 S0.lt
  have B2 := ac B1 b2
  clear b2 B1
  go_wp2_with fail
  refine (G1.out _ B2).mono ?_
  rintro e w3 ⟨rfl, K3, b3⟩
  have M1 : (tR (some ⟨w2.heap.size, 0, none⟩) n1_0 l1_0) w3 (rng (w2.heap.size) w3.heap.size) := Bo.ofOw (K3.own e1_0 Y1_0.out) fun b _ _ hB hl => ⟨hB, hl⟩
  have z3 := b3.size
  replace S0 := S0.below b3 S0.lt
  replace M0 := (okP _ _ _).below M0 b3
  have B3 := ac B2 b3
  clear b3 B2
  clear K3
  have O0 := M0
  have O0_0 := O0
  replace O0_0 := Lo.rows O0_0
  have O1_0 := Bo.bs M1
  go_wp2_with fail
  refine (Gs.out _ _ _ O0_0 O1_0).mono ?_
  rintro e w4 ⟨⟨A0, u0, rfl, R0⟩, b4⟩
  clear O0_0 O1_0
  clear M0 M1
  have z4 := b4.size
  replace S0 := S0.below b4 S0.lt
  have B4 := ac B3 b4
  clear b4 B3
  replace S0 := S0.alloc (.cells #[.int .i64 Z0, .int .i64 Z1, .slice A0 N0 u0] 61)
  replace R0 := (okP _ _ _).alloc R0 (.cells #[.int .i64 Z0, .int .i64 Z1, .slice A0 N0 u0] 61)
  replace B4 := ab B4 (.cells #[.int .i64 Z0, .int .i64 Z1, .slice A0 N0 u0] 61)
  have T0 := Stc.new w4 61 [.int .i64 Z0, .int .i64 Z1, .slice A0 N0 u0] _ rfl
  have x0 := S0.cell (i := 0) rfl
  have x1 := S0.cell (i := 1) rfl
  go_wp2_with fail
  refine (G0.out _ B4).mono ?_
  rintro e w5 ⟨⟨g5_0, rfl, X0⟩, b5⟩
  clear x0 x1
  simp only [World.size_alloc] at X0
  have z5 := b5.size
  simp only [World.size_alloc] at z5
  replace S0 := S0.below b5 S0.lt
  replace R0 := (okP _ _ _).below R0 b5
  replace T0 := T0.below b5 T0.lt
  have B5 := ac B4 b5
  clear b5 B4
  replace S0 := S0.alloc (.cells #[.int .i64 s0_0, .slice (some ⟨g5_0, 0, none⟩) n0_0 n0_0] 36)
  replace R0 := (okP _ _ _).alloc R0 (.cells #[.int .i64 s0_0, .slice (some ⟨g5_0, 0, none⟩) n0_0 n0_0] 36)
  replace T0 := T0.alloc (.cells #[.int .i64 s0_0, .slice (some ⟨g5_0, 0, none⟩) n0_0 n0_0] 36)
  replace X0 := (okP _ _ _).alloc X0 (.cells #[.int .i64 s0_0, .slice (some ⟨g5_0, 0, none⟩) n0_0 n0_0] 36)
  replace B5 := ab B5 (.cells #[.int .i64 s0_0, .slice (some ⟨g5_0, 0, none⟩) n0_0 n0_0] 36)
  have XB0 := Stc.new w5 36 [.int .i64 s0_0, .slice (some ⟨g5_0, 0, none⟩) n0_0 n0_0] _ rfl
  go_wp2_with fail
  refine (G1.out _ B5).mono ?_
  rintro e w6 ⟨rfl, K6, b6⟩
  simp only [World.size_alloc] at K6 ⊢
  have X1 : (tR (some ⟨w5.heap.size + 1, 0, none⟩) n1_0 l1_0) w6 (rng (w5.heap.size + 1) w6.heap.size) := Bo.ofOw (K6.own e1_0 Y1_0.out) fun b _ _ hB hl => ⟨hB, hl⟩
  have z6 := b6.size
  simp only [World.size_alloc] at z6
  replace S0 := S0.below b6 S0.lt
  replace R0 := (okP _ _ _).below R0 b6
  replace T0 := T0.below b6 T0.lt
  replace X0 := (okP _ _ _).below X0 b6
  replace XB0 := XB0.below b6 XB0.lt
  have B6 := ac B5 b6
  clear b6 B5
  clear K6
  have x0_0 := XB0.cell (i := 0) rfl
  have x0_1 := XB0.cell (i := 1) rfl
  have O0 := X0
  have O0_0 := O0
  replace O0_0 := Lo.rows O0_0
  have O1_0 := Bo.bs X1
  have T1P := hkeep _ _ B6 hP
  go_wp2_with fail
  refine (Gi.out _ _ _ T1P O0_0 O1_0).mono ?_
  rintro e w7 ⟨⟨DA0, v0, rfl, R1⟩, b7⟩
  clear T1P O0_0 O1_0
  clear x0_0 x0_1
  have z7 := b7.size
  replace S0 := S0.below b7 S0.lt
  replace R0 := (okP _ _ _).below R0 b7
  replace T0 := T0.below b7 T0.lt
  replace X0 := (okP _ _ _).below X0 b7
  replace XB0 := XB0.below b7 XB0.lt
  replace X1 := (okR _ _ _).below X1 b7
  have B7 := ac B6 b7
  clear b7 B6
  replace S0 := S0.alloc (.cells #[.int .i64 Z0, .int .i64 Z1, .slice DA0 N0 v0] 61)
  replace R0 := (okP _ _ _).alloc R0 (.cells #[.int .i64 Z0, .int .i64 Z1, .slice DA0 N0 v0] 61)
  replace T0 := T0.alloc (.cells #[.int .i64 Z0, .int .i64 Z1, .slice DA0 N0 v0] 61)
  replace X0 := (okP _ _ _).alloc X0 (.cells #[.int .i64 Z0, .int .i64 Z1, .slice DA0 N0 v0] 61)
  replace XB0 := XB0.alloc (.cells #[.int .i64 Z0, .int .i64 Z1, .slice DA0 N0 v0] 61)
  replace X1 := (okR _ _ _).alloc X1 (.cells #[.int .i64 Z0, .int .i64 Z1, .slice DA0 N0 v0] 61)
  replace R1 := (okP _ _ _).alloc R1 (.cells #[.int .i64 Z0, .int .i64 Z1, .slice DA0 N0 v0] 61)
  replace B7 := ab B7 (.cells #[.int .i64 Z0, .int .i64 Z1, .slice DA0 N0 v0] 61)
  have T1 := Stc.new w7 61 [.int .i64 Z0, .int .i64 Z1, .slice DA0 N0 v0] _ rfl
  have x0 := T1.cell (i := 0) rfl
  have x1 := T1.cell (i := 1) rfl
  have x2 := T1.cell (i := 2) rfl
  have y0 := T0.cell (i := 0) rfl
  have y1 := T0.cell (i := 1) rfl
  have y2 := T0.cell (i := 2) rfl
  have V := R1
  have V_0 := V
  have V_0_0 := V_0
  replace V_0_0 := Lo.rows V_0_0
  have U := R0
  have U_0 := U
  have U_0_0 := U_0
  replace U_0_0 := Lo.rows U_0_0
  go_wp2_with fail
  refine (eqSenderResult_any Z0 Z1 _ _ _ _ _ _ _ V_0_0 U_0_0 (by omega) hB0).mono ?_
  rintro e w8 ⟨rfl, b8⟩
  clear x0 x1 x2
  clear y0 y1 y2
  clear V_0_0 U_0_0
  have z8 := b8.size
  simp only [World.size_alloc] at z8
  replace S0 := S0.below b8 S0.lt
  replace R0 := (okP _ _ _).below R0 b8
  replace T0 := T0.below b8 T0.lt
  replace X0 := (okP _ _ _).below X0 b8
  replace XB0 := XB0.below b8 XB0.lt
  replace X1 := (okR _ _ _).below X1 b8
  replace R1 := (okP _ _ _).below R1 b8
  replace T1 := T1.below b8 T1.lt
  have B8 := ac B7 b8
  clear b8 B7
  have x0 := S0.cell (i := 0) rfl
  have x1 := S0.cell (i := 1) rfl
  have xx0 := XB0.cell (i := 0) rfl
  have xx1 := XB0.cell (i := 1) rfl
  have lS := S0.lt
  have lX := XB0.lt
  have hWW := Below.refl w8.heap.size w8
  have sl0 : w.heap.size < w8.heap.size := by first | assumption | omega
  have sl1 : w5.heap.size < w8.heap.size := by first | assumption | omega
  have GA : Shut (∀ W : World, (W.cell? ⟨w.heap.size, 0, none⟩ = some (.int .i64 s0_0) ∧ W.cell? ⟨w.heap.size, 1, none⟩ = some (.slice a0_0 n0_0 c0_0) ∧ W.cell? ⟨w5.heap.size, 0, none⟩ = some (.int .i64 s0_0) ∧ W.cell? ⟨w5.heap.size, 1, none⟩ = some (.slice (some ⟨g5_0, 0, none⟩) n0_0 n0_0) ∧ Below w8.heap.size w8 W) → Calls Try.prog 32 #[.agg #[.int .i64 s0_0, .slice a0_0 n0_0 c0_0]] W fun e w' => (∃ q0, e = .returned (.agg #[.int .i64 s0_0, .slice (some ⟨q0, 0, none⟩) n0_0 n0_0]) ∧ Lst PartD.cels 4 w' (some ⟨q0, 0, none⟩) n0_0 l0_0) ∧ w'.cell? ⟨w.heap.size, 0, none⟩ = some (.int .i64 s0_0) ∧ w'.cell? ⟨w.heap.size, 1, none⟩ = some (.slice a0_0 n0_0 c0_0) ∧ w'.cell? ⟨w5.heap.size, 0, none⟩ = some (.int .i64 s0_0) ∧ w'.cell? ⟨w5.heap.size, 1, none⟩ = some (.slice (some ⟨g5_0, 0, none⟩) n0_0 n0_0) ∧ Below w8.heap.size w8 w') := by
    refine ⟨fun W ⟨y0, y1, y2, y3, y4⟩ => (G0.out W (ac B8 y4)).mono ?_⟩
    rintro e w' ⟨⟨q0, rfl, R⟩, hb⟩
    have hc := fun (b i : Nat) (h : b < w8.heap.size) => hb.cell (p := ⟨b, i, none⟩) (Nat.lt_of_lt_of_le h y4.size)
    have OR := R
    have OR_0 := OR
    replace OR_0 := Lo.rows OR_0
    exact ⟨⟨q0, rfl, OR_0⟩, (hc (w.heap.size) 0 sl0).trans y0, (hc (w.heap.size) 1 sl0).trans y1, (hc (w5.heap.size) 0 sl1).trans y2, (hc (w5.heap.size) 1 sl1).trans y3, ac y4 hb⟩
  have OX := X0
  have OX_0 := OX
  replace OX_0 := Lo.rows OX_0
  have GB : Shut (∀ (q0 : Nat) (W : World), (W.cell? ⟨w.heap.size, 0, none⟩ = some (.int .i64 s0_0) ∧ W.cell? ⟨w.heap.size, 1, none⟩ = some (.slice a0_0 n0_0 c0_0) ∧ W.cell? ⟨w5.heap.size, 0, none⟩ = some (.int .i64 s0_0) ∧ W.cell? ⟨w5.heap.size, 1, none⟩ = some (.slice (some ⟨g5_0, 0, none⟩) n0_0 n0_0) ∧ Below w8.heap.size w8 W) → Lst PartD.cels 4 W (some ⟨q0, 0, none⟩) n0_0 l0_0 → Calls Try.prog 35 #[.agg #[.int .i64 s0_0, .slice (some ⟨g5_0, 0, none⟩) n0_0 n0_0], .agg #[.int .i64 s0_0, .slice (some ⟨q0, 0, none⟩) n0_0 n0_0]] W fun e w' => e = .returned (.bool true) ∧ w'.cell? ⟨w.heap.size, 0, none⟩ = some (.int .i64 s0_0) ∧ w'.cell? ⟨w.heap.size, 1, none⟩ = some (.slice a0_0 n0_0 c0_0) ∧ w'.cell? ⟨w5.heap.size, 0, none⟩ = some (.int .i64 s0_0) ∧ w'.cell? ⟨w5.heap.size, 1, none⟩ = some (.slice (some ⟨g5_0, 0, none⟩) n0_0 n0_0) ∧ Below w8.heap.size w8 w') := by
    refine ⟨fun q0 W ⟨y0, y1, y2, y3, y4⟩ p0 => (eqSender_any s0_0 _ _ _ _ _ _ W (OX_0.below y4) p0 (by omega) (fun e he => by have := b0_0 e he; omega)).mono ?_⟩
    rintro e w' ⟨rfl, hb⟩
    have hc := fun (b i : Nat) (h : b < w8.heap.size) => hb.cell (p := ⟨b, i, none⟩) (Nat.lt_of_lt_of_le h y4.size)
    exact ⟨rfl, (hc (w.heap.size) 0 sl0).trans y0, (hc (w.heap.size) 1 sl0).trans y1, (hc (w5.heap.size) 0 sl1).trans y2, (hc (w5.heap.size) 1 sl1).trans y3, ac y4 hb⟩
  clear OX_0
  go_wp2_with fail
  go_region_held3 (fun W => W.cell? ⟨w.heap.size, 0, none⟩ = some (.int .i64 s0_0) ∧ W.cell? ⟨w.heap.size, 1, none⟩ = some (.slice a0_0 n0_0 c0_0) ∧ W.cell? ⟨w5.heap.size, 0, none⟩ = some (.int .i64 s0_0) ∧ W.cell? ⟨w5.heap.size, 1, none⟩ = some (.slice (some ⟨g5_0, 0, none⟩) n0_0 n0_0) ∧ Below w8.heap.size w8 W)
    (first | (exact ⟨by assumption, by assumption, by assumption, by assumption, by assumption⟩) | (exact ⟨x0, x1, xx0, xx1, hWW.drew⟩) | go_keep)
    (first
      | (go_at_call 32; refine (GA.out _ ?_).mono ?_; (first | assumption | (simp [*]; done)); rintro e w9 ⟨⟨ee0, rfl, pp0⟩, y0, y1, y2, y3, y4⟩)
      | (go_at_call 35; refine (GB.out _ _ ?_ ?_).mono ?_; (first | assumption | (simp [*]; done)); assumption; rintro e w9 ⟨rfl, y0, y1, y2, y3, y4⟩))
  clear GA GB hWW sl0 sl1 lS lX y0 y1 y2 y3
  clear x0 x1
  clear xx0 xx1
  have z9 := y4.size
  replace S0 := S0.below y4 S0.lt
  replace R0 := (okP _ _ _).below R0 y4
  replace T0 := T0.below y4 T0.lt
  replace X0 := (okP _ _ _).below X0 y4
  replace XB0 := XB0.below y4 XB0.lt
  replace X1 := (okR _ _ _).below X1 y4
  replace R1 := (okP _ _ _).below R1 y4
  replace T1 := T1.below y4 T1.lt
  have B9 := ac B8 y4
  clear y4 B8
  go_wp2_with fail
  refine (G1.out _ B9).mono ?_
  rintro e w10 ⟨rfl, K10, b10⟩
  have Q1 : (tR (some ⟨w9.heap.size, 0, none⟩) n1_0 l1_0) w10 (rng (w9.heap.size) w10.heap.size) := Bo.ofOw (K10.own e1_0 Y1_0.out) fun b _ _ hB hl => ⟨hB, hl⟩
  have z10 := b10.size
  replace S0 := S0.below b10 S0.lt
  replace R0 := (okP _ _ _).below R0 b10
  replace T0 := T0.below b10 T0.lt
  replace X0 := (okP _ _ _).below X0 b10
  replace XB0 := XB0.below b10 XB0.lt
  replace X1 := (okR _ _ _).below X1 b10
  replace R1 := (okP _ _ _).below R1 b10
  replace T1 := T1.below b10 T1.lt
  have B10 := ac B9 b10
  clear b10 B9
  clear K10
  go_wp2_with fail
  refine (eqByteS_any _ _ _ _ _ _ _ _ _ (Bo.bs X1) (Bo.bs Q1) (by omega) (by omega)).mono ?_
  rintro e u11 ⟨rfl, q11, rfl⟩
  simp only [decide_true]
  replace S0 := S0.drewN q11
  replace R0 := (okP _ _ _).drewN R0 q11
  replace T0 := T0.drewN q11
  replace X0 := (okP _ _ _).drewN X0 q11
  replace XB0 := XB0.drewN q11
  replace X1 := (okR _ _ _).drewN X1 q11
  replace R1 := (okP _ _ _).drewN R1 q11
  replace T1 := T1.drewN q11
  replace B10 := ad B10 q11
  clear Q1
  have z11 : (w10.drewN q11).heap.size = w10.heap.size := rfl
  generalize w10.drewN q11 = u11 at *
  replace z11 : w10.heap.size ≤ u11.heap.size := by omega
  have x0 := XB0.cell (i := 0) rfl
  have x1 := XB0.cell (i := 1) rfl
  go_wp2_with fail
  refine (markSender_any s0_0 _ _ _ _ _ _ _ X0 (fun b hb => by unfold rng at hb; omega) (by omega) (by omega) (by omega) q0_0).mono ?_
  rintro e w12 ⟨rfl, _, tc12⟩
  clear x0 x1
  have z12 := tc12.size
  have tb := tc12.below (C := w.heap.size) (by have := B10.size; omega) (fun b hb => by unfold rng at hb; have := B10.size; omega)
  replace S0 := S0.tu tc12 (by unfold rng; omega)
  replace R0 := (okP _ _ _).tur R0 tc12 (by first | (left; omega) | (right; omega))
  replace T0 := T0.tu tc12 (by unfold rng; omega)
  replace XB0 := XB0.tu tc12 (by unfold rng; omega)
  replace X1 := (okR _ _ _).tur X1 tc12 (by first | (left; omega) | (right; omega))
  replace R1 := (okP _ _ _).tur R1 tc12 (by first | (left; omega) | (right; omega))
  replace T1 := T1.tu tc12 (by unfold rng; omega)
  have B12 := B10.trans tb
  clear B10 tb tc12
  clear X0
  clear XB0
  go_wp2_with fail
  refine (markByteS_any _ _ _ _ _ _ _ (Bo.ow0 X1) (by omega) (by omega) (by omega)).mono ?_
  rintro e w13 ⟨rfl, _, on13⟩
  have tc13 : Tu (rng (w5.heap.size + 1) (w6.heap.size)) _ w13 := Tu.ofOnly on13 (Bo.inside X1)
  clear on13
  have z13 := tc13.size
  have tb := tc13.below (C := w.heap.size) (by have := B12.size; omega) (fun b hb => by unfold rng at hb; have := B12.size; omega)
  replace S0 := S0.tu tc13 (by unfold rng; omega)
  replace R0 := (okP _ _ _).tur R0 tc13 (by first | (left; omega) | (right; omega))
  replace T0 := T0.tu tc13 (by unfold rng; omega)
  replace R1 := (okP _ _ _).tur R1 tc13 (by first | (left; omega) | (right; omega))
  replace T1 := T1.tu tc13 (by unfold rng; omega)
  have B13 := B12.trans tb
  clear B12 tb tc13
  clear X1
  have x0 := T1.cell (i := 0) rfl
  have x1 := T1.cell (i := 1) rfl
  have x2 := T1.cell (i := 2) rfl
  have y0 := T0.cell (i := 0) rfl
  have y1 := T0.cell (i := 1) rfl
  have y2 := T0.cell (i := 2) rfl
  have V := R1
  have V_0 := V
  have V_0_0 := V_0
  replace V_0_0 := Lo.rows V_0_0
  have U := R0
  have U_0 := U
  have U_0_0 := U_0
  replace U_0_0 := Lo.rows U_0_0
  go_wp2_with fail
  refine (eqSenderResult_any Z0 Z1 _ _ _ _ _ _ _ V_0_0 U_0_0 (by omega) hB0).mono ?_
  rintro e w14 ⟨rfl, b14⟩
  clear x0 x1 x2
  clear y0 y1 y2
  clear V_0_0 U_0_0
  have z14 := b14.size
  replace S0 := S0.below b14 S0.lt
  replace R0 := (okP _ _ _).below R0 b14
  replace T0 := T0.below b14 T0.lt
  replace R1 := (okP _ _ _).below R1 b14
  replace T1 := T1.below b14 T1.lt
  have B14 := ac B13 b14
  clear b14 B13
  have x0 := T1.cell (i := 0) rfl
  have x1 := T1.cell (i := 1) rfl
  have x2 := T1.cell (i := 2) rfl
  go_wp2_with fail
  refine (markSenderResult_any Z0 Z1 _ _ _ _ _ _ _ R1 (fun b hb => by unfold rng at hb; omega) (by omega) (by omega) (by omega) (by omega)).mono ?_
  rintro e w15 ⟨rfl, RM, tc15⟩
  clear x0 x1 x2
  have z15 := tc15.size
  have tb := tc15.below (C := w.heap.size) (by have := B14.size; omega) (fun b hb => by unfold rng at hb; have := B14.size; omega)
  replace S0 := S0.tu tc15 (by unfold rng; omega)
  replace R0 := (okP _ _ _).tur R0 tc15 (by first | (left; omega) | (right; omega))
  replace T0 := T0.tu tc15 (by unfold rng; omega)
  replace T1 := T1.tu tc15 (by unfold rng; omega)
  have B15 := B14.trans tb
  clear B14 tb tc15
  clear R1
  have x0 := T1.cell (i := 0) rfl
  have x1 := T1.cell (i := 1) rfl
  have x2 := T1.cell (i := 2) rfl
  have V := RM
  have V_0 := V
  have V_0_0 := V_0
  replace V_0_0 := Lo.rows V_0_0
  go_wp2_with fail
  refine (heldSenderResult_any Z0 Z1 _ _ _ _ _ _ V_0_0 (by omega) (by omega) (by omega) (by omega)).mono ?_
  rintro e w16 ⟨rfl, b16⟩
  clear x0 x1 x2
  clear V_0_0
  have z16 := b16.size
  replace S0 := S0.below b16 S0.lt
  replace R0 := (okP _ _ _).below R0 b16
  replace T0 := T0.below b16 T0.lt
  replace T1 := T1.below b16 T1.lt
  replace RM := (okP _ _ _).below RM b16
  have B16 := ac B15 b16
  clear b16 B15
  have x0 := S0.cell (i := 0) rfl
  have x1 := S0.cell (i := 1) rfl
  go_wp2_with fail
  refine (G0.out _ B16).mono ?_
  rintro e w17 ⟨⟨g17_0, rfl, E0⟩, b17⟩
  clear x0 x1
  have z17 := b17.size
  replace S0 := S0.below b17 S0.lt
  replace R0 := (okP _ _ _).below R0 b17
  replace T0 := T0.below b17 T0.lt
  replace T1 := T1.below b17 T1.lt
  replace RM := (okP _ _ _).below RM b17
  have B17 := ac B16 b17
  clear b17 B16
  go_wp2_with fail
  refine (G1.out _ B17).mono ?_
  rintro e w18 ⟨rfl, K18, b18⟩
  have E1 : (tR (some ⟨w17.heap.size, 0, none⟩) n1_0 l1_0) w18 (rng (w17.heap.size) w18.heap.size) := Bo.ofOw (K18.own e1_0 Y1_0.out) fun b _ _ hB hl => ⟨hB, hl⟩
  have z18 := b18.size
  replace S0 := S0.below b18 S0.lt
  replace R0 := (okP _ _ _).below R0 b18
  replace T0 := T0.below b18 T0.lt
  replace T1 := T1.below b18 T1.lt
  replace RM := (okP _ _ _).below RM b18
  replace E0 := (okP _ _ _).below E0 b18
  have B18 := ac B17 b18
  clear b18 B17
  clear K18
  have O0 := E0
  have O0_0 := O0
  replace O0_0 := Lo.rows O0_0
  have O1_0 := Bo.bs E1
  have T1P := hkeep _ _ B18 hP
  go_wp2_with fail
  refine (Gi.out _ _ _ T1P O0_0 O1_0).mono ?_
  rintro e w19 ⟨⟨EA0, f0, rfl, R2⟩, b19⟩
  clear T1P O0_0 O1_0
  clear E0 E1
  have z19 := b19.size
  replace S0 := S0.below b19 S0.lt
  replace R0 := (okP _ _ _).below R0 b19
  replace T0 := T0.below b19 T0.lt
  replace T1 := T1.below b19 T1.lt
  replace RM := (okP _ _ _).below RM b19
  have B19 := ac B18 b19
  clear b19 B18
  replace S0 := S0.alloc (.cells #[.int .i64 Z0, .int .i64 Z1, .slice EA0 N0 f0] 61)
  replace R0 := (okP _ _ _).alloc R0 (.cells #[.int .i64 Z0, .int .i64 Z1, .slice EA0 N0 f0] 61)
  replace T0 := T0.alloc (.cells #[.int .i64 Z0, .int .i64 Z1, .slice EA0 N0 f0] 61)
  replace T1 := T1.alloc (.cells #[.int .i64 Z0, .int .i64 Z1, .slice EA0 N0 f0] 61)
  replace RM := (okP _ _ _).alloc RM (.cells #[.int .i64 Z0, .int .i64 Z1, .slice EA0 N0 f0] 61)
  replace R2 := (okP _ _ _).alloc R2 (.cells #[.int .i64 Z0, .int .i64 Z1, .slice EA0 N0 f0] 61)
  replace B19 := ab B19 (.cells #[.int .i64 Z0, .int .i64 Z1, .slice EA0 N0 f0] 61)
  have T2 := Stc.new w19 61 [.int .i64 Z0, .int .i64 Z1, .slice EA0 N0 f0] _ rfl
  have x0 := T2.cell (i := 0) rfl
  have x1 := T2.cell (i := 1) rfl
  have x2 := T2.cell (i := 2) rfl
  have y0 := T0.cell (i := 0) rfl
  have y1 := T0.cell (i := 1) rfl
  have y2 := T0.cell (i := 2) rfl
  have V := R2
  have V_0 := V
  have V_0_0 := V_0
  replace V_0_0 := Lo.rows V_0_0
  have U := R0
  have U_0 := U
  have U_0_0 := U_0
  replace U_0_0 := Lo.rows U_0_0
  go_wp2_with fail
  refine (eqSenderResult_any Z0 Z1 _ _ _ _ _ _ _ V_0_0 U_0_0 (by omega) hB0).mono ?_
  rintro e w20 ⟨rfl, b20⟩
  clear x0 x1 x2
  clear y0 y1 y2
  clear V_0_0 U_0_0
  have z20 := b20.size
  simp only [World.size_alloc] at z20
  replace S0 := S0.below b20 S0.lt
  replace R0 := (okP _ _ _).below R0 b20
  replace T0 := T0.below b20 T0.lt
  replace T1 := T1.below b20 T1.lt
  replace RM := (okP _ _ _).below RM b20
  replace R2 := (okP _ _ _).below R2 b20
  replace T2 := T2.below b20 T2.lt
  have B20 := ac B19 b20
  clear b20 B19
  have x0 := T1.cell (i := 0) rfl
  have x1 := T1.cell (i := 1) rfl
  have x2 := T1.cell (i := 2) rfl
  have V := RM
  have V_0 := V
  have V_0_0 := V_0
  replace V_0_0 := Lo.rows V_0_0
  go_wp2_with fail
  refine (heldSenderResult_any Z0 Z1 _ _ _ _ _ _ V_0_0 (by omega) (by omega) (by omega) (by omega)).mono ?_
  rintro e w21 ⟨rfl, b21⟩
  clear x0 x1 x2
  clear V_0_0
  have z21 := b21.size
  replace S0 := S0.below b21 S0.lt
  replace R0 := (okP _ _ _).below R0 b21
  replace T0 := T0.below b21 T0.lt
  replace T1 := T1.below b21 T1.lt
  replace RM := (okP _ _ _).below RM b21
  replace R2 := (okP _ _ _).below R2 b21
  replace T2 := T2.below b21 T2.lt
  have B21 := ac B20 b21
  clear b21 B20
  go_wp2
  go_ret
  exact ⟨rfl, B21⟩

theorem exactSendMessage_all (s0_0 : Int) (a0_0 : Option Addr) (n0_0 c0_0 : Nat) (l0_0 : List PartD) (a1_0 : Option Addr) (n1_0 c1_0 : Nat) (l1_0 : List Int) (w : World) (h0_0 : Lst PartD.cels 4 w a0_0 n0_0 l0_0) (h1_0 : Bs w a1_0 n1_0 l1_0) (m0_0 : n0_0 ≤ 9223372036854775807) (mb0_0 : ∀ e ∈ l0_0, e.f0.length ≤ 9223372036854775807) (m1_0 : n1_0 ≤ 9223372036854775807) (hall : n1_0 ≤ 1048576 → totSender n0_0 l0_0 ≤ 1048576 → ∃ (Z0 : Int) (Z1 : Int) (N0 : Nat) (D0 : List PartD), N0 ≤ 2000000 ∧ sumE PartD.wd D0 ≤ 2000000 ∧ (∀ e ∈ D0, e.f0.length ≤ 100000000) ∧ ∃ (P : World → Prop), P w ∧ (∀ W W' : World, Below W.heap.size W W' → P W → P W') ∧ Shut (∀ (g0_0 g1_0 : Nat) (W : World) (_ : Lst PartD.cels 4 W (some ⟨g0_0, 0, none⟩) n0_0 l0_0) (_ : Bs W (some ⟨g1_0, 0, none⟩) n1_0 l1_0), Calls Try.prog 31 #[.agg #[.int .i64 s0_0, .slice (some ⟨g0_0, 0, none⟩) n0_0 n0_0], .slice (some ⟨g1_0, 0, none⟩) n1_0 n1_0] W (fun e w' => (∃ A0 d0, e = .returned (.agg #[.int .i64 Z0, .int .i64 Z1, .slice A0 N0 d0]) ∧ (tP A0 N0 D0) w' (rng W.heap.size w'.heap.size)) ∧ Below W.heap.size W w')) ∧ Shut (∀ (g0_0 g1_0 : Nat) (W : World) (_ : P W) (_ : Lst PartD.cels 4 W (some ⟨g0_0, 0, none⟩) n0_0 l0_0) (_ : Bs W (some ⟨g1_0, 0, none⟩) n1_0 l1_0), Calls Try.prog 33 #[.agg #[.int .i64 s0_0, .slice (some ⟨g0_0, 0, none⟩) n0_0 n0_0], .slice (some ⟨g1_0, 0, none⟩) n1_0 n1_0] W (fun e w' => (∃ A0 d0, e = .returned (.agg #[.int .i64 Z0, .int .i64 Z1, .slice A0 N0 d0]) ∧ (tP A0 N0 D0) w' (rng W.heap.size w'.heap.size)) ∧ Below W.heap.size W w'))) :
    Calls Try.prog 7 #[.agg #[.int .i64 s0_0, .slice a0_0 n0_0 c0_0], .slice a1_0 n1_0 c1_0] w fun e w' => e = .returned (.bool true) ∧ Below w.heap.size w w' := by
  by_cases hd1 : n1_0 ≤ 1048576
  rotate_left
  · clear hall
    go_enter Try.func7, Try.ntmps7
    go_wp2
    go_ret
    exact ⟨rfl, (ab (Below.refl _ w) _)⟩
  by_cases hz0 : totSender n0_0 l0_0 ≤ 1048576
  rotate_left
  · clear hall
    have hq0 : leftC 1048576 (totSender n0_0 l0_0) = -1 := by unfold leftC; rw [if_pos (by omega)]
    have cz0 := fun W (b : Below w.heap.size w W) => szSender_any s0_0 a0_0 n0_0 c0_0 l0_0 (1048576) W (h0_0.below b) (by omega) (by omega) m0_0 mb0_0
    rw [hq0] at cz0
    clear hq0
    have S0 := Stc.new w 24 [.int .i64 s0_0, .slice a0_0 n0_0 c0_0] _ rfl
    have B0 := (ab (Below.refl _ w) (.cells #[.int .i64 s0_0, .slice a0_0 n0_0 c0_0] 24))
    go_enter Try.func7, Try.ntmps7
    have x0 := S0.cell (i := 0) rfl
    have x1 := S0.cell (i := 1) rfl
    go_wp2_with fail
    refine (cz0 _ B0).mono ?_
    rintro e w1 ⟨rfl, b1⟩
    clear x0 x1
    replace S0 := S0.below b1 S0.lt
    have B1_ := ac B0 b1
    go_wp2
    go_ret
    exact ⟨rfl, B1_⟩
  obtain ⟨Z0, Z1, N0, D0, hN0, hS0, hB0, P, hP, hkeep, Gs, Gi⟩ := hall hd1 hz0
  exact exactSendMessage_walk s0_0 a0_0 n0_0 c0_0 l0_0 a1_0 n1_0 c1_0 l1_0 w h0_0 h1_0 hd1 hz0 Z0 Z1 N0 D0 hN0 hS0 hB0 P hP hkeep Gs Gi
end Go.Proofs.Ytjpnacgdefgalaa
