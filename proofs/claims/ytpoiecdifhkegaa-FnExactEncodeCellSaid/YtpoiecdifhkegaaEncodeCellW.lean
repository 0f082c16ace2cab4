/- The walk of the exact law of EncodeCell. -/
import Derived.Test.YtpoiecdifhkegaaCellC
import Derived.Deep.RegionHeld3
namespace Go.Proofs.Ytpoiecdifhkegaa
open Go.RowKit

set_option maxRecDepth 100000 in
set_option maxHeartbeats 4000000 in
theorem exactEncodeCell_walk (s0_0 : Int) (s0_1 : Int) (s0_2 : Int) (s0_3 : Int) (s0_4 : Bool) (a0_0 : Option Addr) (n0_0 c0_0 : Nat) (l0_0 : List Int) (w : World) (h0_0 : Bs w a0_0 n0_0 l0_0)  (hsz : n0_0 ≤ 1048576) (Z0 : Int) (N0 : Nat) (L0 : List Int) (hN0 : N0 ≤ 2000000) (P : World → Prop) (hP : P w) (hkeep : ∀ W W' : World, Below W.heap.size W W' → P W → P W') (Gs : Shut (∀ (g0_0 : Nat) (W : World) (_ : Bs W (some ⟨g0_0, 0, none⟩) n0_0 l0_0), Calls Try.prog 16 #[.agg #[.int .i64 s0_0, .int .i64 s0_1, .int .i64 s0_2, .int .i64 s0_3, .bool s0_4, .slice (some ⟨g0_0, 0, none⟩) n0_0 n0_0]] W (fun e w' => (∃ A0 d0, e = .returned (.agg #[.int .i64 Z0, .slice A0 N0 d0]) ∧ Rs w' W.heap.size [(A0, N0, L0)]) ∧ Below W.heap.size W w'))) (Gi : Shut (∀ (g0_0 : Nat) (W : World) (_ : P W) (_ : Bs W (some ⟨g0_0, 0, none⟩) n0_0 l0_0), Calls Try.prog 11 #[.agg #[.int .i64 s0_0, .int .i64 s0_1, .int .i64 s0_2, .int .i64 s0_3, .bool s0_4, .slice (some ⟨g0_0, 0, none⟩) n0_0 n0_0]] W (fun e w' => (∃ A0 d0, e = .returned (.agg #[.int .i64 Z0, .slice A0 N0 d0]) ∧ Rs w' W.heap.size [(A0, N0, L0)]) ∧ Below W.heap.size W w'))) :
    Calls Try.prog 5 #[.agg #[.int .i64 s0_0, .int .i64 s0_1, .int .i64 s0_2, .int .i64 s0_3, .bool s0_4, .slice a0_0 n0_0 c0_0]] w fun e w' => e = .returned (.bool true) ∧ Below w.heap.size w w' := by
  have G0 := Shut.mk (fun W (b : Below w.heap.size w W) => toCell_any s0_0 s0_1 s0_2 s0_3 s0_4 a0_0 n0_0 c0_0 l0_0 W (h0_0.below b) (by omega))
  have f0_0 : n0_0 ≤ 1048576 := by omega
  have d0_0 : n0_0 ≤ 140737488351232 := by omega
  have hq0 : leftC 1048576 n0_0 = 1048576 - (n0_0 : Int) := by unfold leftC; rw [if_neg (by omega)]
  have cz0 := fun W => szCell_any s0_0 s0_1 s0_2 s0_3 s0_4 a0_0 n0_0 c0_0 (1048576) W (by omega) (by omega) (by omega)
  rw [hq0] at cz0
  clear hq0
  obtain ⟨lf0, hlf0⟩ : ∃ x, x = 1048576 - (n0_0 : Int) := ⟨_, rfl⟩
  rw [← hlf0] at cz0
  have lp0 : ¬ lf0 < 0 := by omega
  have lm0 : lf0 ≤ 1048576 := by omega
  clear hlf0
  clear h0_0
  clear hsz
  have B0 := Below.refl w.heap.size w
  replace B0 := ab B0 (.cells #[.int .i64 s0_0, .int .i64 s0_1, .int .i64 s0_2, .int .i64 s0_3, .bool s0_4, .slice a0_0 n0_0 c0_0] 40)
  have S0 := Stc.new w 40 [.int .i64 s0_0, .int .i64 s0_1, .int .i64 s0_2, .int .i64 s0_3, .bool s0_4, .slice a0_0 n0_0 c0_0] _ rfl
  go_enter Try.func5, Try.ntmps5
  have x0 := S0.cell (i := 0) rfl
  have x1 := S0.cell (i := 1) rfl
  have x2 := S0.cell (i := 2) rfl
  have x3 := S0.cell (i := 3) rfl
  have x4 := S0.cell (i := 4) rfl
  have x5 := S0.cell (i := 5) rfl
  go_wp2_with fail
  refine (cz0 _).mono ?_
  rintro e w1 ⟨rfl, b1⟩
  clear x0 x1 x2 x3 x4 x5
  have z1 := b1.size
  simp only [World.size_alloc] at z1
  replace S0 := S0.below b1 S0.lt
  have B1 := ac B0 b1
  clear b1 B0
  have x0 := S0.cell (i := 0) rfl
  have x1 := S0.cell (i := 1) rfl
  have x2 := S0.cell (i := 2) rfl
  have x3 := S0.cell (i := 3) rfl
  have x4 := S0.cell (i := 4) rfl
  have x5 := S0.cell (i := 5) rfl
  go_wp2_with fail
  refine (G0.out _ B1).mono ?_
  rintro e w2 ⟨⟨g2_0, rfl, M0⟩, b2⟩
  clear x0 x1 x2 x3 x4 x5
  have z2 := b2.size
  replace S0 := S0.below b2 S0.lt
  have B2 := ac B1 b2
  clear b2 B1
  go_wp2_with fail
  refine (Gs.out _ _ M0.head.bs).mono ?_
  rintro e w3 ⟨⟨A0, u0, rfl, R0⟩, b3⟩
  clear M0
  have z3 := b3.size
  replace S0 := S0.below b3 S0.lt
  have B3 := ac B2 b3
  clear b3 B2
  have tR0 := R0.tops
  have bR0 := R0.bases
  replace S0 := S0.alloc (.cells #[.int .i64 Z0, .slice A0 N0 u0] 28)
  replace B3 := ab B3 (.cells #[.int .i64 Z0, .slice A0 N0 u0] 28)
  replace R0 := R0.alloc (.cells #[.int .i64 Z0, .slice A0 N0 u0] 28)
  have T0 := Stc.new w3 28 [.int .i64 Z0, .slice A0 N0 u0] _ rfl
  have x0 := S0.cell (i := 0) rfl
  have x1 := S0.cell (i := 1) rfl
  have x2 := S0.cell (i := 2) rfl
  have x3 := S0.cell (i := 3) rfl
  have x4 := S0.cell (i := 4) rfl
  have x5 := S0.cell (i := 5) rfl
  go_wp2_with fail
  refine (G0.out _ B3).mono ?_
  rintro e w4 ⟨⟨g4_0, rfl, X0⟩, b4⟩
  clear x0 x1 x2 x3 x4 x5
  simp only [World.size_alloc] at X0
  have z4 := b4.size
  simp only [World.size_alloc] at z4
  replace S0 := S0.below b4 S0.lt
  replace R0 := R0.below b4 (Nat.le_refl _)
  replace T0 := T0.below b4 T0.lt
  have B4 := ac B3 b4
  clear b4 B3
  have tX0 := X0.tops
  have bX0 := X0.bases
  replace S0 := S0.alloc (.cells #[.int .i64 s0_0, .int .i64 s0_1, .int .i64 s0_2, .int .i64 s0_3, .bool s0_4, .slice (some ⟨g4_0, 0, none⟩) n0_0 n0_0] 25)
  replace R0 := R0.alloc (.cells #[.int .i64 s0_0, .int .i64 s0_1, .int .i64 s0_2, .int .i64 s0_3, .bool s0_4, .slice (some ⟨g4_0, 0, none⟩) n0_0 n0_0] 25)
  replace T0 := T0.alloc (.cells #[.int .i64 s0_0, .int .i64 s0_1, .int .i64 s0_2, .int .i64 s0_3, .bool s0_4, .slice (some ⟨g4_0, 0, none⟩) n0_0 n0_0] 25)
  replace X0 := X0.alloc (.cells #[.int .i64 s0_0, .int .i64 s0_1, .int .i64 s0_2, .int .i64 s0_3, .bool s0_4, .slice (some ⟨g4_0, 0, none⟩) n0_0 n0_0] 25)
  replace B4 := ab B4 (.cells #[.int .i64 s0_0, .int .i64 s0_1, .int .i64 s0_2, .int .i64 s0_3, .bool s0_4, .slice (some ⟨g4_0, 0, none⟩) n0_0 n0_0] 25)
  have XB0 := Stc.new w4 25 [.int .i64 s0_0, .int .i64 s0_1, .int .i64 s0_2, .int .i64 s0_3, .bool s0_4, .slice (some ⟨g4_0, 0, none⟩) n0_0 n0_0] _ rfl
  have T1P := hkeep _ _ B4 hP
  have x0_0 := XB0.cell (i := 0) rfl
  have x0_1 := XB0.cell (i := 1) rfl
  have x0_2 := XB0.cell (i := 2) rfl
  have x0_3 := XB0.cell (i := 3) rfl
  have x0_4 := XB0.cell (i := 4) rfl
  have x0_5 := XB0.cell (i := 5) rfl
  go_wp2_with fail
  refine (Gi.out _ _ T1P X0.head.bs).mono ?_
  rintro e w5 ⟨⟨D0, v0, rfl, R1⟩, b5⟩
  clear T1P
  clear x0_0 x0_1 x0_2 x0_3 x0_4 x0_5
  simp only [World.size_alloc] at R1
  have z5 := b5.size
  simp only [World.size_alloc] at z5
  replace S0 := S0.below b5 S0.lt
  replace R0 := R0.below b5 (Nat.le_refl _)
  replace T0 := T0.below b5 T0.lt
  replace X0 := X0.below b5 (Nat.le_refl _)
  replace XB0 := XB0.below b5 XB0.lt
  have B5 := ac B4 b5
  clear b5 B4
  have tR1 := R1.tops
  have bR1 := R1.bases
  replace S0 := S0.alloc (.cells #[.int .i64 Z0, .slice D0 N0 v0] 28)
  replace R0 := R0.alloc (.cells #[.int .i64 Z0, .slice D0 N0 v0] 28)
  replace T0 := T0.alloc (.cells #[.int .i64 Z0, .slice D0 N0 v0] 28)
  replace X0 := X0.alloc (.cells #[.int .i64 Z0, .slice D0 N0 v0] 28)
  replace XB0 := XB0.alloc (.cells #[.int .i64 Z0, .slice D0 N0 v0] 28)
  replace B5 := ab B5 (.cells #[.int .i64 Z0, .slice D0 N0 v0] 28)
  replace R1 := R1.alloc (.cells #[.int .i64 Z0, .slice D0 N0 v0] 28)
  have T1 := Stc.new w5 28 [.int .i64 Z0, .slice D0 N0 v0] _ rfl
  have x0 := T1.cell (i := 0) rfl
  have x1 := T1.cell (i := 1) rfl
  have y0 := T0.cell (i := 0) rfl
  have y1 := T0.cell (i := 1) rfl
  go_wp2_with fail
  refine (sameBytesResult_any Z0 _ _ _ _ _ _ _ R1.head.bs R0.head.bs (by omega)).mono ?_
  rintro e w6 ⟨rfl, b6⟩
  clear x0 x1
  clear y0 y1
  have z6 := b6.size
  simp only [World.size_alloc] at z6
  replace S0 := S0.below b6 S0.lt
  replace R0 := R0.below b6 (Nat.le_refl _)
  replace T0 := T0.below b6 T0.lt
  replace X0 := X0.below b6 (Nat.le_refl _)
  replace XB0 := XB0.below b6 XB0.lt
  replace R1 := R1.below b6 (Nat.le_refl _)
  replace T1 := T1.below b6 T1.lt
  have B6 := ac B5 b6
  clear b6 B5
  have x0 := S0.cell (i := 0) rfl
  have x1 := S0.cell (i := 1) rfl
  have x2 := S0.cell (i := 2) rfl
  have x3 := S0.cell (i := 3) rfl
  have x4 := S0.cell (i := 4) rfl
  have x5 := S0.cell (i := 5) rfl
  have xx0 := XB0.cell (i := 0) rfl
  have xx1 := XB0.cell (i := 1) rfl
  have xx2 := XB0.cell (i := 2) rfl
  have xx3 := XB0.cell (i := 3) rfl
  have xx4 := XB0.cell (i := 4) rfl
  have xx5 := XB0.cell (i := 5) rfl
  have lS := S0.lt
  have lX := XB0.lt
  have hWW := Below.refl w6.heap.size w6
  have sl0 : w.heap.size < w6.heap.size := by first | assumption | omega
  have sl1 : w4.heap.size < w6.heap.size := by first | assumption | omega
  have GA : Shut (∀ W : World, (W.cell? ⟨w.heap.size, 0, none⟩ = some (.int .i64 s0_0) ∧ W.cell? ⟨w.heap.size, 1, none⟩ = some (.int .i64 s0_1) ∧ W.cell? ⟨w.heap.size, 2, none⟩ = some (.int .i64 s0_2) ∧ W.cell? ⟨w.heap.size, 3, none⟩ = some (.int .i64 s0_3) ∧ W.cell? ⟨w.heap.size, 4, none⟩ = some (.bool s0_4) ∧ W.cell? ⟨w.heap.size, 5, none⟩ = some (.slice a0_0 n0_0 c0_0) ∧ W.cell? ⟨w4.heap.size, 0, none⟩ = some (.int .i64 s0_0) ∧ W.cell? ⟨w4.heap.size, 1, none⟩ = some (.int .i64 s0_1) ∧ W.cell? ⟨w4.heap.size, 2, none⟩ = some (.int .i64 s0_2) ∧ W.cell? ⟨w4.heap.size, 3, none⟩ = some (.int .i64 s0_3) ∧ W.cell? ⟨w4.heap.size, 4, none⟩ = some (.bool s0_4) ∧ W.cell? ⟨w4.heap.size, 5, none⟩ = some (.slice (some ⟨g4_0, 0, none⟩) n0_0 n0_0) ∧ Below w6.heap.size w6 W) → Calls Try.prog 24 #[.agg #[.int .i64 s0_0, .int .i64 s0_1, .int .i64 s0_2, .int .i64 s0_3, .bool s0_4, .slice a0_0 n0_0 c0_0]] W fun e w' => (∃ q0, e = .returned (.agg #[.int .i64 s0_0, .int .i64 s0_1, .int .i64 s0_2, .int .i64 s0_3, .bool s0_4, .slice (some ⟨q0, 0, none⟩) n0_0 n0_0]) ∧ Bs w' (some ⟨q0, 0, none⟩) n0_0 l0_0) ∧ w'.cell? ⟨w.heap.size, 0, none⟩ = some (.int .i64 s0_0) ∧ w'.cell? ⟨w.heap.size, 1, none⟩ = some (.int .i64 s0_1) ∧ w'.cell? ⟨w.heap.size, 2, none⟩ = some (.int .i64 s0_2) ∧ w'.cell? ⟨w.heap.size, 3, none⟩ = some (.int .i64 s0_3) ∧ w'.cell? ⟨w.heap.size, 4, none⟩ = some (.bool s0_4) ∧ w'.cell? ⟨w.heap.size, 5, none⟩ = some (.slice a0_0 n0_0 c0_0) ∧ w'.cell? ⟨w4.heap.size, 0, none⟩ = some (.int .i64 s0_0) ∧ w'.cell? ⟨w4.heap.size, 1, none⟩ = some (.int .i64 s0_1) ∧ w'.cell? ⟨w4.heap.size, 2, none⟩ = some (.int .i64 s0_2) ∧ w'.cell? ⟨w4.heap.size, 3, none⟩ = some (.int .i64 s0_3) ∧ w'.cell? ⟨w4.heap.size, 4, none⟩ = some (.bool s0_4) ∧ w'.cell? ⟨w4.heap.size, 5, none⟩ = some (.slice (some ⟨g4_0, 0, none⟩) n0_0 n0_0) ∧ Below w6.heap.size w6 w') := by
    refine ⟨fun W ⟨y0, y1, y2, y3, y4, y5, y6, y7, y8, y9, y10, y11, y12⟩ => (G0.out W (ac B6 y12)).mono ?_⟩
    rintro e w' ⟨⟨q0, rfl, R⟩, hb⟩
    have hc := fun (b i : Nat) (h : b < w6.heap.size) => hb.cell (p := ⟨b, i, none⟩) (Nat.lt_of_lt_of_le h y12.size)
    exact ⟨⟨q0, rfl, R.head.bs⟩, (hc (w.heap.size) 0 sl0).trans y0, (hc (w.heap.size) 1 sl0).trans y1, (hc (w.heap.size) 2 sl0).trans y2, (hc (w.heap.size) 3 sl0).trans y3, (hc (w.heap.size) 4 sl0).trans y4, (hc (w.heap.size) 5 sl0).trans y5, (hc (w4.heap.size) 0 sl1).trans y6, (hc (w4.heap.size) 1 sl1).trans y7, (hc (w4.heap.size) 2 sl1).trans y8, (hc (w4.heap.size) 3 sl1).trans y9, (hc (w4.heap.size) 4 sl1).trans y10, (hc (w4.heap.size) 5 sl1).trans y11, ac y12 hb⟩
  have GB : Shut (∀ (q0 : Nat) (W : World), (W.cell? ⟨w.heap.size, 0, none⟩ = some (.int .i64 s0_0) ∧ W.cell? ⟨w.heap.size, 1, none⟩ = some (.int .i64 s0_1) ∧ W.cell? ⟨w.heap.size, 2, none⟩ = some (.int .i64 s0_2) ∧ W.cell? ⟨w.heap.size, 3, none⟩ = some (.int .i64 s0_3) ∧ W.cell? ⟨w.heap.size, 4, none⟩ = some (.bool s0_4) ∧ W.cell? ⟨w.heap.size, 5, none⟩ = some (.slice a0_0 n0_0 c0_0) ∧ W.cell? ⟨w4.heap.size, 0, none⟩ = some (.int .i64 s0_0) ∧ W.cell? ⟨w4.heap.size, 1, none⟩ = some (.int .i64 s0_1) ∧ W.cell? ⟨w4.heap.size, 2, none⟩ = some (.int .i64 s0_2) ∧ W.cell? ⟨w4.heap.size, 3, none⟩ = some (.int .i64 s0_3) ∧ W.cell? ⟨w4.heap.size, 4, none⟩ = some (.bool s0_4) ∧ W.cell? ⟨w4.heap.size, 5, none⟩ = some (.slice (some ⟨g4_0, 0, none⟩) n0_0 n0_0) ∧ Below w6.heap.size w6 W) → Bs W (some ⟨q0, 0, none⟩) n0_0 l0_0 → Calls Try.prog 25 #[.agg #[.int .i64 s0_0, .int .i64 s0_1, .int .i64 s0_2, .int .i64 s0_3, .bool s0_4, .slice (some ⟨g4_0, 0, none⟩) n0_0 n0_0], .agg #[.int .i64 s0_0, .int .i64 s0_1, .int .i64 s0_2, .int .i64 s0_3, .bool s0_4, .slice (some ⟨q0, 0, none⟩) n0_0 n0_0]] W fun e w' => e = .returned (.bool true) ∧ w'.cell? ⟨w.heap.size, 0, none⟩ = some (.int .i64 s0_0) ∧ w'.cell? ⟨w.heap.size, 1, none⟩ = some (.int .i64 s0_1) ∧ w'.cell? ⟨w.heap.size, 2, none⟩ = some (.int .i64 s0_2) ∧ w'.cell? ⟨w.heap.size, 3, none⟩ = some (.int .i64 s0_3) ∧ w'.cell? ⟨w.heap.size, 4, none⟩ = some (.bool s0_4) ∧ w'.cell? ⟨w.heap.size, 5, none⟩ = some (.slice a0_0 n0_0 c0_0) ∧ w'.cell? ⟨w4.heap.size, 0, none⟩ = some (.int .i64 s0_0) ∧ w'.cell? ⟨w4.heap.size, 1, none⟩ = some (.int .i64 s0_1) ∧ w'.cell? ⟨w4.heap.size, 2, none⟩ = some (.int .i64 s0_2) ∧ w'.cell? ⟨w4.heap.size, 3, none⟩ = some (.int .i64 s0_3) ∧ w'.cell? ⟨w4.heap.size, 4, none⟩ = some (.bool s0_4) ∧ w'.cell? ⟨w4.heap.size, 5, none⟩ = some (.slice (some ⟨g4_0, 0, none⟩) n0_0 n0_0) ∧ Below w6.heap.size w6 w') := by
    refine ⟨fun q0 W ⟨y0, y1, y2, y3, y4, y5, y6, y7, y8, y9, y10, y11, y12⟩ p0 => (eqCell_any s0_0 s0_1 s0_2 s0_3 s0_4 _ _ _ _ _ _ _ (X0.head.bs.below y12) p0 d0_0).mono ?_⟩
    rintro e w' ⟨rfl, hb⟩
    have hc := fun (b i : Nat) (h : b < w6.heap.size) => hb.cell (p := ⟨b, i, none⟩) (Nat.lt_of_lt_of_le h y12.size)
    exact ⟨rfl, (hc (w.heap.size) 0 sl0).trans y0, (hc (w.heap.size) 1 sl0).trans y1, (hc (w.heap.size) 2 sl0).trans y2, (hc (w.heap.size) 3 sl0).trans y3, (hc (w.heap.size) 4 sl0).trans y4, (hc (w.heap.size) 5 sl0).trans y5, (hc (w4.heap.size) 0 sl1).trans y6, (hc (w4.heap.size) 1 sl1).trans y7, (hc (w4.heap.size) 2 sl1).trans y8, (hc (w4.heap.size) 3 sl1).trans y9, (hc (w4.heap.size) 4 sl1).trans y10, (hc (w4.heap.size) 5 sl1).trans y11, ac y12 hb⟩
  go_wp2_with fail
  go_region_held3 (fun W => W.cell? ⟨w.heap.size, 0, none⟩ = some (.int .i64 s0_0) ∧ W.cell? ⟨w.heap.size, 1, none⟩ = some (.int .i64 s0_1) ∧ W.cell? ⟨w.heap.size, 2, none⟩ = some (.int .i64 s0_2) ∧ W.cell? ⟨w.heap.size, 3, none⟩ = some (.int .i64 s0_3) ∧ W.cell? ⟨w.heap.size, 4, none⟩ = some (.bool s0_4) ∧ W.cell? ⟨w.heap.size, 5, none⟩ = some (.slice a0_0 n0_0 c0_0) ∧ W.cell? ⟨w4.heap.size, 0, none⟩ = some (.int .i64 s0_0) ∧ W.cell? ⟨w4.heap.size, 1, none⟩ = some (.int .i64 s0_1) ∧ W.cell? ⟨w4.heap.size, 2, none⟩ = some (.int .i64 s0_2) ∧ W.cell? ⟨w4.heap.size, 3, none⟩ = some (.int .i64 s0_3) ∧ W.cell? ⟨w4.heap.size, 4, none⟩ = some (.bool s0_4) ∧ W.cell? ⟨w4.heap.size, 5, none⟩ = some (.slice (some ⟨g4_0, 0, none⟩) n0_0 n0_0) ∧ Below w6.heap.size w6 W)
    (first | (exact ⟨by assumption, by assumption, by assumption, by assumption, by assumption, by assumption, by assumption, by assumption, by assumption, by assumption, by assumption, by assumption, by assumption⟩) | (exact ⟨x0, x1, x2, x3, x4, x5, xx0, xx1, xx2, xx3, xx4, xx5, hWW.drew⟩) | go_keep)
    (first
      | (go_at_call 24; refine (GA.out _ ?_).mono ?_; (first | assumption | (simp [*]; done)); rintro e w7 ⟨⟨ee0, rfl, pp0⟩, y0, y1, y2, y3, y4, y5, y6, y7, y8, y9, y10, y11, y12⟩)
      | (go_at_call 25; refine (GB.out _ _ ?_ ?_).mono ?_; (first | assumption | (simp [*]; done)); assumption; rintro e w7 ⟨rfl, y0, y1, y2, y3, y4, y5, y6, y7, y8, y9, y10, y11, y12⟩))
  clear GA GB hWW sl0 sl1 lS lX y0 y1 y2 y3 y4 y5 y6 y7 y8 y9 y10 y11
  clear x0 x1 x2 x3 x4 x5
  clear xx0 xx1 xx2 xx3 xx4 xx5
  have z7 := y12.size
  replace S0 := S0.below y12 S0.lt
  replace R0 := R0.below y12 (Nat.le_refl _)
  replace T0 := T0.below y12 T0.lt
  replace X0 := X0.below y12 (Nat.le_refl _)
  replace XB0 := XB0.below y12 XB0.lt
  replace R1 := R1.below y12 (Nat.le_refl _)
  replace T1 := T1.below y12 T1.lt
  have B7 := ac B6 y12
  clear y12 B6
  have x0 := XB0.cell (i := 0) rfl
  have x1 := XB0.cell (i := 1) rfl
  have x2 := XB0.cell (i := 2) rfl
  have x3 := XB0.cell (i := 3) rfl
  have x4 := XB0.cell (i := 4) rfl
  have x5 := XB0.cell (i := 5) rfl
  go_wp2_with fail
  refine (markCell_any s0_0 s0_1 s0_2 s0_3 s0_4 _ _ _ _ _ _ _ X0 (by omega) (by omega) (by omega)).mono ?_
  rintro e w8 ⟨rfl, _, tc8⟩
  clear x0 x1 x2 x3 x4 x5
  have z8 := tc8.size
  have tb := tc8.below (C := _) (by omega) bX0
  replace S0 := S0.below tb (by omega)
  replace R0 := R0.under tb (tR0.mono (by omega))
  replace T0 := T0.below tb (by omega)
  replace XB0 := XB0.touch tc8 (fun y hy h0 a ha => by have := tX0 y hy h0 a ha; omega)
  replace R1 := R1.touch tc8 (tX0.mono (by omega))
  replace T1 := T1.touch tc8 (fun y hy h0 a ha => by have := tX0 y hy h0 a ha; omega)
  have B8 := B7.trans (tb.mono (by omega))
  clear B7 tb tc8 X0
  clear XB0
  have x0 := T1.cell (i := 0) rfl
  have x1 := T1.cell (i := 1) rfl
  have y0 := T0.cell (i := 0) rfl
  have y1 := T0.cell (i := 1) rfl
  go_wp2_with fail
  refine (sameBytesResult_any Z0 _ _ _ _ _ _ _ R1.head.bs R0.head.bs (by omega)).mono ?_
  rintro e w9 ⟨rfl, b9⟩
  clear x0 x1
  clear y0 y1
  have z9 := b9.size
  replace S0 := S0.below b9 S0.lt
  replace R0 := R0.below b9 (Nat.le_refl _)
  replace T0 := T0.below b9 T0.lt
  replace R1 := R1.below b9 (Nat.le_refl _)
  replace T1 := T1.below b9 T1.lt
  have B9 := ac B8 b9
  clear b9 B8
  have x0 := T1.cell (i := 0) rfl
  have x1 := T1.cell (i := 1) rfl
  go_wp2_with fail
  refine (markRBytesResult_any Z0 _ _ _ _ _ _ _ R1 (by omega) (by omega) (by omega)).mono ?_
  rintro e w10 ⟨rfl, RM, tc10⟩
  clear x0 x1
  have z10 := tc10.size
  have tb := tc10.below (C := _) (by omega) bR1
  replace S0 := S0.below tb (by omega)
  replace R0 := R0.under tb (tR0.mono (by omega))
  replace T0 := T0.below tb (by omega)
  replace T1 := T1.touch tc10 (fun y hy h0 a ha => by have := tR1 y hy h0 a ha; omega)
  have B10 := B9.trans (tb.mono (by omega))
  clear B9 tb tc10 R1
  have x0 := T1.cell (i := 0) rfl
  have x1 := T1.cell (i := 1) rfl
  go_wp2_with fail
  refine (heldRBytesResult_any Z0 _ _ _ _ _ RM.head.bs (by omega) (by omega) (by omega)).mono ?_
  rintro e w11 ⟨rfl, b11⟩
  clear x0 x1
  have z11 := b11.size
  replace S0 := S0.below b11 S0.lt
  replace R0 := R0.below b11 (Nat.le_refl _)
  replace T0 := T0.below b11 T0.lt
  replace T1 := T1.below b11 T1.lt
  replace RM := RM.below b11 (Nat.le_refl _)
  have B11 := ac B10 b11
  clear b11 B10
  have x0 := S0.cell (i := 0) rfl
  have x1 := S0.cell (i := 1) rfl
  have x2 := S0.cell (i := 2) rfl
  have x3 := S0.cell (i := 3) rfl
  have x4 := S0.cell (i := 4) rfl
  have x5 := S0.cell (i := 5) rfl
  go_wp2_with fail
  refine (G0.out _ B11).mono ?_
  rintro e w12 ⟨⟨g12_0, rfl, V0⟩, b12⟩
  clear x0 x1 x2 x3 x4 x5
  have z12 := b12.size
  replace S0 := S0.below b12 S0.lt
  replace R0 := R0.below b12 (Nat.le_refl _)
  replace T0 := T0.below b12 T0.lt
  replace T1 := T1.below b12 T1.lt
  replace RM := RM.below b12 (Nat.le_refl _)
  have B12 := ac B11 b12
  clear b12 B11
  have T1P := hkeep _ _ B12 hP
  go_wp2_with fail
  refine (Gi.out _ _ T1P V0.head.bs).mono ?_
  rintro e w13 ⟨⟨E0, f0, rfl, R2⟩, b13⟩
  clear T1P
  clear V0
  have z13 := b13.size
  replace S0 := S0.below b13 S0.lt
  replace R0 := R0.below b13 (Nat.le_refl _)
  replace T0 := T0.below b13 T0.lt
  replace T1 := T1.below b13 T1.lt
  replace RM := RM.below b13 (Nat.le_refl _)
  have B13 := ac B12 b13
  clear b13 B12
  have tR2 := R2.tops
  have bR2 := R2.bases
  replace S0 := S0.alloc (.cells #[.int .i64 Z0, .slice E0 N0 f0] 28)
  replace R0 := R0.alloc (.cells #[.int .i64 Z0, .slice E0 N0 f0] 28)
  replace T0 := T0.alloc (.cells #[.int .i64 Z0, .slice E0 N0 f0] 28)
  replace T1 := T1.alloc (.cells #[.int .i64 Z0, .slice E0 N0 f0] 28)
  replace RM := RM.alloc (.cells #[.int .i64 Z0, .slice E0 N0 f0] 28)
  replace B13 := ab B13 (.cells #[.int .i64 Z0, .slice E0 N0 f0] 28)
  replace R2 := R2.alloc (.cells #[.int .i64 Z0, .slice E0 N0 f0] 28)
  have T2 := Stc.new w13 28 [.int .i64 Z0, .slice E0 N0 f0] _ rfl
  have x0 := T2.cell (i := 0) rfl
  have x1 := T2.cell (i := 1) rfl
  have y0 := T0.cell (i := 0) rfl
  have y1 := T0.cell (i := 1) rfl
  go_wp2_with fail
  refine (sameBytesResult_any Z0 _ _ _ _ _ _ _ R2.head.bs R0.head.bs (by omega)).mono ?_
  rintro e w14 ⟨rfl, b14⟩
  clear x0 x1
  clear y0 y1
  have z14 := b14.size
  simp only [World.size_alloc] at z14
  replace S0 := S0.below b14 S0.lt
  replace R0 := R0.below b14 (Nat.le_refl _)
  replace T0 := T0.below b14 T0.lt
  replace T1 := T1.below b14 T1.lt
  replace RM := RM.below b14 (Nat.le_refl _)
  replace R2 := R2.below b14 (Nat.le_refl _)
  replace T2 := T2.below b14 T2.lt
  have B14 := ac B13 b14
  clear b14 B13
  have x0 := T1.cell (i := 0) rfl
  have x1 := T1.cell (i := 1) rfl
  go_wp2_with fail
  refine (heldRBytesResult_any Z0 _ _ _ _ _ RM.head.bs (by omega) (by omega) (by omega)).mono ?_
  rintro e w15 ⟨rfl, b15⟩
  clear x0 x1
  have z15 := b15.size
  replace S0 := S0.below b15 S0.lt
  replace R0 := R0.below b15 (Nat.le_refl _)
  replace T0 := T0.below b15 T0.lt
  replace T1 := T1.below b15 T1.lt
  replace RM := RM.below b15 (Nat.le_refl _)
  replace R2 := R2.below b15 (Nat.le_refl _)
  replace T2 := T2.below b15 T2.lt
  have B15 := ac B14 b15
  clear b15 B14
  go_wp2
  go_ret
  exact ⟨rfl, B15⟩

theorem exactEncodeCell_all (s0_0 : Int) (s0_1 : Int) (s0_2 : Int) (s0_3 : Int) (s0_4 : Bool) (a0_0 : Option Addr) (n0_0 c0_0 : Nat) (l0_0 : List Int) (w : World) (h0_0 : Bs w a0_0 n0_0 l0_0) (m0_0 : n0_0 ≤ 9223372036854775807) (hall :  n0_0 ≤ 1048576 → ∃ (Z0 : Int) (N0 : Nat) (L0 : List Int), N0 ≤ 2000000 ∧ ∃ (P : World → Prop), P w ∧ (∀ W W' : World, Below W.heap.size W W' → P W → P W') ∧ Shut (∀ (g0_0 : Nat) (W : World) (_ : Bs W (some ⟨g0_0, 0, none⟩) n0_0 l0_0), Calls Try.prog 16 #[.agg #[.int .i64 s0_0, .int .i64 s0_1, .int .i64 s0_2, .int .i64 s0_3, .bool s0_4, .slice (some ⟨g0_0, 0, none⟩) n0_0 n0_0]] W (fun e w' => (∃ A0 d0, e = .returned (.agg #[.int .i64 Z0, .slice A0 N0 d0]) ∧ Rs w' W.heap.size [(A0, N0, L0)]) ∧ Below W.heap.size W w')) ∧ Shut (∀ (g0_0 : Nat) (W : World) (_ : P W) (_ : Bs W (some ⟨g0_0, 0, none⟩) n0_0 l0_0), Calls Try.prog 11 #[.agg #[.int .i64 s0_0, .int .i64 s0_1, .int .i64 s0_2, .int .i64 s0_3, .bool s0_4, .slice (some ⟨g0_0, 0, none⟩) n0_0 n0_0]] W (fun e w' => (∃ A0 d0, e = .returned (.agg #[.int .i64 Z0, .slice A0 N0 d0]) ∧ Rs w' W.heap.size [(A0, N0, L0)]) ∧ Below W.heap.size W w'))) :
    Calls Try.prog 5 #[.agg #[.int .i64 s0_0, .int .i64 s0_1, .int .i64 s0_2, .int .i64 s0_3, .bool s0_4, .slice a0_0 n0_0 c0_0]] w fun e w' => e = .returned (.bool true) ∧ Below w.heap.size w w' := by
  by_cases hz0 : n0_0 ≤ 1048576
  rotate_left
  · clear hall
    have hq0 : leftC 1048576 n0_0 = -1 := by unfold leftC; rw [if_pos (by omega)]
    have cz0 := fun W => szCell_any s0_0 s0_1 s0_2 s0_3 s0_4 a0_0 n0_0 c0_0 (1048576) W (by omega) (by omega) (by omega)
    rw [hq0] at cz0
    clear hq0
    have S0 := Stc.new w 40 [.int .i64 s0_0, .int .i64 s0_1, .int .i64 s0_2, .int .i64 s0_3, .bool s0_4, .slice a0_0 n0_0 c0_0] _ rfl
    go_enter Try.func5, Try.ntmps5
    have x0 := S0.cell (i := 0) rfl
    have x1 := S0.cell (i := 1) rfl
    have x2 := S0.cell (i := 2) rfl
    have x3 := S0.cell (i := 3) rfl
    have x4 := S0.cell (i := 4) rfl
    have x5 := S0.cell (i := 5) rfl
    go_wp2_with fail
    refine (cz0 _).mono ?_
    rintro e w1 ⟨rfl, b1⟩
    clear x0 x1 x2 x3 x4 x5
    replace S0 := S0.below b1 S0.lt
    go_wp2
    go_ret
    exact ⟨rfl, (ac (ab (Below.refl _ w) (.cells #[.int .i64 s0_0, .int .i64 s0_1, .int .i64 s0_2, .int .i64 s0_3, .bool s0_4, .slice a0_0 n0_0 c0_0] 40)) b1)⟩
  obtain ⟨Z0, N0, L0, hN0, P, hP, hkeep, Gs, Gi⟩ := hall hz0
  exact exactEncodeCell_walk s0_0 s0_1 s0_2 s0_3 s0_4 a0_0 n0_0 c0_0 l0_0 w h0_0 hz0 Z0 N0 L0 hN0 P hP hkeep Gs Gi
end Go.Proofs.Ytpoiecdifhkegaa
