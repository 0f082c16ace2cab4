/- The walk of the exact law of SameCells. -/
import Derived.Test.YtpoiecdifhkegaaCellC
import Derived.Deep.RegionHeld3
namespace Go.Proofs.Ytpoiecdifhkegaa
open Go.RowKit

set_option maxRecDepth 100000 in
set_option maxHeartbeats 4000000 in
theorem exactSameCells_walk (s0_0 : Int) (s0_1 : Int) (s0_2 : Int) (s0_3 : Int) (s0_4 : Bool) (s1_0 : Int) (s1_1 : Int) (s1_2 : Int) (s1_3 : Int) (s1_4 : Bool) (a0_0 : Option Addr) (n0_0 c0_0 : Nat) (l0_0 : List Int) (a1_0 : Option Addr) (n1_0 c1_0 : Nat) (l1_0 : List Int) (w : World) (h0_0 : Bs w a0_0 n0_0 l0_0) (h1_0 : Bs w a1_0 n1_0 l1_0)  (hsz : n0_0 + n1_0 ≤ 1048576) (Z0 : Bool)  (P : World → Prop) (hP : P w) (hkeep : ∀ W W' : World, Below W.heap.size W W' → P W → P W') (Gs : Shut (∀ (g0_0 g1_0 : Nat) (W : World) (_ : Bs W (some ⟨g0_0, 0, none⟩) n0_0 l0_0) (_ : Bs W (some ⟨g1_0, 0, none⟩) n1_0 l1_0), Calls Try.prog 19 #[.agg #[.int .i64 s0_0, .int .i64 s0_1, .int .i64 s0_2, .int .i64 s0_3, .bool s0_4, .slice (some ⟨g0_0, 0, none⟩) n0_0 n0_0], .agg #[.int .i64 s1_0, .int .i64 s1_1, .int .i64 s1_2, .int .i64 s1_3, .bool s1_4, .slice (some ⟨g1_0, 0, none⟩) n1_0 n1_0]] W (fun e w' => e = .returned (.bool Z0) ∧ Below W.heap.size W w'))) (Gi : Shut (∀ (g0_0 g1_0 : Nat) (W : World) (_ : P W) (_ : Bs W (some ⟨g0_0, 0, none⟩) n0_0 l0_0) (_ : Bs W (some ⟨g1_0, 0, none⟩) n1_0 l1_0), Calls Try.prog 18 #[.agg #[.int .i64 s0_0, .int .i64 s0_1, .int .i64 s0_2, .int .i64 s0_3, .bool s0_4, .slice (some ⟨g0_0, 0, none⟩) n0_0 n0_0], .agg #[.int .i64 s1_0, .int .i64 s1_1, .int .i64 s1_2, .int .i64 s1_3, .bool s1_4, .slice (some ⟨g1_0, 0, none⟩) n1_0 n1_0]] W (fun e w' => e = .returned (.bool Z0) ∧ Below W.heap.size W w'))) :
    Calls Try.prog 8 #[.agg #[.int .i64 s0_0, .int .i64 s0_1, .int .i64 s0_2, .int .i64 s0_3, .bool s0_4, .slice a0_0 n0_0 c0_0], .agg #[.int .i64 s1_0, .int .i64 s1_1, .int .i64 s1_2, .int .i64 s1_3, .bool s1_4, .slice a1_0 n1_0 c1_0]] w fun e w' => e = .returned (.bool true) ∧ Below w.heap.size w w' := by
  have G0 := Shut.mk (fun W (b : Below w.heap.size w W) => toCell_any s0_0 s0_1 s0_2 s0_3 s0_4 a0_0 n0_0 c0_0 l0_0 W (h0_0.below b) (by omega))
  have G1 := Shut.mk (fun W (b : Below w.heap.size w W) => toCell_any s1_0 s1_1 s1_2 s1_3 s1_4 a1_0 n1_0 c1_0 l1_0 W (h1_0.below b) (by omega))
  have f0_0 : n0_0 ≤ 1048576 := by omega
  have d0_0 : n0_0 ≤ 140737488351232 := by omega
  have f1_0 : n1_0 ≤ 1048576 := by omega
  have d1_0 : n1_0 ≤ 140737488351232 := by omega
  have hq0 : leftC 1048576 n0_0 = 1048576 - (n0_0 : Int) := by unfold leftC; rw [if_neg (by omega)]
  have cz0 := fun W => szCell_any s0_0 s0_1 s0_2 s0_3 s0_4 a0_0 n0_0 c0_0 (1048576) W (by omega) (by omega) (by omega)
  rw [hq0] at cz0
  clear hq0
  obtain ⟨lf0, hlf0⟩ : ∃ x, x = 1048576 - (n0_0 : Int) := ⟨_, rfl⟩
  rw [← hlf0] at cz0
  have lp0 : ¬ lf0 < 0 := by omega
  have lm0 : lf0 ≤ 1048576 := by omega
  have hq1 : leftC lf0 n1_0 = lf0 - (n1_0 : Int) := by unfold leftC; rw [if_neg (by omega)]
  have cz1 := fun W => szCell_any s1_0 s1_1 s1_2 s1_3 s1_4 a1_0 n1_0 c1_0 (lf0) W (by omega) (by omega) (by omega)
  rw [hq1] at cz1
  clear hq1
  obtain ⟨lf1, hlf1⟩ : ∃ x, x = lf0 - (n1_0 : Int) := ⟨_, rfl⟩
  rw [← hlf1] at cz1
  have lp1 : ¬ lf1 < 0 := by omega
  have lm1 : lf1 ≤ 1048576 := by omega
  clear hlf0
  clear hlf1
  clear h0_0 h1_0
  clear hsz
  have B0 := Below.refl w.heap.size w
  replace B0 := ab B0 (.cells #[.int .i64 s0_0, .int .i64 s0_1, .int .i64 s0_2, .int .i64 s0_3, .bool s0_4, .slice a0_0 n0_0 c0_0] 40)
  have S0 := Stc.new w 40 [.int .i64 s0_0, .int .i64 s0_1, .int .i64 s0_2, .int .i64 s0_3, .bool s0_4, .slice a0_0 n0_0 c0_0] _ rfl
  replace S0 := S0.alloc (.cells #[.int .i64 s1_0, .int .i64 s1_1, .int .i64 s1_2, .int .i64 s1_3, .bool s1_4, .slice a1_0 n1_0 c1_0] 40)
  replace B0 := ab B0 (.cells #[.int .i64 s1_0, .int .i64 s1_1, .int .i64 s1_2, .int .i64 s1_3, .bool s1_4, .slice a1_0 n1_0 c1_0] 40)
  have S1 := Stc.new (w.alloc (.cells #[.int .i64 s0_0, .int .i64 s0_1, .int .i64 s0_2, .int .i64 s0_3, .bool s0_4, .slice a0_0 n0_0 c0_0] 40)) 40 [.int .i64 s1_0, .int .i64 s1_1, .int .i64 s1_2, .int .i64 s1_3, .bool s1_4, .slice a1_0 n1_0 c1_0] _ rfl
  simp only [World.size_alloc] at S1
  go_enter Try.func8, Try.ntmps8
  have x0 := S0.cell (i := 0) rfl
  have x1 := S0.cell (i := 1) rfl
  have x2 := S0.cell (i := 2) rfl
  have x3 := S0.cell (i := 3) rfl
  have x4 := S0.cell (i := 4) rfl
  have x5 := S0.cell (i := 5) rfl
  go_wp2_with fail
  refine (cz0 _).mono ?_
  rintro e w1 ⟨rfl, b1⟩
  clear x0 x1 x2 x3 x4 x5
  have z1 := b1.size
  simp only [World.size_alloc] at z1
  replace S0 := S0.below b1 S0.lt
  replace S1 := S1.below b1 S1.lt
  have B1 := ac B0 b1
  clear b1 B0
  have x0 := S1.cell (i := 0) rfl
  have x1 := S1.cell (i := 1) rfl
  have x2 := S1.cell (i := 2) rfl
  have x3 := S1.cell (i := 3) rfl
  have x4 := S1.cell (i := 4) rfl
  have x5 := S1.cell (i := 5) rfl
  go_wp2_with fail
  refine (cz1 _).mono ?_
  rintro e w2 ⟨rfl, b2⟩
  clear x0 x1 x2 x3 x4 x5
  have z2 := b2.size
  replace S0 := S0.below b2 S0.lt
  replace S1 := S1.below b2 S1.lt
  have B2 := ac B1 b2
  clear b2 B1
  have x0_0 := S0.cell (i := 0) rfl
  have x0_1 := S0.cell (i := 1) rfl
  have x0_2 := S0.cell (i := 2) rfl
  have x0_3 := S0.cell (i := 3) rfl
  have x0_4 := S0.cell (i := 4) rfl
  have x0_5 := S0.cell (i := 5) rfl
  have x1_0 := S1.cell (i := 0) rfl
  have x1_1 := S1.cell (i := 1) rfl
  have x1_2 := S1.cell (i := 2) rfl
  have x1_3 := S1.cell (i := 3) rfl
  have x1_4 := S1.cell (i := 4) rfl
  have x1_5 := S1.cell (i := 5) rfl
  have lS0 := S0.lt
  have lS1 := S1.lt
  have hWW := Below.refl w2.heap.size w2
  have sl0 : w.heap.size < w2.heap.size := by first | assumption | omega
  have sl1 : w.heap.size + 1 < w2.heap.size := by first | assumption | omega
  have GX0 : Shut (∀ W : World, (W.cell? ⟨w.heap.size, 0, none⟩ = some (.int .i64 s0_0) ∧ W.cell? ⟨w.heap.size, 1, none⟩ = some (.int .i64 s0_1) ∧ W.cell? ⟨w.heap.size, 2, none⟩ = some (.int .i64 s0_2) ∧ W.cell? ⟨w.heap.size, 3, none⟩ = some (.int .i64 s0_3) ∧ W.cell? ⟨w.heap.size, 4, none⟩ = some (.bool s0_4) ∧ W.cell? ⟨w.heap.size, 5, none⟩ = some (.slice a0_0 n0_0 c0_0) ∧ W.cell? ⟨w.heap.size + 1, 0, none⟩ = some (.int .i64 s1_0) ∧ W.cell? ⟨w.heap.size + 1, 1, none⟩ = some (.int .i64 s1_1) ∧ W.cell? ⟨w.heap.size + 1, 2, none⟩ = some (.int .i64 s1_2) ∧ W.cell? ⟨w.heap.size + 1, 3, none⟩ = some (.int .i64 s1_3) ∧ W.cell? ⟨w.heap.size + 1, 4, none⟩ = some (.bool s1_4) ∧ W.cell? ⟨w.heap.size + 1, 5, none⟩ = some (.slice a1_0 n1_0 c1_0) ∧ Below w2.heap.size w2 W) → Calls Try.prog 24 #[.agg #[.int .i64 s0_0, .int .i64 s0_1, .int .i64 s0_2, .int .i64 s0_3, .bool s0_4, .slice a0_0 n0_0 c0_0]] W fun e w' => (∃ q0 : Nat, e = .returned (.agg #[.int .i64 s0_0, .int .i64 s0_1, .int .i64 s0_2, .int .i64 s0_3, .bool s0_4, .slice (some ⟨q0, 0, none⟩) n0_0 n0_0]) ∧ Bs w' (some ⟨q0, 0, none⟩) n0_0 l0_0) ∧ (∀ (A : Option Addr) (m : Nat) (l : List Int), Bs W A m l → Bs w' A m l) ∧ w'.cell? ⟨w.heap.size, 0, none⟩ = some (.int .i64 s0_0) ∧ w'.cell? ⟨w.heap.size, 1, none⟩ = some (.int .i64 s0_1) ∧ w'.cell? ⟨w.heap.size, 2, none⟩ = some (.int .i64 s0_2) ∧ w'.cell? ⟨w.heap.size, 3, none⟩ = some (.int .i64 s0_3) ∧ w'.cell? ⟨w.heap.size, 4, none⟩ = some (.bool s0_4) ∧ w'.cell? ⟨w.heap.size, 5, none⟩ = some (.slice a0_0 n0_0 c0_0) ∧ w'.cell? ⟨w.heap.size + 1, 0, none⟩ = some (.int .i64 s1_0) ∧ w'.cell? ⟨w.heap.size + 1, 1, none⟩ = some (.int .i64 s1_1) ∧ w'.cell? ⟨w.heap.size + 1, 2, none⟩ = some (.int .i64 s1_2) ∧ w'.cell? ⟨w.heap.size + 1, 3, none⟩ = some (.int .i64 s1_3) ∧ w'.cell? ⟨w.heap.size + 1, 4, none⟩ = some (.bool s1_4) ∧ w'.cell? ⟨w.heap.size + 1, 5, none⟩ = some (.slice a1_0 n1_0 c1_0) ∧ Below w2.heap.size w2 w') := by
    refine ⟨fun W ⟨y0, y1, y2, y3, y4, y5, y6, y7, y8, y9, y10, y11, y12⟩ => (G0.out W (ac B2 y12)).mono ?_⟩
    rintro e w' ⟨⟨q0, rfl, R⟩, hb⟩
    have hc := fun (b i : Nat) (h : b < w2.heap.size) => hb.cell (p := ⟨b, i, none⟩) (Nat.lt_of_lt_of_le h y12.size)
    exact ⟨⟨q0, rfl, R.head.bs⟩, fun A m l hA => hA.below hb, (hc (w.heap.size) 0 sl0).trans y0, (hc (w.heap.size) 1 sl0).trans y1, (hc (w.heap.size) 2 sl0).trans y2, (hc (w.heap.size) 3 sl0).trans y3, (hc (w.heap.size) 4 sl0).trans y4, (hc (w.heap.size) 5 sl0).trans y5, (hc (w.heap.size + 1) 0 sl1).trans y6, (hc (w.heap.size + 1) 1 sl1).trans y7, (hc (w.heap.size + 1) 2 sl1).trans y8, (hc (w.heap.size + 1) 3 sl1).trans y9, (hc (w.heap.size + 1) 4 sl1).trans y10, (hc (w.heap.size + 1) 5 sl1).trans y11, ac y12 hb⟩
  have GX1 : Shut (∀ W : World, (W.cell? ⟨w.heap.size, 0, none⟩ = some (.int .i64 s0_0) ∧ W.cell? ⟨w.heap.size, 1, none⟩ = some (.int .i64 s0_1) ∧ W.cell? ⟨w.heap.size, 2, none⟩ = some (.int .i64 s0_2) ∧ W.cell? ⟨w.heap.size, 3, none⟩ = some (.int .i64 s0_3) ∧ W.cell? ⟨w.heap.size, 4, none⟩ = some (.bool s0_4) ∧ W.cell? ⟨w.heap.size, 5, none⟩ = some (.slice a0_0 n0_0 c0_0) ∧ W.cell? ⟨w.heap.size + 1, 0, none⟩ = some (.int .i64 s1_0) ∧ W.cell? ⟨w.heap.size + 1, 1, none⟩ = some (.int .i64 s1_1) ∧ W.cell? ⟨w.heap.size + 1, 2, none⟩ = some (.int .i64 s1_2) ∧ W.cell? ⟨w.heap.size + 1, 3, none⟩ = some (.int .i64 s1_3) ∧ W.cell? ⟨w.heap.size + 1, 4, none⟩ = some (.bool s1_4) ∧ W.cell? ⟨w.heap.size + 1, 5, none⟩ = some (.slice a1_0 n1_0 c1_0) ∧ Below w2.heap.size w2 W) → Calls Try.prog 24 #[.agg #[.int .i64 s1_0, .int .i64 s1_1, .int .i64 s1_2, .int .i64 s1_3, .bool s1_4, .slice a1_0 n1_0 c1_0]] W fun e w' => (∃ q0 : Nat, e = .returned (.agg #[.int .i64 s1_0, .int .i64 s1_1, .int .i64 s1_2, .int .i64 s1_3, .bool s1_4, .slice (some ⟨q0, 0, none⟩) n1_0 n1_0]) ∧ Bs w' (some ⟨q0, 0, none⟩) n1_0 l1_0) ∧ (∀ (A : Option Addr) (m : Nat) (l : List Int), Bs W A m l → Bs w' A m l) ∧ w'.cell? ⟨w.heap.size, 0, none⟩ = some (.int .i64 s0_0) ∧ w'.cell? ⟨w.heap.size, 1, none⟩ = some (.int .i64 s0_1) ∧ w'.cell? ⟨w.heap.size, 2, none⟩ = some (.int .i64 s0_2) ∧ w'.cell? ⟨w.heap.size, 3, none⟩ = some (.int .i64 s0_3) ∧ w'.cell? ⟨w.heap.size, 4, none⟩ = some (.bool s0_4) ∧ w'.cell? ⟨w.heap.size, 5, none⟩ = some (.slice a0_0 n0_0 c0_0) ∧ w'.cell? ⟨w.heap.size + 1, 0, none⟩ = some (.int .i64 s1_0) ∧ w'.cell? ⟨w.heap.size + 1, 1, none⟩ = some (.int .i64 s1_1) ∧ w'.cell? ⟨w.heap.size + 1, 2, none⟩ = some (.int .i64 s1_2) ∧ w'.cell? ⟨w.heap.size + 1, 3, none⟩ = some (.int .i64 s1_3) ∧ w'.cell? ⟨w.heap.size + 1, 4, none⟩ = some (.bool s1_4) ∧ w'.cell? ⟨w.heap.size + 1, 5, none⟩ = some (.slice a1_0 n1_0 c1_0) ∧ Below w2.heap.size w2 w') := by
    refine ⟨fun W ⟨y0, y1, y2, y3, y4, y5, y6, y7, y8, y9, y10, y11, y12⟩ => (G1.out W (ac B2 y12)).mono ?_⟩
    rintro e w' ⟨⟨q0, rfl, R⟩, hb⟩
    have hc := fun (b i : Nat) (h : b < w2.heap.size) => hb.cell (p := ⟨b, i, none⟩) (Nat.lt_of_lt_of_le h y12.size)
    exact ⟨⟨q0, rfl, R.head.bs⟩, fun A m l hA => hA.below hb, (hc (w.heap.size) 0 sl0).trans y0, (hc (w.heap.size) 1 sl0).trans y1, (hc (w.heap.size) 2 sl0).trans y2, (hc (w.heap.size) 3 sl0).trans y3, (hc (w.heap.size) 4 sl0).trans y4, (hc (w.heap.size) 5 sl0).trans y5, (hc (w.heap.size + 1) 0 sl1).trans y6, (hc (w.heap.size + 1) 1 sl1).trans y7, (hc (w.heap.size + 1) 2 sl1).trans y8, (hc (w.heap.size + 1) 3 sl1).trans y9, (hc (w.heap.size + 1) 4 sl1).trans y10, (hc (w.heap.size + 1) 5 sl1).trans y11, ac y12 hb⟩
  have GF : Shut (∀ (g0_0 g1_0 : Nat) (W : World), (W.cell? ⟨w.heap.size, 0, none⟩ = some (.int .i64 s0_0) ∧ W.cell? ⟨w.heap.size, 1, none⟩ = some (.int .i64 s0_1) ∧ W.cell? ⟨w.heap.size, 2, none⟩ = some (.int .i64 s0_2) ∧ W.cell? ⟨w.heap.size, 3, none⟩ = some (.int .i64 s0_3) ∧ W.cell? ⟨w.heap.size, 4, none⟩ = some (.bool s0_4) ∧ W.cell? ⟨w.heap.size, 5, none⟩ = some (.slice a0_0 n0_0 c0_0) ∧ W.cell? ⟨w.heap.size + 1, 0, none⟩ = some (.int .i64 s1_0) ∧ W.cell? ⟨w.heap.size + 1, 1, none⟩ = some (.int .i64 s1_1) ∧ W.cell? ⟨w.heap.size + 1, 2, none⟩ = some (.int .i64 s1_2) ∧ W.cell? ⟨w.heap.size + 1, 3, none⟩ = some (.int .i64 s1_3) ∧ W.cell? ⟨w.heap.size + 1, 4, none⟩ = some (.bool s1_4) ∧ W.cell? ⟨w.heap.size + 1, 5, none⟩ = some (.slice a1_0 n1_0 c1_0) ∧ Below w2.heap.size w2 W) → Bs W (some ⟨g0_0, 0, none⟩) n0_0 l0_0 → Bs W (some ⟨g1_0, 0, none⟩) n1_0 l1_0 → Calls Try.prog 19 #[.agg #[.int .i64 s0_0, .int .i64 s0_1, .int .i64 s0_2, .int .i64 s0_3, .bool s0_4, .slice (some ⟨g0_0, 0, none⟩) n0_0 n0_0], .agg #[.int .i64 s1_0, .int .i64 s1_1, .int .i64 s1_2, .int .i64 s1_3, .bool s1_4, .slice (some ⟨g1_0, 0, none⟩) n1_0 n1_0]] W fun e w' => e = .returned (.bool Z0) ∧ w'.cell? ⟨w.heap.size, 0, none⟩ = some (.int .i64 s0_0) ∧ w'.cell? ⟨w.heap.size, 1, none⟩ = some (.int .i64 s0_1) ∧ w'.cell? ⟨w.heap.size, 2, none⟩ = some (.int .i64 s0_2) ∧ w'.cell? ⟨w.heap.size, 3, none⟩ = some (.int .i64 s0_3) ∧ w'.cell? ⟨w.heap.size, 4, none⟩ = some (.bool s0_4) ∧ w'.cell? ⟨w.heap.size, 5, none⟩ = some (.slice a0_0 n0_0 c0_0) ∧ w'.cell? ⟨w.heap.size + 1, 0, none⟩ = some (.int .i64 s1_0) ∧ w'.cell? ⟨w.heap.size + 1, 1, none⟩ = some (.int .i64 s1_1) ∧ w'.cell? ⟨w.heap.size + 1, 2, none⟩ = some (.int .i64 s1_2) ∧ w'.cell? ⟨w.heap.size + 1, 3, none⟩ = some (.int .i64 s1_3) ∧ w'.cell? ⟨w.heap.size + 1, 4, none⟩ = some (.bool s1_4) ∧ w'.cell? ⟨w.heap.size + 1, 5, none⟩ = some (.slice a1_0 n1_0 c1_0) ∧ Below w2.heap.size w2 w') := by
    refine ⟨fun g0_0 g1_0 W ⟨y0, y1, y2, y3, y4, y5, y6, y7, y8, y9, y10, y11, y12⟩ p0_0 p1_0 => (Gs.out g0_0 g1_0 W p0_0 p1_0).mono ?_⟩
    rintro e w' ⟨rfl, hb⟩
    have hc := fun (b i : Nat) (h : b < w2.heap.size) => hb.cell (p := ⟨b, i, none⟩) (Nat.lt_of_lt_of_le h y12.size)
    exact ⟨rfl, (hc (w.heap.size) 0 sl0).trans y0, (hc (w.heap.size) 1 sl0).trans y1, (hc (w.heap.size) 2 sl0).trans y2, (hc (w.heap.size) 3 sl0).trans y3, (hc (w.heap.size) 4 sl0).trans y4, (hc (w.heap.size) 5 sl0).trans y5, (hc (w.heap.size + 1) 0 sl1).trans y6, (hc (w.heap.size + 1) 1 sl1).trans y7, (hc (w.heap.size + 1) 2 sl1).trans y8, (hc (w.heap.size + 1) 3 sl1).trans y9, (hc (w.heap.size + 1) 4 sl1).trans y10, (hc (w.heap.size + 1) 5 sl1).trans y11, ac y12 hb⟩
  go_wp2_with fail
  go_region_held3 (fun W => W.cell? ⟨w.heap.size, 0, none⟩ = some (.int .i64 s0_0) ∧ W.cell? ⟨w.heap.size, 1, none⟩ = some (.int .i64 s0_1) ∧ W.cell? ⟨w.heap.size, 2, none⟩ = some (.int .i64 s0_2) ∧ W.cell? ⟨w.heap.size, 3, none⟩ = some (.int .i64 s0_3) ∧ W.cell? ⟨w.heap.size, 4, none⟩ = some (.bool s0_4) ∧ W.cell? ⟨w.heap.size, 5, none⟩ = some (.slice a0_0 n0_0 c0_0) ∧ W.cell? ⟨w.heap.size + 1, 0, none⟩ = some (.int .i64 s1_0) ∧ W.cell? ⟨w.heap.size + 1, 1, none⟩ = some (.int .i64 s1_1) ∧ W.cell? ⟨w.heap.size + 1, 2, none⟩ = some (.int .i64 s1_2) ∧ W.cell? ⟨w.heap.size + 1, 3, none⟩ = some (.int .i64 s1_3) ∧ W.cell? ⟨w.heap.size + 1, 4, none⟩ = some (.bool s1_4) ∧ W.cell? ⟨w.heap.size + 1, 5, none⟩ = some (.slice a1_0 n1_0 c1_0) ∧ Below w2.heap.size w2 W)
    (first | (exact ⟨by assumption, by assumption, by assumption, by assumption, by assumption, by assumption, by assumption, by assumption, by assumption, by assumption, by assumption, by assumption, by assumption⟩) | (exact ⟨x0_0, x0_1, x0_2, x0_3, x0_4, x0_5, x1_0, x1_1, x1_2, x1_3, x1_4, x1_5, hWW.drew⟩) | go_keep)
    (first
      | (go_at_call_of 24 a0_0; refine (GX0.out _ ?_).mono ?_; (first | assumption | (simp [*]; done)); rintro e w3 ⟨⟨ee0_0, rfl, pp0_0⟩, hh0, y0, y1, y2, y3, y4, y5, y6, y7, y8, y9, y10, y11, y12⟩)
      | (go_at_call_of 24 a1_0; refine (GX1.out _ ?_).mono ?_; (first | assumption | (simp [*]; done)); rintro e w3 ⟨⟨ee1_0, rfl, pp1_0⟩, hh1, y0, y1, y2, y3, y4, y5, y6, y7, y8, y9, y10, y11, y12⟩; replace pp0_0 := hh1 _ _ _ pp0_0)
      | (go_at_call 19; refine (GF.out _ _ _ ?_ ?_ ?_).mono ?_; (first | assumption | (simp [*]; done)); (first | assumption | exact pp0_0); (first | assumption | exact pp1_0); rintro e w3 ⟨rfl, y0, y1, y2, y3, y4, y5, y6, y7, y8, y9, y10, y11, y12⟩))
  clear GF hWW GX0 GX1 sl0 lS0 sl1 lS1 y0 y1 y2 y3 y4 y5 y6 y7 y8 y9 y10 y11 hh0 pp0_0 hh1 pp1_0
  clear x0_0 x0_1 x0_2 x0_3 x0_4 x0_5
  clear x1_0 x1_1 x1_2 x1_3 x1_4 x1_5
  have z3 := y12.size
  replace S0 := S0.below y12 S0.lt
  replace S1 := S1.below y12 S1.lt
  have B3 := ac B2 y12
  clear y12 B2
  have x0 := S0.cell (i := 0) rfl
  have x1 := S0.cell (i := 1) rfl
  have x2 := S0.cell (i := 2) rfl
  have x3 := S0.cell (i := 3) rfl
  have x4 := S0.cell (i := 4) rfl
  have x5 := S0.cell (i := 5) rfl
  go_wp2_with fail
  refine (G0.out _ B3).mono ?_
  rintro e w4 ⟨⟨g4_0, rfl, X0⟩, b4⟩
  clear x0 x1 x2 x3 x4 x5
  have z4 := b4.size
  replace S0 := S0.below b4 S0.lt
  replace S1 := S1.below b4 S1.lt
  have B4 := ac B3 b4
  clear b4 B3
  have tX0 := X0.tops
  have bX0 := X0.bases
  replace S0 := S0.alloc (.cells #[.int .i64 s0_0, .int .i64 s0_1, .int .i64 s0_2, .int .i64 s0_3, .bool s0_4, .slice (some ⟨g4_0, 0, none⟩) n0_0 n0_0] 25)
  replace S1 := S1.alloc (.cells #[.int .i64 s0_0, .int .i64 s0_1, .int .i64 s0_2, .int .i64 s0_3, .bool s0_4, .slice (some ⟨g4_0, 0, none⟩) n0_0 n0_0] 25)
  replace X0 := X0.alloc (.cells #[.int .i64 s0_0, .int .i64 s0_1, .int .i64 s0_2, .int .i64 s0_3, .bool s0_4, .slice (some ⟨g4_0, 0, none⟩) n0_0 n0_0] 25)
  replace B4 := ab B4 (.cells #[.int .i64 s0_0, .int .i64 s0_1, .int .i64 s0_2, .int .i64 s0_3, .bool s0_4, .slice (some ⟨g4_0, 0, none⟩) n0_0 n0_0] 25)
  have XB0 := Stc.new w4 25 [.int .i64 s0_0, .int .i64 s0_1, .int .i64 s0_2, .int .i64 s0_3, .bool s0_4, .slice (some ⟨g4_0, 0, none⟩) n0_0 n0_0] _ rfl
  have x0 := S1.cell (i := 0) rfl
  have x1 := S1.cell (i := 1) rfl
  have x2 := S1.cell (i := 2) rfl
  have x3 := S1.cell (i := 3) rfl
  have x4 := S1.cell (i := 4) rfl
  have x5 := S1.cell (i := 5) rfl
  go_wp2_with fail
  refine (G1.out _ B4).mono ?_
  rintro e w5 ⟨⟨g5_0, rfl, X1⟩, b5⟩
  clear x0 x1 x2 x3 x4 x5
  simp only [World.size_alloc] at X1
  have z5 := b5.size
  simp only [World.size_alloc] at z5
  replace S0 := S0.below b5 S0.lt
  replace S1 := S1.below b5 S1.lt
  replace X0 := X0.below b5 (Nat.le_refl _)
  replace XB0 := XB0.below b5 XB0.lt
  have B5 := ac B4 b5
  clear b5 B4
  have tX1 := X1.tops
  have bX1 := X1.bases
  replace S0 := S0.alloc (.cells #[.int .i64 s1_0, .int .i64 s1_1, .int .i64 s1_2, .int .i64 s1_3, .bool s1_4, .slice (some ⟨g5_0, 0, none⟩) n1_0 n1_0] 25)
  replace S1 := S1.alloc (.cells #[.int .i64 s1_0, .int .i64 s1_1, .int .i64 s1_2, .int .i64 s1_3, .bool s1_4, .slice (some ⟨g5_0, 0, none⟩) n1_0 n1_0] 25)
  replace X0 := X0.alloc (.cells #[.int .i64 s1_0, .int .i64 s1_1, .int .i64 s1_2, .int .i64 s1_3, .bool s1_4, .slice (some ⟨g5_0, 0, none⟩) n1_0 n1_0] 25)
  replace XB0 := XB0.alloc (.cells #[.int .i64 s1_0, .int .i64 s1_1, .int .i64 s1_2, .int .i64 s1_3, .bool s1_4, .slice (some ⟨g5_0, 0, none⟩) n1_0 n1_0] 25)
  replace X1 := X1.alloc (.cells #[.int .i64 s1_0, .int .i64 s1_1, .int .i64 s1_2, .int .i64 s1_3, .bool s1_4, .slice (some ⟨g5_0, 0, none⟩) n1_0 n1_0] 25)
  replace B5 := ab B5 (.cells #[.int .i64 s1_0, .int .i64 s1_1, .int .i64 s1_2, .int .i64 s1_3, .bool s1_4, .slice (some ⟨g5_0, 0, none⟩) n1_0 n1_0] 25)
  have XB1 := Stc.new w5 25 [.int .i64 s1_0, .int .i64 s1_1, .int .i64 s1_2, .int .i64 s1_3, .bool s1_4, .slice (some ⟨g5_0, 0, none⟩) n1_0 n1_0] _ rfl
  have T1P := hkeep _ _ B5 hP
  have x0_0 := XB0.cell (i := 0) rfl
  have x0_1 := XB0.cell (i := 1) rfl
  have x0_2 := XB0.cell (i := 2) rfl
  have x0_3 := XB0.cell (i := 3) rfl
  have x0_4 := XB0.cell (i := 4) rfl
  have x0_5 := XB0.cell (i := 5) rfl
  have x1_0 := XB1.cell (i := 0) rfl
  have x1_1 := XB1.cell (i := 1) rfl
  have x1_2 := XB1.cell (i := 2) rfl
  have x1_3 := XB1.cell (i := 3) rfl
  have x1_4 := XB1.cell (i := 4) rfl
  have x1_5 := XB1.cell (i := 5) rfl
  go_wp2_with fail
  refine (Gi.out _ _ _ T1P X0.head.bs X1.head.bs).mono ?_
  rintro e w6 ⟨rfl, b6⟩
  clear T1P
  clear x0_0 x0_1 x0_2 x0_3 x0_4 x0_5
  clear x1_0 x1_1 x1_2 x1_3 x1_4 x1_5
  have z6 := b6.size
  simp only [World.size_alloc] at z6
  replace S0 := S0.below b6 S0.lt
  replace S1 := S1.below b6 S1.lt
  replace X0 := X0.below b6 (Nat.le_refl _)
  replace XB0 := XB0.below b6 XB0.lt
  replace X1 := X1.below b6 (Nat.le_refl _)
  replace XB1 := XB1.below b6 XB1.lt
  have B6 := ac B5 b6
  clear b6 B5
  have x0 := S0.cell (i := 0) rfl
  have x1 := S0.cell (i := 1) rfl
  have x2 := S0.cell (i := 2) rfl
  have x3 := S0.cell (i := 3) rfl
  have x4 := S0.cell (i := 4) rfl
  have x5 := S0.cell (i := 5) rfl
  have xx0 := XB0.cell (i := 0) rfl
  have xx1 := XB0.cell (i := 1) rfl
  have xx2 := XB0.cell (i := 2) rfl
  have xx3 := XB0.cell (i := 3) rfl
  have xx4 := XB0.cell (i := 4) rfl
  have xx5 := XB0.cell (i := 5) rfl
  have lS := S0.lt
  have lX := XB0.lt
  have hWW := Below.refl w6.heap.size w6
  have sl0 : w.heap.size < w6.heap.size := by first | assumption | omega
  have sl1 : w4.heap.size < w6.heap.size := by first | assumption | omega
  have GA : Shut (∀ W : World, (W.cell? ⟨w.heap.size, 0, none⟩ = some (.int .i64 s0_0) ∧ W.cell? ⟨w.heap.size, 1, none⟩ = some (.int .i64 s0_1) ∧ W.cell? ⟨w.heap.size, 2, none⟩ = some (.int .i64 s0_2) ∧ W.cell? ⟨w.heap.size, 3, none⟩ = some (.int .i64 s0_3) ∧ W.cell? ⟨w.heap.size, 4, none⟩ = some (.bool s0_4) ∧ W.cell? ⟨w.heap.size, 5, none⟩ = some (.slice a0_0 n0_0 c0_0) ∧ W.cell? ⟨w4.heap.size, 0, none⟩ = some (.int .i64 s0_0) ∧ W.cell? ⟨w4.heap.size, 1, none⟩ = some (.int .i64 s0_1) ∧ W.cell? ⟨w4.heap.size, 2, none⟩ = some (.int .i64 s0_2) ∧ W.cell? ⟨w4.heap.size, 3, none⟩ = some (.int .i64 s0_3) ∧ W.cell? ⟨w4.heap.size, 4, none⟩ = some (.bool s0_4) ∧ W.cell? ⟨w4.heap.size, 5, none⟩ = some (.slice (some ⟨g4_0, 0, none⟩) n0_0 n0_0) ∧ Below w6.heap.size w6 W) → Calls Try.prog 24 #[.agg #[.int .i64 s0_0, .int .i64 s0_1, .int .i64 s0_2, .int .i64 s0_3, .bool s0_4, .slice a0_0 n0_0 c0_0]] W fun e w' => (∃ q0, e = .returned (.agg #[.int .i64 s0_0, .int .i64 s0_1, .int .i64 s0_2, .int .i64 s0_3, .bool s0_4, .slice (some ⟨q0, 0, none⟩) n0_0 n0_0]) ∧ Bs w' (some ⟨q0, 0, none⟩) n0_0 l0_0) ∧ w'.cell? ⟨w.heap.size, 0, none⟩ = some (.int .i64 s0_0) ∧ w'.cell? ⟨w.heap.size, 1, none⟩ = some (.int .i64 s0_1) ∧ w'.cell? ⟨w.heap.size, 2, none⟩ = some (.int .i64 s0_2) ∧ w'.cell? ⟨w.heap.size, 3, none⟩ = some (.int .i64 s0_3) ∧ w'.cell? ⟨w.heap.size, 4, none⟩ = some (.bool s0_4) ∧ w'.cell? ⟨w.heap.size, 5, none⟩ = some (.slice a0_0 n0_0 c0_0) ∧ w'.cell? ⟨w4.heap.size, 0, none⟩ = some (.int .i64 s0_0) ∧ w'.cell? ⟨w4.heap.size, 1, none⟩ = some (.int .i64 s0_1) ∧ w'.cell? ⟨w4.heap.size, 2, none⟩ = some (.int .i64 s0_2) ∧ w'.cell? ⟨w4.heap.size, 3, none⟩ = some (.int .i64 s0_3) ∧ w'.cell? ⟨w4.heap.size, 4, none⟩ = some (.bool s0_4) ∧ w'.cell? ⟨w4.heap.size, 5, none⟩ = some (.slice (some ⟨g4_0, 0, none⟩) n0_0 n0_0) ∧ Below w6.heap.size w6 w') := by
    refine ⟨fun W ⟨y0, y1, y2, y3, y4, y5, y6, y7, y8, y9, y10, y11, y12⟩ => (G0.out W (ac B6 y12)).mono ?_⟩
    rintro e w' ⟨⟨q0, rfl, R⟩, hb⟩
    have hc := fun (b i : Nat) (h : b < w6.heap.size) => hb.cell (p := ⟨b, i, none⟩) (Nat.lt_of_lt_of_le h y12.size)
    exact ⟨⟨q0, rfl, R.head.bs⟩, (hc (w.heap.size) 0 sl0).trans y0, (hc (w.heap.size) 1 sl0).trans y1, (hc (w.heap.size) 2 sl0).trans y2, (hc (w.heap.size) 3 sl0).trans y3, (hc (w.heap.size) 4 sl0).trans y4, (hc (w.heap.size) 5 sl0).trans y5, (hc (w4.heap.size) 0 sl1).trans y6, (hc (w4.heap.size) 1 sl1).trans y7, (hc (w4.heap.size) 2 sl1).trans y8, (hc (w4.heap.size) 3 sl1).trans y9, (hc (w4.heap.size) 4 sl1).trans y10, (hc (w4.heap.size) 5 sl1).trans y11, ac y12 hb⟩
  have GB : Shut (∀ (q0 : Nat) (W : World), (W.cell? ⟨w.heap.size, 0, none⟩ = some (.int .i64 s0_0) ∧ W.cell? ⟨w.heap.size, 1, none⟩ = some (.int .i64 s0_1) ∧ W.cell? ⟨w.heap.size, 2, none⟩ = some (.int .i64 s0_2) ∧ W.cell? ⟨w.heap.size, 3, none⟩ = some (.int .i64 s0_3) ∧ W.cell? ⟨w.heap.size, 4, none⟩ = some (.bool s0_4) ∧ W.cell? ⟨w.heap.size, 5, none⟩ = some (.slice a0_0 n0_0 c0_0) ∧ W.cell? ⟨w4.heap.size, 0, none⟩ = some (.int .i64 s0_0) ∧ W.cell? ⟨w4.heap.size, 1, none⟩ = some (.int .i64 s0_1) ∧ W.cell? ⟨w4.heap.size, 2, none⟩ = some (.int .i64 s0_2) ∧ W.cell? ⟨w4.heap.size, 3, none⟩ = some (.int .i64 s0_3) ∧ W.cell? ⟨w4.heap.size, 4, none⟩ = some (.bool s0_4) ∧ W.cell? ⟨w4.heap.size, 5, none⟩ = some (.slice (some ⟨g4_0, 0, none⟩) n0_0 n0_0) ∧ Below w6.heap.size w6 W) → Bs W (some ⟨q0, 0, none⟩) n0_0 l0_0 → Calls Try.prog 25 #[.agg #[.int .i64 s0_0, .int .i64 s0_1, .int .i64 s0_2, .int .i64 s0_3, .bool s0_4, .slice (some ⟨g4_0, 0, none⟩) n0_0 n0_0], .agg #[.int .i64 s0_0, .int .i64 s0_1, .int .i64 s0_2, .int .i64 s0_3, .bool s0_4, .slice (some ⟨q0, 0, none⟩) n0_0 n0_0]] W fun e w' => e = .returned (.bool true) ∧ w'.cell? ⟨w.heap.size, 0, none⟩ = some (.int .i64 s0_0) ∧ w'.cell? ⟨w.heap.size, 1, none⟩ = some (.int .i64 s0_1) ∧ w'.cell? ⟨w.heap.size, 2, none⟩ = some (.int .i64 s0_2) ∧ w'.cell? ⟨w.heap.size, 3, none⟩ = some (.int .i64 s0_3) ∧ w'.cell? ⟨w.heap.size, 4, none⟩ = some (.bool s0_4) ∧ w'.cell? ⟨w.heap.size, 5, none⟩ = some (.slice a0_0 n0_0 c0_0) ∧ w'.cell? ⟨w4.heap.size, 0, none⟩ = some (.int .i64 s0_0) ∧ w'.cell? ⟨w4.heap.size, 1, none⟩ = some (.int .i64 s0_1) ∧ w'.cell? ⟨w4.heap.size, 2, none⟩ = some (.int .i64 s0_2) ∧ w'.cell? ⟨w4.heap.size, 3, none⟩ = some (.int .i64 s0_3) ∧ w'.cell? ⟨w4.heap.size, 4, none⟩ = some (.bool s0_4) ∧ w'.cell? ⟨w4.heap.size, 5, none⟩ = some (.slice (some ⟨g4_0, 0, none⟩) n0_0 n0_0) ∧ Below w6.heap.size w6 w') := by
    refine ⟨fun q0 W ⟨y0, y1, y2, y3, y4, y5, y6, y7, y8, y9, y10, y11, y12⟩ p0 => (eqCell_any s0_0 s0_1 s0_2 s0_3 s0_4 _ _ _ _ _ _ _ (X0.head.bs.below y12) p0 d0_0).mono ?_⟩
    rintro e w' ⟨rfl, hb⟩
    have hc := fun (b i : Nat) (h : b < w6.heap.size) => hb.cell (p := ⟨b, i, none⟩) (Nat.lt_of_lt_of_le h y12.size)
    exact ⟨rfl, (hc (w.heap.size) 0 sl0).trans y0, (hc (w.heap.size) 1 sl0).trans y1, (hc (w.heap.size) 2 sl0).trans y2, (hc (w.heap.size) 3 sl0).trans y3, (hc (w.heap.size) 4 sl0).trans y4, (hc (w.heap.size) 5 sl0).trans y5, (hc (w4.heap.size) 0 sl1).trans y6, (hc (w4.heap.size) 1 sl1).trans y7, (hc (w4.heap.size) 2 sl1).trans y8, (hc (w4.heap.size) 3 sl1).trans y9, (hc (w4.heap.size) 4 sl1).trans y10, (hc (w4.heap.size) 5 sl1).trans y11, ac y12 hb⟩
  go_wp2_with fail
  go_region_held3 (fun W => W.cell? ⟨w.heap.size, 0, none⟩ = some (.int .i64 s0_0) ∧ W.cell? ⟨w.heap.size, 1, none⟩ = some (.int .i64 s0_1) ∧ W.cell? ⟨w.heap.size, 2, none⟩ = some (.int .i64 s0_2) ∧ W.cell? ⟨w.heap.size, 3, none⟩ = some (.int .i64 s0_3) ∧ W.cell? ⟨w.heap.size, 4, none⟩ = some (.bool s0_4) ∧ W.cell? ⟨w.heap.size, 5, none⟩ = some (.slice a0_0 n0_0 c0_0) ∧ W.cell? ⟨w4.heap.size, 0, none⟩ = some (.int .i64 s0_0) ∧ W.cell? ⟨w4.heap.size, 1, none⟩ = some (.int .i64 s0_1) ∧ W.cell? ⟨w4.heap.size, 2, none⟩ = some (.int .i64 s0_2) ∧ W.cell? ⟨w4.heap.size, 3, none⟩ = some (.int .i64 s0_3) ∧ W.cell? ⟨w4.heap.size, 4, none⟩ = some (.bool s0_4) ∧ W.cell? ⟨w4.heap.size, 5, none⟩ = some (.slice (some ⟨g4_0, 0, none⟩) n0_0 n0_0) ∧ Below w6.heap.size w6 W)
    (first | (exact ⟨by assumption, by assumption, by assumption, by assumption, by assumption, by assumption, by assumption, by assumption, by assumption, by assumption, by assumption, by assumption, by assumption⟩) | (exact ⟨x0, x1, x2, x3, x4, x5, xx0, xx1, xx2, xx3, xx4, xx5, hWW.drew⟩) | go_keep)
    (first
      | (go_at_call 24; refine (GA.out _ ?_).mono ?_; (first | assumption | (simp [*]; done)); rintro e w7 ⟨⟨ee0, rfl, pp0⟩, y0, y1, y2, y3, y4, y5, y6, y7, y8, y9, y10, y11, y12⟩)
      | (go_at_call 25; refine (GB.out _ _ ?_ ?_).mono ?_; (first | assumption | (simp [*]; done)); assumption; rintro e w7 ⟨rfl, y0, y1, y2, y3, y4, y5, y6, y7, y8, y9, y10, y11, y12⟩))
  clear GA GB hWW sl0 sl1 lS lX y0 y1 y2 y3 y4 y5 y6 y7 y8 y9 y10 y11
  clear x0 x1 x2 x3 x4 x5
  clear xx0 xx1 xx2 xx3 xx4 xx5
  have z7 := y12.size
  replace S0 := S0.below y12 S0.lt
  replace S1 := S1.below y12 S1.lt
  replace X0 := X0.below y12 (Nat.le_refl _)
  replace XB0 := XB0.below y12 XB0.lt
  replace X1 := X1.below y12 (Nat.le_refl _)
  replace XB1 := XB1.below y12 XB1.lt
  have B7 := ac B6 y12
  clear y12 B6
  have x0 := S1.cell (i := 0) rfl
  have x1 := S1.cell (i := 1) rfl
  have x2 := S1.cell (i := 2) rfl
  have x3 := S1.cell (i := 3) rfl
  have x4 := S1.cell (i := 4) rfl
  have x5 := S1.cell (i := 5) rfl
  have xx0 := XB1.cell (i := 0) rfl
  have xx1 := XB1.cell (i := 1) rfl
  have xx2 := XB1.cell (i := 2) rfl
  have xx3 := XB1.cell (i := 3) rfl
  have xx4 := XB1.cell (i := 4) rfl
  have xx5 := XB1.cell (i := 5) rfl
  have lS := S1.lt
  have lX := XB1.lt
  have hWW := Below.refl w7.heap.size w7
  have sl0 : w.heap.size + 1 < w7.heap.size := by first | assumption | omega
  have sl1 : w5.heap.size < w7.heap.size := by first | assumption | omega
  have GA : Shut (∀ W : World, (W.cell? ⟨w.heap.size + 1, 0, none⟩ = some (.int .i64 s1_0) ∧ W.cell? ⟨w.heap.size + 1, 1, none⟩ = some (.int .i64 s1_1) ∧ W.cell? ⟨w.heap.size + 1, 2, none⟩ = some (.int .i64 s1_2) ∧ W.cell? ⟨w.heap.size + 1, 3, none⟩ = some (.int .i64 s1_3) ∧ W.cell? ⟨w.heap.size + 1, 4, none⟩ = some (.bool s1_4) ∧ W.cell? ⟨w.heap.size + 1, 5, none⟩ = some (.slice a1_0 n1_0 c1_0) ∧ W.cell? ⟨w5.heap.size, 0, none⟩ = some (.int .i64 s1_0) ∧ W.cell? ⟨w5.heap.size, 1, none⟩ = some (.int .i64 s1_1) ∧ W.cell? ⟨w5.heap.size, 2, none⟩ = some (.int .i64 s1_2) ∧ W.cell? ⟨w5.heap.size, 3, none⟩ = some (.int .i64 s1_3) ∧ W.cell? ⟨w5.heap.size, 4, none⟩ = some (.bool s1_4) ∧ W.cell? ⟨w5.heap.size, 5, none⟩ = some (.slice (some ⟨g5_0, 0, none⟩) n1_0 n1_0) ∧ Below w7.heap.size w7 W) → Calls Try.prog 24 #[.agg #[.int .i64 s1_0, .int .i64 s1_1, .int .i64 s1_2, .int .i64 s1_3, .bool s1_4, .slice a1_0 n1_0 c1_0]] W fun e w' => (∃ q0, e = .returned (.agg #[.int .i64 s1_0, .int .i64 s1_1, .int .i64 s1_2, .int .i64 s1_3, .bool s1_4, .slice (some ⟨q0, 0, none⟩) n1_0 n1_0]) ∧ Bs w' (some ⟨q0, 0, none⟩) n1_0 l1_0) ∧ w'.cell? ⟨w.heap.size + 1, 0, none⟩ = some (.int .i64 s1_0) ∧ w'.cell? ⟨w.heap.size + 1, 1, none⟩ = some (.int .i64 s1_1) ∧ w'.cell? ⟨w.heap.size + 1, 2, none⟩ = some (.int .i64 s1_2) ∧ w'.cell? ⟨w.heap.size + 1, 3, none⟩ = some (.int .i64 s1_3) ∧ w'.cell? ⟨w.heap.size + 1, 4, none⟩ = some (.bool s1_4) ∧ w'.cell? ⟨w.heap.size + 1, 5, none⟩ = some (.slice a1_0 n1_0 c1_0) ∧ w'.cell? ⟨w5.heap.size, 0, none⟩ = some (.int .i64 s1_0) ∧ w'.cell? ⟨w5.heap.size, 1, none⟩ = some (.int .i64 s1_1) ∧ w'.cell? ⟨w5.heap.size, 2, none⟩ = some (.int .i64 s1_2) ∧ w'.cell? ⟨w5.heap.size, 3, none⟩ = some (.int .i64 s1_3) ∧ w'.cell? ⟨w5.heap.size, 4, none⟩ = some (.bool s1_4) ∧ w'.cell? ⟨w5.heap.size, 5, none⟩ = some (.slice (some ⟨g5_0, 0, none⟩) n1_0 n1_0) ∧ Below w7.heap.size w7 w') := by
    refine ⟨fun W ⟨y0, y1, y2, y3, y4, y5, y6, y7, y8, y9, y10, y11, y12⟩ => (G1.out W (ac B7 y12)).mono ?_⟩
    rintro e w' ⟨⟨q0, rfl, R⟩, hb⟩
    have hc := fun (b i : Nat) (h : b < w7.heap.size) => hb.cell (p := ⟨b, i, none⟩) (Nat.lt_of_lt_of_le h y12.size)
    exact ⟨⟨q0, rfl, R.head.bs⟩, (hc (w.heap.size + 1) 0 sl0).trans y0, (hc (w.heap.size + 1) 1 sl0).trans y1, (hc (w.heap.size + 1) 2 sl0).trans y2, (hc (w.heap.size + 1) 3 sl0).trans y3, (hc (w.heap.size + 1) 4 sl0).trans y4, (hc (w.heap.size + 1) 5 sl0).trans y5, (hc (w5.heap.size) 0 sl1).trans y6, (hc (w5.heap.size) 1 sl1).trans y7, (hc (w5.heap.size) 2 sl1).trans y8, (hc (w5.heap.size) 3 sl1).trans y9, (hc (w5.heap.size) 4 sl1).trans y10, (hc (w5.heap.size) 5 sl1).trans y11, ac y12 hb⟩
  have GB : Shut (∀ (q0 : Nat) (W : World), (W.cell? ⟨w.heap.size + 1, 0, none⟩ = some (.int .i64 s1_0) ∧ W.cell? ⟨w.heap.size + 1, 1, none⟩ = some (.int .i64 s1_1) ∧ W.cell? ⟨w.heap.size + 1, 2, none⟩ = some (.int .i64 s1_2) ∧ W.cell? ⟨w.heap.size + 1, 3, none⟩ = some (.int .i64 s1_3) ∧ W.cell? ⟨w.heap.size + 1, 4, none⟩ = some (.bool s1_4) ∧ W.cell? ⟨w.heap.size + 1, 5, none⟩ = some (.slice a1_0 n1_0 c1_0) ∧ W.cell? ⟨w5.heap.size, 0, none⟩ = some (.int .i64 s1_0) ∧ W.cell? ⟨w5.heap.size, 1, none⟩ = some (.int .i64 s1_1) ∧ W.cell? ⟨w5.heap.size, 2, none⟩ = some (.int .i64 s1_2) ∧ W.cell? ⟨w5.heap.size, 3, none⟩ = some (.int .i64 s1_3) ∧ W.cell? ⟨w5.heap.size, 4, none⟩ = some (.bool s1_4) ∧ W.cell? ⟨w5.heap.size, 5, none⟩ = some (.slice (some ⟨g5_0, 0, none⟩) n1_0 n1_0) ∧ Below w7.heap.size w7 W) → Bs W (some ⟨q0, 0, none⟩) n1_0 l1_0 → Calls Try.prog 25 #[.agg #[.int .i64 s1_0, .int .i64 s1_1, .int .i64 s1_2, .int .i64 s1_3, .bool s1_4, .slice (some ⟨g5_0, 0, none⟩) n1_0 n1_0], .agg #[.int .i64 s1_0, .int .i64 s1_1, .int .i64 s1_2, .int .i64 s1_3, .bool s1_4, .slice (some ⟨q0, 0, none⟩) n1_0 n1_0]] W fun e w' => e = .returned (.bool true) ∧ w'.cell? ⟨w.heap.size + 1, 0, none⟩ = some (.int .i64 s1_0) ∧ w'.cell? ⟨w.heap.size + 1, 1, none⟩ = some (.int .i64 s1_1) ∧ w'.cell? ⟨w.heap.size + 1, 2, none⟩ = some (.int .i64 s1_2) ∧ w'.cell? ⟨w.heap.size + 1, 3, none⟩ = some (.int .i64 s1_3) ∧ w'.cell? ⟨w.heap.size + 1, 4, none⟩ = some (.bool s1_4) ∧ w'.cell? ⟨w.heap.size + 1, 5, none⟩ = some (.slice a1_0 n1_0 c1_0) ∧ w'.cell? ⟨w5.heap.size, 0, none⟩ = some (.int .i64 s1_0) ∧ w'.cell? ⟨w5.heap.size, 1, none⟩ = some (.int .i64 s1_1) ∧ w'.cell? ⟨w5.heap.size, 2, none⟩ = some (.int .i64 s1_2) ∧ w'.cell? ⟨w5.heap.size, 3, none⟩ = some (.int .i64 s1_3) ∧ w'.cell? ⟨w5.heap.size, 4, none⟩ = some (.bool s1_4) ∧ w'.cell? ⟨w5.heap.size, 5, none⟩ = some (.slice (some ⟨g5_0, 0, none⟩) n1_0 n1_0) ∧ Below w7.heap.size w7 w') := by
    refine ⟨fun q0 W ⟨y0, y1, y2, y3, y4, y5, y6, y7, y8, y9, y10, y11, y12⟩ p0 => (eqCell_any s1_0 s1_1 s1_2 s1_3 s1_4 _ _ _ _ _ _ _ (X1.head.bs.below y12) p0 d1_0).mono ?_⟩
    rintro e w' ⟨rfl, hb⟩
    have hc := fun (b i : Nat) (h : b < w7.heap.size) => hb.cell (p := ⟨b, i, none⟩) (Nat.lt_of_lt_of_le h y12.size)
    exact ⟨rfl, (hc (w.heap.size + 1) 0 sl0).trans y0, (hc (w.heap.size + 1) 1 sl0).trans y1, (hc (w.heap.size + 1) 2 sl0).trans y2, (hc (w.heap.size + 1) 3 sl0).trans y3, (hc (w.heap.size + 1) 4 sl0).trans y4, (hc (w.heap.size + 1) 5 sl0).trans y5, (hc (w5.heap.size) 0 sl1).trans y6, (hc (w5.heap.size) 1 sl1).trans y7, (hc (w5.heap.size) 2 sl1).trans y8, (hc (w5.heap.size) 3 sl1).trans y9, (hc (w5.heap.size) 4 sl1).trans y10, (hc (w5.heap.size) 5 sl1).trans y11, ac y12 hb⟩
  go_wp2_with fail
  go_region_held3 (fun W => W.cell? ⟨w.heap.size + 1, 0, none⟩ = some (.int .i64 s1_0) ∧ W.cell? ⟨w.heap.size + 1, 1, none⟩ = some (.int .i64 s1_1) ∧ W.cell? ⟨w.heap.size + 1, 2, none⟩ = some (.int .i64 s1_2) ∧ W.cell? ⟨w.heap.size + 1, 3, none⟩ = some (.int .i64 s1_3) ∧ W.cell? ⟨w.heap.size + 1, 4, none⟩ = some (.bool s1_4) ∧ W.cell? ⟨w.heap.size + 1, 5, none⟩ = some (.slice a1_0 n1_0 c1_0) ∧ W.cell? ⟨w5.heap.size, 0, none⟩ = some (.int .i64 s1_0) ∧ W.cell? ⟨w5.heap.size, 1, none⟩ = some (.int .i64 s1_1) ∧ W.cell? ⟨w5.heap.size, 2, none⟩ = some (.int .i64 s1_2) ∧ W.cell? ⟨w5.heap.size, 3, none⟩ = some (.int .i64 s1_3) ∧ W.cell? ⟨w5.heap.size, 4, none⟩ = some (.bool s1_4) ∧ W.cell? ⟨w5.heap.size, 5, none⟩ = some (.slice (some ⟨g5_0, 0, none⟩) n1_0 n1_0) ∧ Below w7.heap.size w7 W)
    (first | (exact ⟨by assumption, by assumption, by assumption, by assumption, by assumption, by assumption, by assumption, by assumption, by assumption, by assumption, by assumption, by assumption, by assumption⟩) | (exact ⟨x0, x1, x2, x3, x4, x5, xx0, xx1, xx2, xx3, xx4, xx5, hWW.drew⟩) | go_keep)
    (first
      | (go_at_call 24; refine (GA.out _ ?_).mono ?_; (first | assumption | (simp [*]; done)); rintro e w8 ⟨⟨ee0, rfl, pp0⟩, y0, y1, y2, y3, y4, y5, y6, y7, y8, y9, y10, y11, y12⟩)
      | (go_at_call 25; refine (GB.out _ _ ?_ ?_).mono ?_; (first | assumption | (simp [*]; done)); assumption; rintro e w8 ⟨rfl, y0, y1, y2, y3, y4, y5, y6, y7, y8, y9, y10, y11, y12⟩))
  clear GA GB hWW sl0 sl1 lS lX y0 y1 y2 y3 y4 y5 y6 y7 y8 y9 y10 y11
  clear x0 x1 x2 x3 x4 x5
  clear xx0 xx1 xx2 xx3 xx4 xx5
  have z8 := y12.size
  replace S0 := S0.below y12 S0.lt
  replace S1 := S1.below y12 S1.lt
  replace X0 := X0.below y12 (Nat.le_refl _)
  replace XB0 := XB0.below y12 XB0.lt
  replace X1 := X1.below y12 (Nat.le_refl _)
  replace XB1 := XB1.below y12 XB1.lt
  have B8 := ac B7 y12
  clear y12 B7
  go_wp2
  go_ret
  exact ⟨rfl, B8⟩

theorem exactSameCells_all (s0_0 : Int) (s0_1 : Int) (s0_2 : Int) (s0_3 : Int) (s0_4 : Bool) (s1_0 : Int) (s1_1 : Int) (s1_2 : Int) (s1_3 : Int) (s1_4 : Bool) (a0_0 : Option Addr) (n0_0 c0_0 : Nat) (l0_0 : List Int) (a1_0 : Option Addr) (n1_0 c1_0 : Nat) (l1_0 : List Int) (w : World) (h0_0 : Bs w a0_0 n0_0 l0_0) (h1_0 : Bs w a1_0 n1_0 l1_0) (m0_0 : n0_0 ≤ 9223372036854775807) (m1_0 : n1_0 ≤ 9223372036854775807) (hall :  n0_0 + n1_0 ≤ 1048576 → ∃ (Z0 : Bool),  ∃ (P : World → Prop), P w ∧ (∀ W W' : World, Below W.heap.size W W' → P W → P W') ∧ Shut (∀ (g0_0 g1_0 : Nat) (W : World) (_ : Bs W (some ⟨g0_0, 0, none⟩) n0_0 l0_0) (_ : Bs W (some ⟨g1_0, 0, none⟩) n1_0 l1_0), Calls Try.prog 19 #[.agg #[.int .i64 s0_0, .int .i64 s0_1, .int .i64 s0_2, .int .i64 s0_3, .bool s0_4, .slice (some ⟨g0_0, 0, none⟩) n0_0 n0_0], .agg #[.int .i64 s1_0, .int .i64 s1_1, .int .i64 s1_2, .int .i64 s1_3, .bool s1_4, .slice (some ⟨g1_0, 0, none⟩) n1_0 n1_0]] W (fun e w' => e = .returned (.bool Z0) ∧ Below W.heap.size W w')) ∧ Shut (∀ (g0_0 g1_0 : Nat) (W : World) (_ : P W) (_ : Bs W (some ⟨g0_0, 0, none⟩) n0_0 l0_0) (_ : Bs W (some ⟨g1_0, 0, none⟩) n1_0 l1_0), Calls Try.prog 18 #[.agg #[.int .i64 s0_0, .int .i64 s0_1, .int .i64 s0_2, .int .i64 s0_3, .bool s0_4, .slice (some ⟨g0_0, 0, none⟩) n0_0 n0_0], .agg #[.int .i64 s1_0, .int .i64 s1_1, .int .i64 s1_2, .int .i64 s1_3, .bool s1_4, .slice (some ⟨g1_0, 0, none⟩) n1_0 n1_0]] W (fun e w' => e = .returned (.bool Z0) ∧ Below W.heap.size W w'))) :
    Calls Try.prog 8 #[.agg #[.int .i64 s0_0, .int .i64 s0_1, .int .i64 s0_2, .int .i64 s0_3, .bool s0_4, .slice a0_0 n0_0 c0_0], .agg #[.int .i64 s1_0, .int .i64 s1_1, .int .i64 s1_2, .int .i64 s1_3, .bool s1_4, .slice a1_0 n1_0 c1_0]] w fun e w' => e = .returned (.bool true) ∧ Below w.heap.size w w' := by
  by_cases hz0 : n0_0 ≤ 1048576
  rotate_left
  · clear hall
    have hq0 : leftC 1048576 n0_0 = -1 := by unfold leftC; rw [if_pos (by omega)]
    have cz0 := fun W => szCell_any s0_0 s0_1 s0_2 s0_3 s0_4 a0_0 n0_0 c0_0 (1048576) W (by omega) (by omega) (by omega)
    rw [hq0] at cz0
    clear hq0
    have S0 := Stc.new w 40 [.int .i64 s0_0, .int .i64 s0_1, .int .i64 s0_2, .int .i64 s0_3, .bool s0_4, .slice a0_0 n0_0 c0_0] _ rfl
    have S1 := Stc.new (w.alloc (.cells #[.int .i64 s0_0, .int .i64 s0_1, .int .i64 s0_2, .int .i64 s0_3, .bool s0_4, .slice a0_0 n0_0 c0_0] 40)) 40 [.int .i64 s1_0, .int .i64 s1_1, .int .i64 s1_2, .int .i64 s1_3, .bool s1_4, .slice a1_0 n1_0 c1_0] _ rfl
    replace S0 := S0.alloc (.cells #[.int .i64 s1_0, .int .i64 s1_1, .int .i64 s1_2, .int .i64 s1_3, .bool s1_4, .slice a1_0 n1_0 c1_0] 40)
    simp only [World.size_alloc] at S1
    go_enter Try.func8, Try.ntmps8
    have x0 := S0.cell (i := 0) rfl
    have x1 := S0.cell (i := 1) rfl
    have x2 := S0.cell (i := 2) rfl
    have x3 := S0.cell (i := 3) rfl
    have x4 := S0.cell (i := 4) rfl
    have x5 := S0.cell (i := 5) rfl
    go_wp2_with fail
    refine (cz0 _).mono ?_
    rintro e w1 ⟨rfl, b1⟩
    clear x0 x1 x2 x3 x4 x5
    replace S0 := S0.below b1 S0.lt
    replace S1 := S1.below b1 S1.lt
    go_wp2
    go_ret
    exact ⟨rfl, (ac (ab (ab (Below.refl _ w) (.cells #[.int .i64 s0_0, .int .i64 s0_1, .int .i64 s0_2, .int .i64 s0_3, .bool s0_4, .slice a0_0 n0_0 c0_0] 40)) (.cells #[.int .i64 s1_0, .int .i64 s1_1, .int .i64 s1_2, .int .i64 s1_3, .bool s1_4, .slice a1_0 n1_0 c1_0] 40)) b1)⟩
  by_cases hz1 : n0_0 + n1_0 ≤ 1048576
  rotate_left
  · clear hall
    have hq0 : leftC 1048576 n0_0 = 1048576 - (n0_0 : Int) := by unfold leftC; rw [if_neg (by omega)]
    have cz0 := fun W => szCell_any s0_0 s0_1 s0_2 s0_3 s0_4 a0_0 n0_0 c0_0 (1048576) W (by omega) (by omega) (by omega)
    rw [hq0] at cz0
    clear hq0
    obtain ⟨lf0, hlf0⟩ : ∃ x, x = 1048576 - (n0_0 : Int) := ⟨_, rfl⟩
    rw [← hlf0] at cz0
    have lp0 : ¬ lf0 < 0 := by omega
    have hq1 : leftC lf0 n1_0 = -1 := by unfold leftC; rw [if_pos (by omega)]
    have cz1 := fun W => szCell_any s1_0 s1_1 s1_2 s1_3 s1_4 a1_0 n1_0 c1_0 (lf0) W (by omega) (by omega) (by omega)
    rw [hq1] at cz1
    clear hq1
    clear hlf0
    have S0 := Stc.new w 40 [.int .i64 s0_0, .int .i64 s0_1, .int .i64 s0_2, .int .i64 s0_3, .bool s0_4, .slice a0_0 n0_0 c0_0] _ rfl
    have S1 := Stc.new (w.alloc (.cells #[.int .i64 s0_0, .int .i64 s0_1, .int .i64 s0_2, .int .i64 s0_3, .bool s0_4, .slice a0_0 n0_0 c0_0] 40)) 40 [.int .i64 s1_0, .int .i64 s1_1, .int .i64 s1_2, .int .i64 s1_3, .bool s1_4, .slice a1_0 n1_0 c1_0] _ rfl
    replace S0 := S0.alloc (.cells #[.int .i64 s1_0, .int .i64 s1_1, .int .i64 s1_2, .int .i64 s1_3, .bool s1_4, .slice a1_0 n1_0 c1_0] 40)
    simp only [World.size_alloc] at S1
    go_enter Try.func8, Try.ntmps8
    have x0 := S0.cell (i := 0) rfl
    have x1 := S0.cell (i := 1) rfl
    have x2 := S0.cell (i := 2) rfl
    have x3 := S0.cell (i := 3) rfl
    have x4 := S0.cell (i := 4) rfl
    have x5 := S0.cell (i := 5) rfl
    go_wp2_with fail
    refine (cz0 _).mono ?_
    rintro e w1 ⟨rfl, b1⟩
    clear x0 x1 x2 x3 x4 x5
    replace S0 := S0.below b1 S0.lt
    replace S1 := S1.below b1 S1.lt
    have x0 := S1.cell (i := 0) rfl
    have x1 := S1.cell (i := 1) rfl
    have x2 := S1.cell (i := 2) rfl
    have x3 := S1.cell (i := 3) rfl
    have x4 := S1.cell (i := 4) rfl
    have x5 := S1.cell (i := 5) rfl
    go_wp2_with fail
    refine (cz1 _).mono ?_
    rintro e w2 ⟨rfl, b2⟩
    clear x0 x1 x2 x3 x4 x5
    replace S0 := S0.below b2 S0.lt
    replace S1 := S1.below b2 S1.lt
    go_wp2
    go_ret
    exact ⟨rfl, (ac (ac (ab (ab (Below.refl _ w) (.cells #[.int .i64 s0_0, .int .i64 s0_1, .int .i64 s0_2, .int .i64 s0_3, .bool s0_4, .slice a0_0 n0_0 c0_0] 40)) (.cells #[.int .i64 s1_0, .int .i64 s1_1, .int .i64 s1_2, .int .i64 s1_3, .bool s1_4, .slice a1_0 n1_0 c1_0] 40)) b1) b2)⟩
  obtain ⟨Z0, P, hP, hkeep, Gs, Gi⟩ := hall hz1
  exact exactSameCells_walk s0_0 s0_1 s0_2 s0_3 s0_4 s1_0 s1_1 s1_2 s1_3 s1_4 a0_0 n0_0 c0_0 l0_0 a1_0 n1_0 c1_0 l1_0 w h0_0 h1_0 hz1 Z0 P hP hkeep Gs Gi
end Go.Proofs.Ytpoiecdifhkegaa
