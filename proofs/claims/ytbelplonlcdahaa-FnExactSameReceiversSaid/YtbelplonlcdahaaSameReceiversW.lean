/- The walk of the exact law of SameReceivers. -/
import Derived.Test.YtbelplonlcdahaaRcvC
import Derived.Test.YtbelplonlcdahaaRcvT
import Derived.Deep.RegionHeld3
import Derived.Deep.CutRange
namespace Go.Proofs.Ytbelplonlcdahaa
open Go.RowKit

set_option linter.unusedVariables false in
set_option maxRecDepth 100000 in
set_option maxHeartbeats 4000000 in
theorem exactSameReceivers_walk (s0_0 : Int) (s1_0 : Int) (a0_0 : Option Addr) (n0_0 c0_0 : Nat) (l0_0 : List HeldD) (a0_1 : Option Addr) (n0_1 c0_1 : Nat) (l0_1 : List Int) (a1_0 : Option Addr) (n1_0 c1_0 : Nat) (l1_0 : List HeldD) (a1_1 : Option Addr) (n1_1 c1_1 : Nat) (l1_1 : List Int) (w : World) (h0_0 : Lst HeldD.cels 3 w a0_0 n0_0 l0_0) (h0_1 : Bs w a0_1 n0_1 l0_1) (h1_0 : Lst HeldD.cels 3 w a1_0 n1_0 l1_0) (h1_1 : Bs w a1_1 n1_1 l1_1)  (hsz : totReceiver n0_0 l0_0 n0_1 + totReceiver n1_0 l1_0 n1_1 ≤ 1048576) (Z0 : Bool)   (P : World → Prop) (hP : P w) (hkeep : ∀ W W' : World, Below W.heap.size W W' → P W → P W') (Gs : Shut (∀ (g0_0 g0_1 g1_0 g1_1 : Nat) (W : World) (_ : Lst HeldD.cels 3 W (some ⟨g0_0, 0, none⟩) n0_0 l0_0) (_ : Bs W (some ⟨g0_1, 0, none⟩) n0_1 l0_1) (_ : Lst HeldD.cels 3 W (some ⟨g1_0, 0, none⟩) n1_0 l1_0) (_ : Bs W (some ⟨g1_1, 0, none⟩) n1_1 l1_1), Calls Try.prog 41 #[.agg #[.int .i64 s0_0, .slice (some ⟨g0_0, 0, none⟩) n0_0 n0_0, .slice (some ⟨g0_1, 0, none⟩) n0_1 n0_1], .agg #[.int .i64 s1_0, .slice (some ⟨g1_0, 0, none⟩) n1_0 n1_0, .slice (some ⟨g1_1, 0, none⟩) n1_1 n1_1]] W (fun e w' => e = .returned (.bool Z0) ∧ Below W.heap.size W w'))) (Gi : Shut (∀ (g0_0 g0_1 g1_0 g1_1 : Nat) (W : World) (_ : P W) (_ : Lst HeldD.cels 3 W (some ⟨g0_0, 0, none⟩) n0_0 l0_0) (_ : Bs W (some ⟨g0_1, 0, none⟩) n0_1 l0_1) (_ : Lst HeldD.cels 3 W (some ⟨g1_0, 0, none⟩) n1_0 l1_0) (_ : Bs W (some ⟨g1_1, 0, none⟩) n1_1 l1_1), Calls Try.prog 40 #[.agg #[.int .i64 s0_0, .slice (some ⟨g0_0, 0, none⟩) n0_0 n0_0, .slice (some ⟨g0_1, 0, none⟩) n0_1 n0_1], .agg #[.int .i64 s1_0, .slice (some ⟨g1_0, 0, none⟩) n1_0 n1_0, .slice (some ⟨g1_1, 0, none⟩) n1_1 n1_1]] W (fun e w' => e = .returned (.bool Z0) ∧ Below W.heap.size W w'))) :
    Calls Try.prog 14 #[.agg #[.int .i64 s0_0, .slice a0_0 n0_0 c0_0, .slice a0_1 n0_1 c0_1], .agg #[.int .i64 s1_0, .slice a1_0 n1_0 c1_0, .slice a1_1 n1_1 c1_1]] w fun e w' => e = .returned (.bool true) ∧ Below w.heap.size w w' := by
  have HSZ : True := trivial
  have ts0 : totReceiver n0_0 l0_0 n0_1 = n0_0 + sumE HeldD.len l0_0 + n0_1 := rfl
  have ts1 : totReceiver n1_0 l1_0 n1_1 = n1_0 + sumE HeldD.len l1_0 + n1_1 := rfl
  have f0_0 : n0_0 ≤ 1048576 := by omega
  have b0_0 : ∀ e ∈ l0_0, e.f1.length ≤ 1048576 := fun e he => by have h1 : e.f1.length ≤ sumE HeldD.len l0_0 := sumE_mem HeldD.len he; omega
  have q0_0 : sumE HeldD.wd l0_0 ≤ 10000000 := by have h1 := sumHeldD_wd l0_0; have h2 := h0_0.len; omega
  have f0_1 : n0_1 ≤ 1048576 := by omega
  have f1_0 : n1_0 ≤ 1048576 := by omega
  have b1_0 : ∀ e ∈ l1_0, e.f1.length ≤ 1048576 := fun e he => by have h1 : e.f1.length ≤ sumE HeldD.len l1_0 := sumE_mem HeldD.len he; omega
  have q1_0 : sumE HeldD.wd l1_0 ≤ 10000000 := by have h1 := sumHeldD_wd l1_0; have h2 := h1_0.len; omega
  have f1_1 : n1_1 ≤ 1048576 := by omega
  have G0 := Shut.mk (fun W (b : Below w.heap.size w W) => toReceiver_any s0_0 a0_0 n0_0 c0_0 l0_0 a0_1 n0_1 c0_1 l0_1 W (h0_0.below b) (h0_1.below b) f0_0 b0_0 f0_1)
  have G1 := Shut.mk (fun W (b : Below w.heap.size w W) => toReceiver_any s1_0 a1_0 n1_0 c1_0 l1_0 a1_1 n1_1 c1_1 l1_1 W (h1_0.below b) (h1_1.below b) f1_0 b1_0 f1_1)
  have hq0 : leftC 1048576 (totReceiver n0_0 l0_0 n0_1) = 1048576 - (((totReceiver n0_0 l0_0 n0_1 : Nat) : Int) : Int) := by unfold leftC; rw [if_neg (by omega)]
  have cz0 := fun W (b : Below w.heap.size w W) => szReceiver_any s0_0 a0_0 n0_0 c0_0 l0_0 a0_1 n0_1 c0_1 l0_1 (1048576) W (h0_0.below b) (h0_1.below b) (by omega) (by omega) (by omega) (fun e he => by have := b0_0 e he; omega) (by omega)
  rw [hq0] at cz0
  clear hq0
  obtain ⟨lf0, hlf0⟩ : ∃ x, x = 1048576 - ((totReceiver n0_0 l0_0 n0_1 : Nat) : Int) := ⟨_, rfl⟩
  rw [← hlf0] at cz0
  have lp0 : ¬ lf0 < 0 := by omega
  have lm0 : lf0 ≤ 1048576 := by omega
  have hq1 : leftC lf0 (totReceiver n1_0 l1_0 n1_1) = lf0 - (((totReceiver n1_0 l1_0 n1_1 : Nat) : Int) : Int) := by unfold leftC; rw [if_neg (by omega)]
  have cz1 := fun W (b : Below w.heap.size w W) => szReceiver_any s1_0 a1_0 n1_0 c1_0 l1_0 a1_1 n1_1 c1_1 l1_1 (lf0) W (h1_0.below b) (h1_1.below b) (by omega) (by omega) (by omega) (fun e he => by have := b1_0 e he; omega) (by omega)
  rw [hq1] at cz1
  clear hq1
  obtain ⟨lf1, hlf1⟩ : ∃ x, x = lf0 - ((totReceiver n1_0 l1_0 n1_1 : Nat) : Int) := ⟨_, rfl⟩
  rw [← hlf1] at cz1
  have lp1 : ¬ lf1 < 0 := by omega
  have lm1 : lf1 ≤ 1048576 := by omega
  clear hlf0 ts0
  clear hlf1 ts1
  clear h0_0 h0_1 h1_0 h1_1
  clear hsz
  have B0 := Below.refl w.heap.size w
  replace B0 := ab B0 (.cells #[.int .i64 s0_0, .slice a0_0 n0_0 c0_0, .slice a0_1 n0_1 c0_1] 86)
  have S0 := Stc.new w 86 [.int .i64 s0_0, .slice a0_0 n0_0 c0_0, .slice a0_1 n0_1 c0_1] _ rfl
  replace S0 := S0.alloc (.cells #[.int .i64 s1_0, .slice a1_0 n1_0 c1_0, .slice a1_1 n1_1 c1_1] 86)
  replace B0 := ab B0 (.cells #[.int .i64 s1_0, .slice a1_0 n1_0 c1_0, .slice a1_1 n1_1 c1_1] 86)
  have S1 := Stc.new (w.alloc (.cells #[.int .i64 s0_0, .slice a0_0 n0_0 c0_0, .slice a0_1 n0_1 c0_1] 86)) 86 [.int .i64 s1_0, .slice a1_0 n1_0 c1_0, .slice a1_1 n1_1 c1_1] _ rfl
  simp only [World.size_alloc] at S1
  go_enter Try.func14, Try.ntmps14
  have x0 := S0.cell (i := 0) rfl
  have x1 := S0.cell (i := 1) rfl
  have x2 := S0.cell (i := 2) rfl
  go_wp2_with fail
  refine (cz0 _ B0).mono ?_
  rintro e w1 ⟨rfl, b1⟩
  clear x0 x1 x2
  have z1 := b1.size
  simp only [World.size_alloc] at z1
  replace S0 := S0.below b1 S0.lt
  replace S1 := S1.below b1 S1.lt
  have B1 := ac B0 b1
  clear b1 B0
  have x0 := S1.cell (i := 0) rfl
  have x1 := S1.cell (i := 1) rfl
  have x2 := S1.cell (i := 2) rfl
  go_wp2_with fail
  refine (cz1 _ B1).mono ?_
  rintro e w2 ⟨rfl, b2⟩
  clear x0 x1 x2
  have z2 := b2.size
  replace S0 := S0.below b2 S0.lt
  replace S1 := S1.below b2 S1.lt
  have B2 := ac B1 b2
  clear b2 B1
  have x0_0 := S0.cell (i := 0) rfl
  have x0_1 := S0.cell (i := 1) rfl
  have x0_2 := S0.cell (i := 2) rfl
  have x1_0 := S1.cell (i := 0) rfl
  have x1_1 := S1.cell (i := 1) rfl
  have x1_2 := S1.cell (i := 2) rfl
  have lS0 := S0.lt
  have lS1 := S1.lt
  have hWW := Below.refl w2.heap.size w2
  have sl0 : w.heap.size < w2.heap.size := by first | assumption | omega
  have sl1 : w.heap.size + 1 < w2.heap.size := by first | assumption | omega
  have GX0 : Shut (∀ W : World, (W.cell? ⟨w.heap.size, 0, none⟩ = some (.int .i64 s0_0) ∧ W.cell? ⟨w.heap.size, 1, none⟩ = some (.slice a0_0 n0_0 c0_0) ∧ W.cell? ⟨w.heap.size, 2, none⟩ = some (.slice a0_1 n0_1 c0_1) ∧ W.cell? ⟨w.heap.size + 1, 0, none⟩ = some (.int .i64 s1_0) ∧ W.cell? ⟨w.heap.size + 1, 1, none⟩ = some (.slice a1_0 n1_0 c1_0) ∧ W.cell? ⟨w.heap.size + 1, 2, none⟩ = some (.slice a1_1 n1_1 c1_1) ∧ Below w2.heap.size w2 W) → Calls Try.prog 58 #[.agg #[.int .i64 s0_0, .slice a0_0 n0_0 c0_0, .slice a0_1 n0_1 c0_1]] W fun e w' => (∃ q0 q1 : Nat, e = .returned (.agg #[.int .i64 s0_0, .slice (some ⟨q0, 0, none⟩) n0_0 n0_0, .slice (some ⟨q1, 0, none⟩) n0_1 n0_1]) ∧ Lst HeldD.cels 3 w' (some ⟨q0, 0, none⟩) n0_0 l0_0 ∧ Bs w' (some ⟨q1, 0, none⟩) n0_1 l0_1) ∧ Below W.heap.size W w' ∧ w'.cell? ⟨w.heap.size, 0, none⟩ = some (.int .i64 s0_0) ∧ w'.cell? ⟨w.heap.size, 1, none⟩ = some (.slice a0_0 n0_0 c0_0) ∧ w'.cell? ⟨w.heap.size, 2, none⟩ = some (.slice a0_1 n0_1 c0_1) ∧ w'.cell? ⟨w.heap.size + 1, 0, none⟩ = some (.int .i64 s1_0) ∧ w'.cell? ⟨w.heap.size + 1, 1, none⟩ = some (.slice a1_0 n1_0 c1_0) ∧ w'.cell? ⟨w.heap.size + 1, 2, none⟩ = some (.slice a1_1 n1_1 c1_1) ∧ Below w2.heap.size w2 w') := by
    refine ⟨fun W ⟨y0, y1, y2, y3, y4, y5, y6⟩ => (G0.out W (ac B2 y6)).mono ?_⟩
    rintro e w' ⟨⟨q0, q1, rfl, R⟩, hb⟩
    have OR := R
    obtain ⟨_, _, _, _, _, OR_0, OR_1⟩ := OR
    replace OR_0 := Lo.rows OR_0
    replace OR_1 := Bo.bs OR_1
    have hc := fun (b i : Nat) (h : b < w2.heap.size) => hb.cell (p := ⟨b, i, none⟩) (Nat.lt_of_lt_of_le h y6.size)
    exact ⟨⟨q0, q1, rfl, OR_0, OR_1⟩, hb, (hc (w.heap.size) 0 sl0).trans y0, (hc (w.heap.size) 1 sl0).trans y1, (hc (w.heap.size) 2 sl0).trans y2, (hc (w.heap.size + 1) 0 sl1).trans y3, (hc (w.heap.size + 1) 1 sl1).trans y4, (hc (w.heap.size + 1) 2 sl1).trans y5, ac y6 hb⟩
  have GX1 : Shut (∀ W : World, (W.cell? ⟨w.heap.size, 0, none⟩ = some (.int .i64 s0_0) ∧ W.cell? ⟨w.heap.size, 1, none⟩ = some (.slice a0_0 n0_0 c0_0) ∧ W.cell? ⟨w.heap.size, 2, none⟩ = some (.slice a0_1 n0_1 c0_1) ∧ W.cell? ⟨w.heap.size + 1, 0, none⟩ = some (.int .i64 s1_0) ∧ W.cell? ⟨w.heap.size + 1, 1, none⟩ = some (.slice a1_0 n1_0 c1_0) ∧ W.cell? ⟨w.heap.size + 1, 2, none⟩ = some (.slice a1_1 n1_1 c1_1) ∧ Below w2.heap.size w2 W) → Calls Try.prog 58 #[.agg #[.int .i64 s1_0, .slice a1_0 n1_0 c1_0, .slice a1_1 n1_1 c1_1]] W fun e w' => (∃ q0 q1 : Nat, e = .returned (.agg #[.int .i64 s1_0, .slice (some ⟨q0, 0, none⟩) n1_0 n1_0, .slice (some ⟨q1, 0, none⟩) n1_1 n1_1]) ∧ Lst HeldD.cels 3 w' (some ⟨q0, 0, none⟩) n1_0 l1_0 ∧ Bs w' (some ⟨q1, 0, none⟩) n1_1 l1_1) ∧ Below W.heap.size W w' ∧ w'.cell? ⟨w.heap.size, 0, none⟩ = some (.int .i64 s0_0) ∧ w'.cell? ⟨w.heap.size, 1, none⟩ = some (.slice a0_0 n0_0 c0_0) ∧ w'.cell? ⟨w.heap.size, 2, none⟩ = some (.slice a0_1 n0_1 c0_1) ∧ w'.cell? ⟨w.heap.size + 1, 0, none⟩ = some (.int .i64 s1_0) ∧ w'.cell? ⟨w.heap.size + 1, 1, none⟩ = some (.slice a1_0 n1_0 c1_0) ∧ w'.cell? ⟨w.heap.size + 1, 2, none⟩ = some (.slice a1_1 n1_1 c1_1) ∧ Below w2.heap.size w2 w') := by
    refine ⟨fun W ⟨y0, y1, y2, y3, y4, y5, y6⟩ => (G1.out W (ac B2 y6)).mono ?_⟩
    rintro e w' ⟨⟨q0, q1, rfl, R⟩, hb⟩
    have OR := R
    obtain ⟨_, _, _, _, _, OR_0, OR_1⟩ := OR
    replace OR_0 := Lo.rows OR_0
    replace OR_1 := Bo.bs OR_1
    have hc := fun (b i : Nat) (h : b < w2.heap.size) => hb.cell (p := ⟨b, i, none⟩) (Nat.lt_of_lt_of_le h y6.size)
    exact ⟨⟨q0, q1, rfl, OR_0, OR_1⟩, hb, (hc (w.heap.size) 0 sl0).trans y0, (hc (w.heap.size) 1 sl0).trans y1, (hc (w.heap.size) 2 sl0).trans y2, (hc (w.heap.size + 1) 0 sl1).trans y3, (hc (w.heap.size + 1) 1 sl1).trans y4, (hc (w.heap.size + 1) 2 sl1).trans y5, ac y6 hb⟩
  have GF : Shut (∀ (g0_0 g0_1 g1_0 g1_1 : Nat) (W : World), (W.cell? ⟨w.heap.size, 0, none⟩ = some (.int .i64 s0_0) ∧ W.cell? ⟨w.heap.size, 1, none⟩ = some (.slice a0_0 n0_0 c0_0) ∧ W.cell? ⟨w.heap.size, 2, none⟩ = some (.slice a0_1 n0_1 c0_1) ∧ W.cell? ⟨w.heap.size + 1, 0, none⟩ = some (.int .i64 s1_0) ∧ W.cell? ⟨w.heap.size + 1, 1, none⟩ = some (.slice a1_0 n1_0 c1_0) ∧ W.cell? ⟨w.heap.size + 1, 2, none⟩ = some (.slice a1_1 n1_1 c1_1) ∧ Below w2.heap.size w2 W) → Lst HeldD.cels 3 W (some ⟨g0_0, 0, none⟩) n0_0 l0_0 → Bs W (some ⟨g0_1, 0, none⟩) n0_1 l0_1 → Lst HeldD.cels 3 W (some ⟨g1_0, 0, none⟩) n1_0 l1_0 → Bs W (some ⟨g1_1, 0, none⟩) n1_1 l1_1 → Calls Try.prog 41 #[.agg #[.int .i64 s0_0, .slice (some ⟨g0_0, 0, none⟩) n0_0 n0_0, .slice (some ⟨g0_1, 0, none⟩) n0_1 n0_1], .agg #[.int .i64 s1_0, .slice (some ⟨g1_0, 0, none⟩) n1_0 n1_0, .slice (some ⟨g1_1, 0, none⟩) n1_1 n1_1]] W fun e w' => e = .returned (.bool Z0) ∧ w'.cell? ⟨w.heap.size, 0, none⟩ = some (.int .i64 s0_0) ∧ w'.cell? ⟨w.heap.size, 1, none⟩ = some (.slice a0_0 n0_0 c0_0) ∧ w'.cell? ⟨w.heap.size, 2, none⟩ = some (.slice a0_1 n0_1 c0_1) ∧ w'.cell? ⟨w.heap.size + 1, 0, none⟩ = some (.int .i64 s1_0) ∧ w'.cell? ⟨w.heap.size + 1, 1, none⟩ = some (.slice a1_0 n1_0 c1_0) ∧ w'.cell? ⟨w.heap.size + 1, 2, none⟩ = some (.slice a1_1 n1_1 c1_1) ∧ Below w2.heap.size w2 w') := by
    refine ⟨fun g0_0 g0_1 g1_0 g1_1 W ⟨y0, y1, y2, y3, y4, y5, y6⟩ p0_0 p0_1 p1_0 p1_1 => (Gs.out g0_0 g0_1 g1_0 g1_1 W p0_0 p0_1 p1_0 p1_1).mono ?_⟩
    rintro e w' ⟨rfl, hb⟩
    have hc := fun (b i : Nat) (h : b < w2.heap.size) => hb.cell (p := ⟨b, i, none⟩) (Nat.lt_of_lt_of_le h y6.size)
    exact ⟨rfl, (hc (w.heap.size) 0 sl0).trans y0, (hc (w.heap.size) 1 sl0).trans y1, (hc (w.heap.size) 2 sl0).trans y2, (hc (w.heap.size + 1) 0 sl1).trans y3, (hc (w.heap.size + 1) 1 sl1).trans y4, (hc (w.heap.size + 1) 2 sl1).trans y5, ac y6 hb⟩
  go_wp2_with fail
  go_region_held3 (fun W => W.cell? ⟨w.heap.size, 0, none⟩ = some (.int .i64 s0_0) ∧ W.cell? ⟨w.heap.size, 1, none⟩ = some (.slice a0_0 n0_0 c0_0) ∧ W.cell? ⟨w.heap.size, 2, none⟩ = some (.slice a0_1 n0_1 c0_1) ∧ W.cell? ⟨w.heap.size + 1, 0, none⟩ = some (.int .i64 s1_0) ∧ W.cell? ⟨w.heap.size + 1, 1, none⟩ = some (.slice a1_0 n1_0 c1_0) ∧ W.cell? ⟨w.heap.size + 1, 2, none⟩ = some (.slice a1_1 n1_1 c1_1) ∧ Below w2.heap.size w2 W)
    (first | (exact ⟨by assumption, by assumption, by assumption, by assumption, by assumption, by assumption, by assumption⟩) | (exact ⟨x0_0, x0_1, x0_2, x1_0, x1_1, x1_2, hWW.drew⟩) | go_keep)
    (first
      | (go_at_call_of 58 a0_0; refine (GX0.out _ ?_).mono ?_; (first | assumption | (simp [*]; done)); rintro e w3 ⟨⟨ee0_0, ee0_1, rfl, pp0_0, pp0_1⟩, hh0, y0, y1, y2, y3, y4, y5, y6⟩)
      | (go_at_call_of 58 a1_0; refine (GX1.out _ ?_).mono ?_; (first | assumption | (simp [*]; done)); rintro e w3 ⟨⟨ee1_0, ee1_1, rfl, pp1_0, pp1_1⟩, hh1, y0, y1, y2, y3, y4, y5, y6⟩; replace pp0_0 := pp0_0.below hh1; replace pp0_1 := pp0_1.below hh1)
      | (go_at_call 41; refine (GF.out _ _ _ _ _ ?_ ?_ ?_ ?_ ?_).mono ?_; (first | assumption | (simp [*]; done)); (first | assumption | exact pp0_0); (first | assumption | exact pp0_1); (first | assumption | exact pp1_0); (first | assumption | exact pp1_1); rintro e w3 ⟨rfl, y0, y1, y2, y3, y4, y5, y6⟩))
  clear GF hWW GX0 GX1 sl0 lS0 sl1 lS1 y0 y1 y2 y3 y4 y5 hh0 pp0_0 pp0_1 hh1 pp1_0 pp1_1
  clear x0_0 x0_1 x0_2
  clear x1_0 x1_1 x1_2
  have z3 := y6.size
  replace S0 := S0.below y6 S0.lt
  replace S1 := S1.below y6 S1.lt
  have B3 := ac B2 y6
  clear y6 B2
  have x0 := S0.cell (i := 0) rfl
  have x1 := S0.cell (i := 1) rfl
  have x2 := S0.cell (i := 2) rfl
  go_wp2_with fail
  refine (G0.out _ B3).mono ?_
  rintro e w4 ⟨⟨g4_0, g4_1, rfl, X0⟩, b4⟩
  clear x0 x1 x2
  have z4 := b4.size
  replace S0 := S0.below b4 S0.lt
  replace S1 := S1.below b4 S1.lt
  have B4 := ac B3 b4
  clear b4 B3
  replace S0 := S0.alloc (.cells #[.int .i64 s0_0, .slice (some ⟨g4_0, 0, none⟩) n0_0 n0_0, .slice (some ⟨g4_1, 0, none⟩) n0_1 n0_1] 53)
  replace S1 := S1.alloc (.cells #[.int .i64 s0_0, .slice (some ⟨g4_0, 0, none⟩) n0_0 n0_0, .slice (some ⟨g4_1, 0, none⟩) n0_1 n0_1] 53)
  replace X0 := ((okH _ _ _).sep (okR _ _ _)).alloc X0 (.cells #[.int .i64 s0_0, .slice (some ⟨g4_0, 0, none⟩) n0_0 n0_0, .slice (some ⟨g4_1, 0, none⟩) n0_1 n0_1] 53)
  replace B4 := ab B4 (.cells #[.int .i64 s0_0, .slice (some ⟨g4_0, 0, none⟩) n0_0 n0_0, .slice (some ⟨g4_1, 0, none⟩) n0_1 n0_1] 53)
  have XB0 := Stc.new w4 53 [.int .i64 s0_0, .slice (some ⟨g4_0, 0, none⟩) n0_0 n0_0, .slice (some ⟨g4_1, 0, none⟩) n0_1 n0_1] _ rfl
  have x0 := S1.cell (i := 0) rfl
  have x1 := S1.cell (i := 1) rfl
  have x2 := S1.cell (i := 2) rfl
  go_wp2_with fail
  refine (G1.out _ B4).mono ?_
  rintro e w5 ⟨⟨g5_0, g5_1, rfl, X1⟩, b5⟩
  clear x0 x1 x2
  simp only [World.size_alloc] at X1
  have z5 := b5.size
  simp only [World.size_alloc] at z5
  replace S0 := S0.below b5 S0.lt
  replace S1 := S1.below b5 S1.lt
  replace X0 := ((okH _ _ _).sep (okR _ _ _)).below X0 b5
  replace XB0 := XB0.below b5 XB0.lt
  have B5 := ac B4 b5
  clear b5 B4
  replace S0 := S0.alloc (.cells #[.int .i64 s1_0, .slice (some ⟨g5_0, 0, none⟩) n1_0 n1_0, .slice (some ⟨g5_1, 0, none⟩) n1_1 n1_1] 53)
  replace S1 := S1.alloc (.cells #[.int .i64 s1_0, .slice (some ⟨g5_0, 0, none⟩) n1_0 n1_0, .slice (some ⟨g5_1, 0, none⟩) n1_1 n1_1] 53)
  replace X0 := ((okH _ _ _).sep (okR _ _ _)).alloc X0 (.cells #[.int .i64 s1_0, .slice (some ⟨g5_0, 0, none⟩) n1_0 n1_0, .slice (some ⟨g5_1, 0, none⟩) n1_1 n1_1] 53)
  replace XB0 := XB0.alloc (.cells #[.int .i64 s1_0, .slice (some ⟨g5_0, 0, none⟩) n1_0 n1_0, .slice (some ⟨g5_1, 0, none⟩) n1_1 n1_1] 53)
  replace X1 := ((okH _ _ _).sep (okR _ _ _)).alloc X1 (.cells #[.int .i64 s1_0, .slice (some ⟨g5_0, 0, none⟩) n1_0 n1_0, .slice (some ⟨g5_1, 0, none⟩) n1_1 n1_1] 53)
  replace B5 := ab B5 (.cells #[.int .i64 s1_0, .slice (some ⟨g5_0, 0, none⟩) n1_0 n1_0, .slice (some ⟨g5_1, 0, none⟩) n1_1 n1_1] 53)
  have XB1 := Stc.new w5 53 [.int .i64 s1_0, .slice (some ⟨g5_0, 0, none⟩) n1_0 n1_0, .slice (some ⟨g5_1, 0, none⟩) n1_1 n1_1] _ rfl
  have x0_0 := XB0.cell (i := 0) rfl
  have x0_1 := XB0.cell (i := 1) rfl
  have x0_2 := XB0.cell (i := 2) rfl
  have x1_0 := XB1.cell (i := 0) rfl
  have x1_1 := XB1.cell (i := 1) rfl
  have x1_2 := XB1.cell (i := 2) rfl
  have O0 := X0
  obtain ⟨_, _, _, _, _, O0_0, O0_1⟩ := O0
  replace O0_0 := Lo.rows O0_0
  replace O0_1 := Bo.bs O0_1
  have O1 := X1
  obtain ⟨_, _, _, _, _, O1_0, O1_1⟩ := O1
  replace O1_0 := Lo.rows O1_0
  replace O1_1 := Bo.bs O1_1
  have T1P := hkeep _ _ B5 hP
  go_wp2_with fail
  refine (Gi.out _ _ _ _ _ T1P O0_0 O0_1 O1_0 O1_1).mono ?_
  rintro e w6 ⟨rfl, b6⟩
  clear T1P O0_0 O0_1 O1_0 O1_1
  clear x0_0 x0_1 x0_2
  clear x1_0 x1_1 x1_2
  have z6 := b6.size
  simp only [World.size_alloc] at z6
  replace S0 := S0.below b6 S0.lt
  replace S1 := S1.below b6 S1.lt
  replace X0 := ((okH _ _ _).sep (okR _ _ _)).below X0 b6
  replace XB0 := XB0.below b6 XB0.lt
  replace X1 := ((okH _ _ _).sep (okR _ _ _)).below X1 b6
  replace XB1 := XB1.below b6 XB1.lt
  have B6 := ac B5 b6
  clear b6 B5
  have x0 := S0.cell (i := 0) rfl
  have x1 := S0.cell (i := 1) rfl
  have x2 := S0.cell (i := 2) rfl
  have xx0 := XB0.cell (i := 0) rfl
  have xx1 := XB0.cell (i := 1) rfl
  have xx2 := XB0.cell (i := 2) rfl
  have lS := S0.lt
  have lX := XB0.lt
  have hWW := Below.refl w6.heap.size w6
  have sl0 : w.heap.size < w6.heap.size := by first | assumption | omega
  have sl1 : w4.heap.size < w6.heap.size := by first | assumption | omega
  have GA : Shut (∀ W : World, (W.cell? ⟨w.heap.size, 0, none⟩ = some (.int .i64 s0_0) ∧ W.cell? ⟨w.heap.size, 1, none⟩ = some (.slice a0_0 n0_0 c0_0) ∧ W.cell? ⟨w.heap.size, 2, none⟩ = some (.slice a0_1 n0_1 c0_1) ∧ W.cell? ⟨w4.heap.size, 0, none⟩ = some (.int .i64 s0_0) ∧ W.cell? ⟨w4.heap.size, 1, none⟩ = some (.slice (some ⟨g4_0, 0, none⟩) n0_0 n0_0) ∧ W.cell? ⟨w4.heap.size, 2, none⟩ = some (.slice (some ⟨g4_1, 0, none⟩) n0_1 n0_1) ∧ Below w6.heap.size w6 W) → Calls Try.prog 58 #[.agg #[.int .i64 s0_0, .slice a0_0 n0_0 c0_0, .slice a0_1 n0_1 c0_1]] W fun e w' => (∃ q0 q1, e = .returned (.agg #[.int .i64 s0_0, .slice (some ⟨q0, 0, none⟩) n0_0 n0_0, .slice (some ⟨q1, 0, none⟩) n0_1 n0_1]) ∧ Lst HeldD.cels 3 w' (some ⟨q0, 0, none⟩) n0_0 l0_0 ∧ Bs w' (some ⟨q1, 0, none⟩) n0_1 l0_1) ∧ w'.cell? ⟨w.heap.size, 0, none⟩ = some (.int .i64 s0_0) ∧ w'.cell? ⟨w.heap.size, 1, none⟩ = some (.slice a0_0 n0_0 c0_0) ∧ w'.cell? ⟨w.heap.size, 2, none⟩ = some (.slice a0_1 n0_1 c0_1) ∧ w'.cell? ⟨w4.heap.size, 0, none⟩ = some (.int .i64 s0_0) ∧ w'.cell? ⟨w4.heap.size, 1, none⟩ = some (.slice (some ⟨g4_0, 0, none⟩) n0_0 n0_0) ∧ w'.cell? ⟨w4.heap.size, 2, none⟩ = some (.slice (some ⟨g4_1, 0, none⟩) n0_1 n0_1) ∧ Below w6.heap.size w6 w') := by
    refine ⟨fun W ⟨y0, y1, y2, y3, y4, y5, y6⟩ => (G0.out W (ac B6 y6)).mono ?_⟩
    rintro e w' ⟨⟨q0, q1, rfl, R⟩, hb⟩
    have hc := fun (b i : Nat) (h : b < w6.heap.size) => hb.cell (p := ⟨b, i, none⟩) (Nat.lt_of_lt_of_le h y6.size)
    have OR := R
    obtain ⟨_, _, _, _, _, OR_0, OR_1⟩ := OR
    replace OR_0 := Lo.rows OR_0
    replace OR_1 := Bo.bs OR_1
    exact ⟨⟨q0, q1, rfl, OR_0, OR_1⟩, (hc (w.heap.size) 0 sl0).trans y0, (hc (w.heap.size) 1 sl0).trans y1, (hc (w.heap.size) 2 sl0).trans y2, (hc (w4.heap.size) 0 sl1).trans y3, (hc (w4.heap.size) 1 sl1).trans y4, (hc (w4.heap.size) 2 sl1).trans y5, ac y6 hb⟩
  have OX := X0
  obtain ⟨_, _, _, _, _, OX_0, OX_1⟩ := OX
  replace OX_0 := Lo.rows OX_0
  replace OX_1 := Bo.bs OX_1
  have GB : Shut (∀ (q0 q1 : Nat) (W : World), (W.cell? ⟨w.heap.size, 0, none⟩ = some (.int .i64 s0_0) ∧ W.cell? ⟨w.heap.size, 1, none⟩ = some (.slice a0_0 n0_0 c0_0) ∧ W.cell? ⟨w.heap.size, 2, none⟩ = some (.slice a0_1 n0_1 c0_1) ∧ W.cell? ⟨w4.heap.size, 0, none⟩ = some (.int .i64 s0_0) ∧ W.cell? ⟨w4.heap.size, 1, none⟩ = some (.slice (some ⟨g4_0, 0, none⟩) n0_0 n0_0) ∧ W.cell? ⟨w4.heap.size, 2, none⟩ = some (.slice (some ⟨g4_1, 0, none⟩) n0_1 n0_1) ∧ Below w6.heap.size w6 W) → Lst HeldD.cels 3 W (some ⟨q0, 0, none⟩) n0_0 l0_0 → Bs W (some ⟨q1, 0, none⟩) n0_1 l0_1 → Calls Try.prog 59 #[.agg #[.int .i64 s0_0, .slice (some ⟨g4_0, 0, none⟩) n0_0 n0_0, .slice (some ⟨g4_1, 0, none⟩) n0_1 n0_1], .agg #[.int .i64 s0_0, .slice (some ⟨q0, 0, none⟩) n0_0 n0_0, .slice (some ⟨q1, 0, none⟩) n0_1 n0_1]] W fun e w' => e = .returned (.bool true) ∧ w'.cell? ⟨w.heap.size, 0, none⟩ = some (.int .i64 s0_0) ∧ w'.cell? ⟨w.heap.size, 1, none⟩ = some (.slice a0_0 n0_0 c0_0) ∧ w'.cell? ⟨w.heap.size, 2, none⟩ = some (.slice a0_1 n0_1 c0_1) ∧ w'.cell? ⟨w4.heap.size, 0, none⟩ = some (.int .i64 s0_0) ∧ w'.cell? ⟨w4.heap.size, 1, none⟩ = some (.slice (some ⟨g4_0, 0, none⟩) n0_0 n0_0) ∧ w'.cell? ⟨w4.heap.size, 2, none⟩ = some (.slice (some ⟨g4_1, 0, none⟩) n0_1 n0_1) ∧ Below w6.heap.size w6 w') := by
    refine ⟨fun q0 q1 W ⟨y0, y1, y2, y3, y4, y5, y6⟩ p0 p1 => (eqReceiver_any s0_0 _ _ _ _ _ _ _ _ _ _ _ _ W (OX_0.below y6) p0 (OX_1.below y6) p1 (by omega) (fun e he => by have := b0_0 e he; omega) (by omega)).mono ?_⟩
    rintro e w' ⟨rfl, hb⟩
    have hc := fun (b i : Nat) (h : b < w6.heap.size) => hb.cell (p := ⟨b, i, none⟩) (Nat.lt_of_lt_of_le h y6.size)
    exact ⟨rfl, (hc (w.heap.size) 0 sl0).trans y0, (hc (w.heap.size) 1 sl0).trans y1, (hc (w.heap.size) 2 sl0).trans y2, (hc (w4.heap.size) 0 sl1).trans y3, (hc (w4.heap.size) 1 sl1).trans y4, (hc (w4.heap.size) 2 sl1).trans y5, ac y6 hb⟩
  clear OX_0 OX_1
  go_wp2_with fail
  go_region_held3 (fun W => W.cell? ⟨w.heap.size, 0, none⟩ = some (.int .i64 s0_0) ∧ W.cell? ⟨w.heap.size, 1, none⟩ = some (.slice a0_0 n0_0 c0_0) ∧ W.cell? ⟨w.heap.size, 2, none⟩ = some (.slice a0_1 n0_1 c0_1) ∧ W.cell? ⟨w4.heap.size, 0, none⟩ = some (.int .i64 s0_0) ∧ W.cell? ⟨w4.heap.size, 1, none⟩ = some (.slice (some ⟨g4_0, 0, none⟩) n0_0 n0_0) ∧ W.cell? ⟨w4.heap.size, 2, none⟩ = some (.slice (some ⟨g4_1, 0, none⟩) n0_1 n0_1) ∧ Below w6.heap.size w6 W)
    (first | (exact ⟨by assumption, by assumption, by assumption, by assumption, by assumption, by assumption, by assumption⟩) | (exact ⟨x0, x1, x2, xx0, xx1, xx2, hWW.drew⟩) | go_keep)
    (first
      | (go_at_call 58; refine (GA.out _ ?_).mono ?_; (first | assumption | (simp [*]; done)); rintro e w7 ⟨⟨ee0, ee1, rfl, pp0, pp1⟩, y0, y1, y2, y3, y4, y5, y6⟩)
      | (go_at_call 59; refine (GB.out _ _ _ ?_ ?_ ?_).mono ?_; (first | assumption | (simp [*]; done)); assumption; assumption; rintro e w7 ⟨rfl, y0, y1, y2, y3, y4, y5, y6⟩))
  clear GA GB hWW sl0 sl1 lS lX y0 y1 y2 y3 y4 y5
  clear x0 x1 x2
  clear xx0 xx1 xx2
  have z7 := y6.size
  replace S0 := S0.below y6 S0.lt
  replace S1 := S1.below y6 S1.lt
  replace X0 := ((okH _ _ _).sep (okR _ _ _)).below X0 y6
  replace XB0 := XB0.below y6 XB0.lt
  replace X1 := ((okH _ _ _).sep (okR _ _ _)).below X1 y6
  replace XB1 := XB1.below y6 XB1.lt
  have B7 := ac B6 y6
  clear y6 B6
  have x0 := S1.cell (i := 0) rfl
  have x1 := S1.cell (i := 1) rfl
  have x2 := S1.cell (i := 2) rfl
  have xx0 := XB1.cell (i := 0) rfl
  have xx1 := XB1.cell (i := 1) rfl
  have xx2 := XB1.cell (i := 2) rfl
  have lS := S1.lt
  have lX := XB1.lt
  have hWW := Below.refl w7.heap.size w7
  have sl0 : w.heap.size + 1 < w7.heap.size := by first | assumption | omega
  have sl1 : w5.heap.size < w7.heap.size := by first | assumption | omega
  have GA : Shut (∀ W : World, (W.cell? ⟨w.heap.size + 1, 0, none⟩ = some (.int .i64 s1_0) ∧ W.cell? ⟨w.heap.size + 1, 1, none⟩ = some (.slice a1_0 n1_0 c1_0) ∧ W.cell? ⟨w.heap.size + 1, 2, none⟩ = some (.slice a1_1 n1_1 c1_1) ∧ W.cell? ⟨w5.heap.size, 0, none⟩ = some (.int .i64 s1_0) ∧ W.cell? ⟨w5.heap.size, 1, none⟩ = some (.slice (some ⟨g5_0, 0, none⟩) n1_0 n1_0) ∧ W.cell? ⟨w5.heap.size, 2, none⟩ = some (.slice (some ⟨g5_1, 0, none⟩) n1_1 n1_1) ∧ Below w7.heap.size w7 W) → Calls Try.prog 58 #[.agg #[.int .i64 s1_0, .slice a1_0 n1_0 c1_0, .slice a1_1 n1_1 c1_1]] W fun e w' => (∃ q0 q1, e = .returned (.agg #[.int .i64 s1_0, .slice (some ⟨q0, 0, none⟩) n1_0 n1_0, .slice (some ⟨q1, 0, none⟩) n1_1 n1_1]) ∧ Lst HeldD.cels 3 w' (some ⟨q0, 0, none⟩) n1_0 l1_0 ∧ Bs w' (some ⟨q1, 0, none⟩) n1_1 l1_1) ∧ w'.cell? ⟨w.heap.size + 1, 0, none⟩ = some (.int .i64 s1_0) ∧ w'.cell? ⟨w.heap.size + 1, 1, none⟩ = some (.slice a1_0 n1_0 c1_0) ∧ w'.cell? ⟨w.heap.size + 1, 2, none⟩ = some (.slice a1_1 n1_1 c1_1) ∧ w'.cell? ⟨w5.heap.size, 0, none⟩ = some (.int .i64 s1_0) ∧ w'.cell? ⟨w5.heap.size, 1, none⟩ = some (.slice (some ⟨g5_0, 0, none⟩) n1_0 n1_0) ∧ w'.cell? ⟨w5.heap.size, 2, none⟩ = some (.slice (some ⟨g5_1, 0, none⟩) n1_1 n1_1) ∧ Below w7.heap.size w7 w') := by
    refine ⟨fun W ⟨y0, y1, y2, y3, y4, y5, y6⟩ => (G1.out W (ac B7 y6)).mono ?_⟩
    rintro e w' ⟨⟨q0, q1, rfl, R⟩, hb⟩
    have hc := fun (b i : Nat) (h : b < w7.heap.size) => hb.cell (p := ⟨b, i, none⟩) (Nat.lt_of_lt_of_le h y6.size)
    have OR := R
    obtain ⟨_, _, _, _, _, OR_0, OR_1⟩ := OR
    replace OR_0 := Lo.rows OR_0
    replace OR_1 := Bo.bs OR_1
    exact ⟨⟨q0, q1, rfl, OR_0, OR_1⟩, (hc (w.heap.size + 1) 0 sl0).trans y0, (hc (w.heap.size + 1) 1 sl0).trans y1, (hc (w.heap.size + 1) 2 sl0).trans y2, (hc (w5.heap.size) 0 sl1).trans y3, (hc (w5.heap.size) 1 sl1).trans y4, (hc (w5.heap.size) 2 sl1).trans y5, ac y6 hb⟩
  have OX := X1
  obtain ⟨_, _, _, _, _, OX_0, OX_1⟩ := OX
  replace OX_0 := Lo.rows OX_0
  replace OX_1 := Bo.bs OX_1
  have GB : Shut (∀ (q0 q1 : Nat) (W : World), (W.cell? ⟨w.heap.size + 1, 0, none⟩ = some (.int .i64 s1_0) ∧ W.cell? ⟨w.heap.size + 1, 1, none⟩ = some (.slice a1_0 n1_0 c1_0) ∧ W.cell? ⟨w.heap.size + 1, 2, none⟩ = some (.slice a1_1 n1_1 c1_1) ∧ W.cell? ⟨w5.heap.size, 0, none⟩ = some (.int .i64 s1_0) ∧ W.cell? ⟨w5.heap.size, 1, none⟩ = some (.slice (some ⟨g5_0, 0, none⟩) n1_0 n1_0) ∧ W.cell? ⟨w5.heap.size, 2, none⟩ = some (.slice (some ⟨g5_1, 0, none⟩) n1_1 n1_1) ∧ Below w7.heap.size w7 W) → Lst HeldD.cels 3 W (some ⟨q0, 0, none⟩) n1_0 l1_0 → Bs W (some ⟨q1, 0, none⟩) n1_1 l1_1 → Calls Try.prog 59 #[.agg #[.int .i64 s1_0, .slice (some ⟨g5_0, 0, none⟩) n1_0 n1_0, .slice (some ⟨g5_1, 0, none⟩) n1_1 n1_1], .agg #[.int .i64 s1_0, .slice (some ⟨q0, 0, none⟩) n1_0 n1_0, .slice (some ⟨q1, 0, none⟩) n1_1 n1_1]] W fun e w' => e = .returned (.bool true) ∧ w'.cell? ⟨w.heap.size + 1, 0, none⟩ = some (.int .i64 s1_0) ∧ w'.cell? ⟨w.heap.size + 1, 1, none⟩ = some (.slice a1_0 n1_0 c1_0) ∧ w'.cell? ⟨w.heap.size + 1, 2, none⟩ = some (.slice a1_1 n1_1 c1_1) ∧ w'.cell? ⟨w5.heap.size, 0, none⟩ = some (.int .i64 s1_0) ∧ w'.cell? ⟨w5.heap.size, 1, none⟩ = some (.slice (some ⟨g5_0, 0, none⟩) n1_0 n1_0) ∧ w'.cell? ⟨w5.heap.size, 2, none⟩ = some (.slice (some ⟨g5_1, 0, none⟩) n1_1 n1_1) ∧ Below w7.heap.size w7 w') := by
    refine ⟨fun q0 q1 W ⟨y0, y1, y2, y3, y4, y5, y6⟩ p0 p1 => (eqReceiver_any s1_0 _ _ _ _ _ _ _ _ _ _ _ _ W (OX_0.below y6) p0 (OX_1.below y6) p1 (by omega) (fun e he => by have := b1_0 e he; omega) (by omega)).mono ?_⟩
    rintro e w' ⟨rfl, hb⟩
    have hc := fun (b i : Nat) (h : b < w7.heap.size) => hb.cell (p := ⟨b, i, none⟩) (Nat.lt_of_lt_of_le h y6.size)
    exact ⟨rfl, (hc (w.heap.size + 1) 0 sl0).trans y0, (hc (w.heap.size + 1) 1 sl0).trans y1, (hc (w.heap.size + 1) 2 sl0).trans y2, (hc (w5.heap.size) 0 sl1).trans y3, (hc (w5.heap.size) 1 sl1).trans y4, (hc (w5.heap.size) 2 sl1).trans y5, ac y6 hb⟩
  clear OX_0 OX_1
  go_wp2_with fail
  go_region_held3 (fun W => W.cell? ⟨w.heap.size + 1, 0, none⟩ = some (.int .i64 s1_0) ∧ W.cell? ⟨w.heap.size + 1, 1, none⟩ = some (.slice a1_0 n1_0 c1_0) ∧ W.cell? ⟨w.heap.size + 1, 2, none⟩ = some (.slice a1_1 n1_1 c1_1) ∧ W.cell? ⟨w5.heap.size, 0, none⟩ = some (.int .i64 s1_0) ∧ W.cell? ⟨w5.heap.size, 1, none⟩ = some (.slice (some ⟨g5_0, 0, none⟩) n1_0 n1_0) ∧ W.cell? ⟨w5.heap.size, 2, none⟩ = some (.slice (some ⟨g5_1, 0, none⟩) n1_1 n1_1) ∧ Below w7.heap.size w7 W)
    (first | (exact ⟨by assumption, by assumption, by assumption, by assumption, by assumption, by assumption, by assumption⟩) | (exact ⟨x0, x1, x2, xx0, xx1, xx2, hWW.drew⟩) | go_keep)
    (first
      | (go_at_call 58; refine (GA.out _ ?_).mono ?_; (first | assumption | (simp [*]; done)); rintro e w8 ⟨⟨ee0, ee1, rfl, pp0, pp1⟩, y0, y1, y2, y3, y4, y5, y6⟩)
      | (go_at_call 59; refine (GB.out _ _ _ ?_ ?_ ?_).mono ?_; (first | assumption | (simp [*]; done)); assumption; assumption; rintro e w8 ⟨rfl, y0, y1, y2, y3, y4, y5, y6⟩))
  clear GA GB hWW sl0 sl1 lS lX y0 y1 y2 y3 y4 y5
  clear x0 x1 x2
  clear xx0 xx1 xx2
  have z8 := y6.size
  replace S0 := S0.below y6 S0.lt
  replace S1 := S1.below y6 S1.lt
  replace X0 := ((okH _ _ _).sep (okR _ _ _)).below X0 y6
  replace XB0 := XB0.below y6 XB0.lt
  replace X1 := ((okH _ _ _).sep (okR _ _ _)).below X1 y6
  replace XB1 := XB1.below y6 XB1.lt
  have B8 := ac B7 y6
  clear y6 B7
  go_wp2
  go_ret
  exact ⟨rfl, B8⟩

theorem exactSameReceivers_all (s0_0 : Int) (s1_0 : Int) (a0_0 : Option Addr) (n0_0 c0_0 : Nat) (l0_0 : List HeldD) (a0_1 : Option Addr) (n0_1 c0_1 : Nat) (l0_1 : List Int) (a1_0 : Option Addr) (n1_0 c1_0 : Nat) (l1_0 : List HeldD) (a1_1 : Option Addr) (n1_1 c1_1 : Nat) (l1_1 : List Int) (w : World) (h0_0 : Lst HeldD.cels 3 w a0_0 n0_0 l0_0) (h0_1 : Bs w a0_1 n0_1 l0_1) (h1_0 : Lst HeldD.cels 3 w a1_0 n1_0 l1_0) (h1_1 : Bs w a1_1 n1_1 l1_1) (m0_0 : n0_0 ≤ 9223372036854775807) (mb0_0 : ∀ e ∈ l0_0, e.f1.length ≤ 9223372036854775807) (m0_1 : n0_1 ≤ 9223372036854775807) (m1_0 : n1_0 ≤ 9223372036854775807) (mb1_0 : ∀ e ∈ l1_0, e.f1.length ≤ 9223372036854775807) (m1_1 : n1_1 ≤ 9223372036854775807) (hall :  totReceiver n0_0 l0_0 n0_1 + totReceiver n1_0 l1_0 n1_1 ≤ 1048576 → ∃ (Z0 : Bool) ,  ∃ (P : World → Prop), P w ∧ (∀ W W' : World, Below W.heap.size W W' → P W → P W') ∧ Shut (∀ (g0_0 g0_1 g1_0 g1_1 : Nat) (W : World) (_ : Lst HeldD.cels 3 W (some ⟨g0_0, 0, none⟩) n0_0 l0_0) (_ : Bs W (some ⟨g0_1, 0, none⟩) n0_1 l0_1) (_ : Lst HeldD.cels 3 W (some ⟨g1_0, 0, none⟩) n1_0 l1_0) (_ : Bs W (some ⟨g1_1, 0, none⟩) n1_1 l1_1), Calls Try.prog 41 #[.agg #[.int .i64 s0_0, .slice (some ⟨g0_0, 0, none⟩) n0_0 n0_0, .slice (some ⟨g0_1, 0, none⟩) n0_1 n0_1], .agg #[.int .i64 s1_0, .slice (some ⟨g1_0, 0, none⟩) n1_0 n1_0, .slice (some ⟨g1_1, 0, none⟩) n1_1 n1_1]] W (fun e w' => e = .returned (.bool Z0) ∧ Below W.heap.size W w')) ∧ Shut (∀ (g0_0 g0_1 g1_0 g1_1 : Nat) (W : World) (_ : P W) (_ : Lst HeldD.cels 3 W (some ⟨g0_0, 0, none⟩) n0_0 l0_0) (_ : Bs W (some ⟨g0_1, 0, none⟩) n0_1 l0_1) (_ : Lst HeldD.cels 3 W (some ⟨g1_0, 0, none⟩) n1_0 l1_0) (_ : Bs W (some ⟨g1_1, 0, none⟩) n1_1 l1_1), Calls Try.prog 40 #[.agg #[.int .i64 s0_0, .slice (some ⟨g0_0, 0, none⟩) n0_0 n0_0, .slice (some ⟨g0_1, 0, none⟩) n0_1 n0_1], .agg #[.int .i64 s1_0, .slice (some ⟨g1_0, 0, none⟩) n1_0 n1_0, .slice (some ⟨g1_1, 0, none⟩) n1_1 n1_1]] W (fun e w' => e = .returned (.bool Z0) ∧ Below W.heap.size W w'))) :
    Calls Try.prog 14 #[.agg #[.int .i64 s0_0, .slice a0_0 n0_0 c0_0, .slice a0_1 n0_1 c0_1], .agg #[.int .i64 s1_0, .slice a1_0 n1_0 c1_0, .slice a1_1 n1_1 c1_1]] w fun e w' => e = .returned (.bool true) ∧ Below w.heap.size w w' := by
  by_cases hz0 : totReceiver n0_0 l0_0 n0_1 ≤ 1048576
  rotate_left
  · clear hall
    have hq0 : leftC 1048576 (totReceiver n0_0 l0_0 n0_1) = -1 := by unfold leftC; rw [if_pos (by omega)]
    have cz0 := fun W (b : Below w.heap.size w W) => szReceiver_any s0_0 a0_0 n0_0 c0_0 l0_0 a0_1 n0_1 c0_1 l0_1 (1048576) W (h0_0.below b) (h0_1.below b) (by omega) (by omega) m0_0 mb0_0 m0_1
    rw [hq0] at cz0
    clear hq0
    have S0 := Stc.new w 86 [.int .i64 s0_0, .slice a0_0 n0_0 c0_0, .slice a0_1 n0_1 c0_1] _ rfl
    have S1 := Stc.new (w.alloc (.cells #[.int .i64 s0_0, .slice a0_0 n0_0 c0_0, .slice a0_1 n0_1 c0_1] 86)) 86 [.int .i64 s1_0, .slice a1_0 n1_0 c1_0, .slice a1_1 n1_1 c1_1] _ rfl
    replace S0 := S0.alloc (.cells #[.int .i64 s1_0, .slice a1_0 n1_0 c1_0, .slice a1_1 n1_1 c1_1] 86)
    have B0 := (ab (ab (Below.refl _ w) (.cells #[.int .i64 s0_0, .slice a0_0 n0_0 c0_0, .slice a0_1 n0_1 c0_1] 86)) (.cells #[.int .i64 s1_0, .slice a1_0 n1_0 c1_0, .slice a1_1 n1_1 c1_1] 86))
    simp only [World.size_alloc] at S1
    go_enter Try.func14, Try.ntmps14
    have x0 := S0.cell (i := 0) rfl
    have x1 := S0.cell (i := 1) rfl
    have x2 := S0.cell (i := 2) rfl
    go_wp2_with fail
    refine (cz0 _ B0).mono ?_
    rintro e w1 ⟨rfl, b1⟩
    clear x0 x1 x2
    replace S0 := S0.below b1 S0.lt
    replace S1 := S1.below b1 S1.lt
    have B1_ := ac B0 b1
    go_wp2
    go_ret
    exact ⟨rfl, B1_⟩
  by_cases hz1 : totReceiver n0_0 l0_0 n0_1 + totReceiver n1_0 l1_0 n1_1 ≤ 1048576
  rotate_left
  · clear hall
    have hq0 : leftC 1048576 (totReceiver n0_0 l0_0 n0_1) = 1048576 - ((totReceiver n0_0 l0_0 n0_1 : Nat) : Int) := by unfold leftC; rw [if_neg (by omega)]
    have cz0 := fun W (b : Below w.heap.size w W) => szReceiver_any s0_0 a0_0 n0_0 c0_0 l0_0 a0_1 n0_1 c0_1 l0_1 (1048576) W (h0_0.below b) (h0_1.below b) (by omega) (by omega) m0_0 mb0_0 m0_1
    rw [hq0] at cz0
    clear hq0
    obtain ⟨lf0, hlf0⟩ : ∃ x, x = 1048576 - ((totReceiver n0_0 l0_0 n0_1 : Nat) : Int) := ⟨_, rfl⟩
    rw [← hlf0] at cz0
    have lp0 : ¬ lf0 < 0 := by omega
    have hq1 : leftC lf0 (totReceiver n1_0 l1_0 n1_1) = -1 := by unfold leftC; rw [if_pos (by omega)]
    have cz1 := fun W (b : Below w.heap.size w W) => szReceiver_any s1_0 a1_0 n1_0 c1_0 l1_0 a1_1 n1_1 c1_1 l1_1 (lf0) W (h1_0.below b) (h1_1.below b) (by omega) (by omega) m1_0 mb1_0 m1_1
    rw [hq1] at cz1
    clear hq1
    replace hlf0 := Shut.mk hlf0
    have S0 := Stc.new w 86 [.int .i64 s0_0, .slice a0_0 n0_0 c0_0, .slice a0_1 n0_1 c0_1] _ rfl
    have S1 := Stc.new (w.alloc (.cells #[.int .i64 s0_0, .slice a0_0 n0_0 c0_0, .slice a0_1 n0_1 c0_1] 86)) 86 [.int .i64 s1_0, .slice a1_0 n1_0 c1_0, .slice a1_1 n1_1 c1_1] _ rfl
    replace S0 := S0.alloc (.cells #[.int .i64 s1_0, .slice a1_0 n1_0 c1_0, .slice a1_1 n1_1 c1_1] 86)
    have B0 := (ab (ab (Below.refl _ w) (.cells #[.int .i64 s0_0, .slice a0_0 n0_0 c0_0, .slice a0_1 n0_1 c0_1] 86)) (.cells #[.int .i64 s1_0, .slice a1_0 n1_0 c1_0, .slice a1_1 n1_1 c1_1] 86))
    simp only [World.size_alloc] at S1
    go_enter Try.func14, Try.ntmps14
    have x0 := S0.cell (i := 0) rfl
    have x1 := S0.cell (i := 1) rfl
    have x2 := S0.cell (i := 2) rfl
    go_wp2_with fail
    refine (cz0 _ B0).mono ?_
    rintro e w1 ⟨rfl, b1⟩
    clear x0 x1 x2
    replace S0 := S0.below b1 S0.lt
    replace S1 := S1.below b1 S1.lt
    have B1_ := ac B0 b1
    have x0 := S1.cell (i := 0) rfl
    have x1 := S1.cell (i := 1) rfl
    have x2 := S1.cell (i := 2) rfl
    go_wp2_with fail
    refine (cz1 _ B1_).mono ?_
    rintro e w2 ⟨rfl, b2⟩
    clear x0 x1 x2
    replace S0 := S0.below b2 S0.lt
    replace S1 := S1.below b2 S1.lt
    have B2_ := ac B1_ b2
    go_wp2
    go_ret
    exact ⟨rfl, B2_⟩
  obtain ⟨Z0, P, hP, hkeep, Gs, Gi⟩ := hall hz1
  exact exactSameReceivers_walk s0_0 s1_0 a0_0 n0_0 c0_0 l0_0 a0_1 n0_1 c0_1 l0_1 a1_0 n1_0 c1_0 l1_0 a1_1 n1_1 c1_1 l1_1 w h0_0 h0_1 h1_0 h1_1 hz1 Z0 P hP hkeep Gs Gi
end Go.Proofs.Ytbelplonlcdahaa
