/- The walk of the exact law of SameEnds. -/
import Derived.Test.YtjpnacgdefgalaaEndS
import Derived.Test.YtjpnacgdefgalaaEndE
import Derived.Deep.RegionHeld3
import Derived.Deep.CutRange
namespace Go.Proofs.Ytjpnacgdefgalaa
open Go.RowKit

set_option linter.unusedVariables false in
set_option maxRecDepth 100000 in
set_option maxHeartbeats 4000000 in
theorem exactSameEnds_walk (s0_0 : Int) (s0_1 : Int) (s0_3 : Int) (s0_7 : Int) (s1_0 : Int) (s1_1 : Int) (s1_3 : Int) (s1_7 : Int) (a0_0 : Option Addr) (n0_0 c0_0 : Nat) (l0_0 : List PartD) (a0_1 : Option Addr) (n0_1 c0_1 : Nat) (l0_1 : List HeldD) (a0_2 : Option Addr) (n0_2 c0_2 : Nat) (l0_2 : List Int) (a0_3 : Option Addr) (n0_3 c0_3 : Nat) (l0_3 : List (List Int)) (a1_0 : Option Addr) (n1_0 c1_0 : Nat) (l1_0 : List PartD) (a1_1 : Option Addr) (n1_1 c1_1 : Nat) (l1_1 : List HeldD) (a1_2 : Option Addr) (n1_2 c1_2 : Nat) (l1_2 : List Int) (a1_3 : Option Addr) (n1_3 c1_3 : Nat) (l1_3 : List (List Int)) (w : World) (h0_0 : Lst PartD.cels 4 w a0_0 n0_0 l0_0) (h0_1 : Lst HeldD.cels 3 w a0_1 n0_1 l0_1) (h0_2 : Bs w a0_2 n0_2 l0_2) (h0_3 : Lst bytC 1 w a0_3 n0_3 l0_3) (h1_0 : Lst PartD.cels 4 w a1_0 n1_0 l1_0) (h1_1 : Lst HeldD.cels 3 w a1_1 n1_1 l1_1) (h1_2 : Bs w a1_2 n1_2 l1_2) (h1_3 : Lst bytC 1 w a1_3 n1_3 l1_3)  (hsz : totEnd n0_0 l0_0 n0_1 l0_1 n0_2 n0_3 l0_3 + totEnd n1_0 l1_0 n1_1 l1_1 n1_2 n1_3 l1_3 ≤ 1048576) (Z0 : Bool)   (P : World → Prop) (hP : P w) (hkeep : ∀ W W' : World, Below W.heap.size W W' → P W → P W') (Gs : Shut (∀ (g0_0 g0_1 g0_2 g0_3 g1_0 g1_1 g1_2 g1_3 : Nat) (W : World) (_ : Lst PartD.cels 4 W (some ⟨g0_0, 0, none⟩) n0_0 l0_0) (_ : Lst HeldD.cels 3 W (some ⟨g0_1, 0, none⟩) n0_1 l0_1) (_ : Bs W (some ⟨g0_2, 0, none⟩) n0_2 l0_2) (_ : Lst bytC 1 W (some ⟨g0_3, 0, none⟩) n0_3 l0_3) (_ : Lst PartD.cels 4 W (some ⟨g1_0, 0, none⟩) n1_0 l1_0) (_ : Lst HeldD.cels 3 W (some ⟨g1_1, 0, none⟩) n1_1 l1_1) (_ : Bs W (some ⟨g1_2, 0, none⟩) n1_2 l1_2) (_ : Lst bytC 1 W (some ⟨g1_3, 0, none⟩) n1_3 l1_3), Calls Try.prog 28 #[.agg #[.int .i64 s0_0, .int .i64 s0_1, .slice (some ⟨g0_0, 0, none⟩) n0_0 n0_0, .int .i64 s0_3, .slice (some ⟨g0_1, 0, none⟩) n0_1 n0_1, .slice (some ⟨g0_2, 0, none⟩) n0_2 n0_2, .slice (some ⟨g0_3, 0, none⟩) n0_3 n0_3, .int .i64 s0_7], .agg #[.int .i64 s1_0, .int .i64 s1_1, .slice (some ⟨g1_0, 0, none⟩) n1_0 n1_0, .int .i64 s1_3, .slice (some ⟨g1_1, 0, none⟩) n1_1 n1_1, .slice (some ⟨g1_2, 0, none⟩) n1_2 n1_2, .slice (some ⟨g1_3, 0, none⟩) n1_3 n1_3, .int .i64 s1_7]] W (fun e w' => e = .returned (.bool Z0) ∧ Below W.heap.size W w'))) (Gi : Shut (∀ (g0_0 g0_1 g0_2 g0_3 g1_0 g1_1 g1_2 g1_3 : Nat) (W : World) (_ : P W) (_ : Lst PartD.cels 4 W (some ⟨g0_0, 0, none⟩) n0_0 l0_0) (_ : Lst HeldD.cels 3 W (some ⟨g0_1, 0, none⟩) n0_1 l0_1) (_ : Bs W (some ⟨g0_2, 0, none⟩) n0_2 l0_2) (_ : Lst bytC 1 W (some ⟨g0_3, 0, none⟩) n0_3 l0_3) (_ : Lst PartD.cels 4 W (some ⟨g1_0, 0, none⟩) n1_0 l1_0) (_ : Lst HeldD.cels 3 W (some ⟨g1_1, 0, none⟩) n1_1 l1_1) (_ : Bs W (some ⟨g1_2, 0, none⟩) n1_2 l1_2) (_ : Lst bytC 1 W (some ⟨g1_3, 0, none⟩) n1_3 l1_3), Calls Try.prog 29 #[.agg #[.int .i64 s0_0, .int .i64 s0_1, .slice (some ⟨g0_0, 0, none⟩) n0_0 n0_0, .int .i64 s0_3, .slice (some ⟨g0_1, 0, none⟩) n0_1 n0_1, .slice (some ⟨g0_2, 0, none⟩) n0_2 n0_2, .slice (some ⟨g0_3, 0, none⟩) n0_3 n0_3, .int .i64 s0_7], .agg #[.int .i64 s1_0, .int .i64 s1_1, .slice (some ⟨g1_0, 0, none⟩) n1_0 n1_0, .int .i64 s1_3, .slice (some ⟨g1_1, 0, none⟩) n1_1 n1_1, .slice (some ⟨g1_2, 0, none⟩) n1_2 n1_2, .slice (some ⟨g1_3, 0, none⟩) n1_3 n1_3, .int .i64 s1_7]] W (fun e w' => e = .returned (.bool Z0) ∧ Below W.heap.size W w'))) :
    Calls Try.prog 6 #[.agg #[.int .i64 s0_0, .int .i64 s0_1, .slice a0_0 n0_0 c0_0, .int .i64 s0_3, .slice a0_1 n0_1 c0_1, .slice a0_2 n0_2 c0_2, .slice a0_3 n0_3 c0_3, .int .i64 s0_7], .agg #[.int .i64 s1_0, .int .i64 s1_1, .slice a1_0 n1_0 c1_0, .int .i64 s1_3, .slice a1_1 n1_1 c1_1, .slice a1_2 n1_2 c1_2, .slice a1_3 n1_3 c1_3, .int .i64 s1_7]] w fun e w' => e = .returned (.bool true) ∧ Below w.heap.size w w' := by
  have HSZ : True := trivial
  have ts0 : totEnd n0_0 l0_0 n0_1 l0_1 n0_2 n0_3 l0_3 = n0_0 + sumE PartD.len l0_0 + n0_1 + sumE HeldD.len l0_1 + n0_2 + n0_3 + sumE List.length l0_3 := rfl
  have ts1 : totEnd n1_0 l1_0 n1_1 l1_1 n1_2 n1_3 l1_3 = n1_0 + sumE PartD.len l1_0 + n1_1 + sumE HeldD.len l1_1 + n1_2 + n1_3 + sumE List.length l1_3 := rfl
  have f0_0 : n0_0 ≤ 1048576 := by omega
  have b0_0 : ∀ e ∈ l0_0, e.f0.length ≤ 1048576 := fun e he => by have h1 : e.f0.length ≤ sumE PartD.len l0_0 := sumE_mem PartD.len he; omega
  have q0_0 : sumE PartD.wd l0_0 ≤ 3200000 := by have h1 := sumPartD_wd l0_0; have h2 := h0_0.len; omega
  have f0_1 : n0_1 ≤ 1048576 := by omega
  have b0_1 : ∀ e ∈ l0_1, e.f1.length ≤ 1048576 := fun e he => by have h1 : e.f1.length ≤ sumE HeldD.len l0_1 := sumE_mem HeldD.len he; omega
  have q0_1 : sumE HeldD.wd l0_1 ≤ 3200000 := by have h1 := sumHeldD_wd l0_1; have h2 := h0_1.len; omega
  have f0_2 : n0_2 ≤ 1048576 := by omega
  have f0_3 : n0_3 ≤ 1048576 := by omega
  have b0_3 : ∀ e ∈ l0_3, e.length ≤ 1048576 := fun e he => by have h1 : e.length ≤ sumE List.length l0_3 := sumE_mem List.length he; omega
  have q0_3 : sumE List.length l0_3 ≤ 3200000 := by omega
  have f1_0 : n1_0 ≤ 1048576 := by omega
  have b1_0 : ∀ e ∈ l1_0, e.f0.length ≤ 1048576 := fun e he => by have h1 : e.f0.length ≤ sumE PartD.len l1_0 := sumE_mem PartD.len he; omega
  have q1_0 : sumE PartD.wd l1_0 ≤ 3200000 := by have h1 := sumPartD_wd l1_0; have h2 := h1_0.len; omega
  have f1_1 : n1_1 ≤ 1048576 := by omega
  have b1_1 : ∀ e ∈ l1_1, e.f1.length ≤ 1048576 := fun e he => by have h1 : e.f1.length ≤ sumE HeldD.len l1_1 := sumE_mem HeldD.len he; omega
  have q1_1 : sumE HeldD.wd l1_1 ≤ 3200000 := by have h1 := sumHeldD_wd l1_1; have h2 := h1_1.len; omega
  have f1_2 : n1_2 ≤ 1048576 := by omega
  have f1_3 : n1_3 ≤ 1048576 := by omega
  have b1_3 : ∀ e ∈ l1_3, e.length ≤ 1048576 := fun e he => by have h1 : e.length ≤ sumE List.length l1_3 := sumE_mem List.length he; omega
  have q1_3 : sumE List.length l1_3 ≤ 3200000 := by omega
  have G0 := Shut.mk (fun W (b : Below w.heap.size w W) => toEnd_any s0_0 s0_1 s0_3 s0_7 a0_0 n0_0 c0_0 l0_0 a0_1 n0_1 c0_1 l0_1 a0_2 n0_2 c0_2 l0_2 a0_3 n0_3 c0_3 l0_3 W (h0_0.below b) (h0_1.below b) (h0_2.below b) (h0_3.below b) f0_0 b0_0 f0_1 b0_1 f0_2 f0_3 b0_3)
  have G1 := Shut.mk (fun W (b : Below w.heap.size w W) => toEnd_any s1_0 s1_1 s1_3 s1_7 a1_0 n1_0 c1_0 l1_0 a1_1 n1_1 c1_1 l1_1 a1_2 n1_2 c1_2 l1_2 a1_3 n1_3 c1_3 l1_3 W (h1_0.below b) (h1_1.below b) (h1_2.below b) (h1_3.below b) f1_0 b1_0 f1_1 b1_1 f1_2 f1_3 b1_3)
  have hq0 : leftC 1048576 (totEnd n0_0 l0_0 n0_1 l0_1 n0_2 n0_3 l0_3) = 1048576 - (((totEnd n0_0 l0_0 n0_1 l0_1 n0_2 n0_3 l0_3 : Nat) : Int) : Int) := by unfold leftC; rw [if_neg (by omega)]
  have cz0 := fun W (b : Below w.heap.size w W) => szEnd_any s0_0 s0_1 s0_3 s0_7 a0_0 n0_0 c0_0 l0_0 a0_1 n0_1 c0_1 l0_1 a0_2 n0_2 c0_2 l0_2 a0_3 n0_3 c0_3 l0_3 (1048576) W (h0_0.below b) (h0_1.below b) (h0_2.below b) (h0_3.below b) (by omega) (by omega) (by omega) (fun e he => by have := b0_0 e he; omega) (by omega) (fun e he => by have := b0_1 e he; omega) (by omega) (by omega) (fun e he => by have := b0_3 e he; omega)
  rw [hq0] at cz0
  clear hq0
  obtain ⟨lf0, hlf0⟩ : ∃ x, x = 1048576 - ((totEnd n0_0 l0_0 n0_1 l0_1 n0_2 n0_3 l0_3 : Nat) : Int) := ⟨_, rfl⟩
  rw [← hlf0] at cz0
  have lp0 : ¬ lf0 < 0 := by omega
  have lm0 : lf0 ≤ 1048576 := by omega
  have hq1 : leftC lf0 (totEnd n1_0 l1_0 n1_1 l1_1 n1_2 n1_3 l1_3) = lf0 - (((totEnd n1_0 l1_0 n1_1 l1_1 n1_2 n1_3 l1_3 : Nat) : Int) : Int) := by unfold leftC; rw [if_neg (by omega)]
  have cz1 := fun W (b : Below w.heap.size w W) => szEnd_any s1_0 s1_1 s1_3 s1_7 a1_0 n1_0 c1_0 l1_0 a1_1 n1_1 c1_1 l1_1 a1_2 n1_2 c1_2 l1_2 a1_3 n1_3 c1_3 l1_3 (lf0) W (h1_0.below b) (h1_1.below b) (h1_2.below b) (h1_3.below b) (by omega) (by omega) (by omega) (fun e he => by have := b1_0 e he; omega) (by omega) (fun e he => by have := b1_1 e he; omega) (by omega) (by omega) (fun e he => by have := b1_3 e he; omega)
  rw [hq1] at cz1
  clear hq1
  obtain ⟨lf1, hlf1⟩ : ∃ x, x = lf0 - ((totEnd n1_0 l1_0 n1_1 l1_1 n1_2 n1_3 l1_3 : Nat) : Int) := ⟨_, rfl⟩
  rw [← hlf1] at cz1
  have lp1 : ¬ lf1 < 0 := by omega
  have lm1 : lf1 ≤ 1048576 := by omega
  clear hlf0 ts0
  clear hlf1 ts1
  clear h0_0 h0_1 h0_2 h0_3 h1_0 h1_1 h1_2 h1_3
  clear hsz
  have B0 := Below.refl w.heap.size w
  replace B0 := ab B0 (.cells #[.int .i64 s0_0, .int .i64 s0_1, .slice a0_0 n0_0 c0_0, .int .i64 s0_3, .slice a0_1 n0_1 c0_1, .slice a0_2 n0_2 c0_2, .slice a0_3 n0_3 c0_3, .int .i64 s0_7] 31)
  have S0 := Stc.new w 31 [.int .i64 s0_0, .int .i64 s0_1, .slice a0_0 n0_0 c0_0, .int .i64 s0_3, .slice a0_1 n0_1 c0_1, .slice a0_2 n0_2 c0_2, .slice a0_3 n0_3 c0_3, .int .i64 s0_7] _ rfl
  replace S0 := S0.alloc (.cells #[.int .i64 s1_0, .int .i64 s1_1, .slice a1_0 n1_0 c1_0, .int .i64 s1_3, .slice a1_1 n1_1 c1_1, .slice a1_2 n1_2 c1_2, .slice a1_3 n1_3 c1_3, .int .i64 s1_7] 31)
  replace B0 := ab B0 (.cells #[.int .i64 s1_0, .int .i64 s1_1, .slice a1_0 n1_0 c1_0, .int .i64 s1_3, .slice a1_1 n1_1 c1_1, .slice a1_2 n1_2 c1_2, .slice a1_3 n1_3 c1_3, .int .i64 s1_7] 31)
  have S1 := Stc.new (w.alloc (.cells #[.int .i64 s0_0, .int .i64 s0_1, .slice a0_0 n0_0 c0_0, .int .i64 s0_3, .slice a0_1 n0_1 c0_1, .slice a0_2 n0_2 c0_2, .slice a0_3 n0_3 c0_3, .int .i64 s0_7] 31)) 31 [.int .i64 s1_0, .int .i64 s1_1, .slice a1_0 n1_0 c1_0, .int .i64 s1_3, .slice a1_1 n1_1 c1_1, .slice a1_2 n1_2 c1_2, .slice a1_3 n1_3 c1_3, .int .i64 s1_7] _ rfl
  simp only [World.size_alloc] at S1
  go_enter Try.func6, Try.ntmps6
  have x0 := S0.cell (i := 0) rfl
  have x1 := S0.cell (i := 1) rfl
  have x2 := S0.cell (i := 2) rfl
  have x3 := S0.cell (i := 3) rfl
  have x4 := S0.cell (i := 4) rfl
  have x5 := S0.cell (i := 5) rfl
  have x6 := S0.cell (i := 6) rfl
  have x7 := S0.cell (i := 7) rfl
  go_wp2_with fail
  refine (cz0 _ B0).mono ?_
  rintro e w1 ⟨rfl, b1⟩
  clear x0 x1 x2 x3 x4 x5 x6 x7
  have z1 := b1.size
  simp only [World.size_alloc] at z1
  replace S0 := S0.below b1 S0.lt
  replace S1 := S1.below b1 S1.lt
  have B1 := ac B0 b1
  clear b1 B0
  have x0 := S1.cell (i := 0) rfl
  have x1 := S1.cell (i := 1) rfl
  have x2 := S1.cell (i := 2) rfl
  have x3 := S1.cell (i := 3) rfl
  have x4 := S1.cell (i := 4) rfl
  have x5 := S1.cell (i := 5) rfl
  have x6 := S1.cell (i := 6) rfl
  have x7 := S1.cell (i := 7) rfl
  go_wp2_with fail
  refine (cz1 _ B1).mono ?_
  rintro e w2 ⟨rfl, b2⟩
  clear x0 x1 x2 x3 x4 x5 x6 x7
  have z2 := b2.size
  replace S0 := S0.below b2 S0.lt
  replace S1 := S1.below b2 S1.lt
  have B2 := ac B1 b2
  clear b2 B1
  have x0_0 := S0.cell (i := 0) rfl
  have x0_1 := S0.cell (i := 1) rfl
  have x0_2 := S0.cell (i := 2) rfl
  have x0_3 := S0.cell (i := 3) rfl
  have x0_4 := S0.cell (i := 4) rfl
  have x0_5 := S0.cell (i := 5) rfl
  have x0_6 := S0.cell (i := 6) rfl
  have x0_7 := S0.cell (i := 7) rfl
  have x1_0 := S1.cell (i := 0) rfl
  have x1_1 := S1.cell (i := 1) rfl
  have x1_2 := S1.cell (i := 2) rfl
  have x1_3 := S1.cell (i := 3) rfl
  have x1_4 := S1.cell (i := 4) rfl
  have x1_5 := S1.cell (i := 5) rfl
  have x1_6 := S1.cell (i := 6) rfl
  have x1_7 := S1.cell (i := 7) rfl
  have lS0 := S0.lt
  have lS1 := S1.lt
  have hWW := Below.refl w2.heap.size w2
  have sl0 : w.heap.size < w2.heap.size := by first | assumption | omega
  have sl1 : w.heap.size + 1 < w2.heap.size := by first | assumption | omega
  have GX0 : Shut (∀ W : World, (W.cell? ⟨w.heap.size, 0, none⟩ = some (.int .i64 s0_0) ∧ W.cell? ⟨w.heap.size, 1, none⟩ = some (.int .i64 s0_1) ∧ W.cell? ⟨w.heap.size, 2, none⟩ = some (.slice a0_0 n0_0 c0_0) ∧ W.cell? ⟨w.heap.size, 3, none⟩ = some (.int .i64 s0_3) ∧ W.cell? ⟨w.heap.size, 4, none⟩ = some (.slice a0_1 n0_1 c0_1) ∧ W.cell? ⟨w.heap.size, 5, none⟩ = some (.slice a0_2 n0_2 c0_2) ∧ W.cell? ⟨w.heap.size, 6, none⟩ = some (.slice a0_3 n0_3 c0_3) ∧ W.cell? ⟨w.heap.size, 7, none⟩ = some (.int .i64 s0_7) ∧ W.cell? ⟨w.heap.size + 1, 0, none⟩ = some (.int .i64 s1_0) ∧ W.cell? ⟨w.heap.size + 1, 1, none⟩ = some (.int .i64 s1_1) ∧ W.cell? ⟨w.heap.size + 1, 2, none⟩ = some (.slice a1_0 n1_0 c1_0) ∧ W.cell? ⟨w.heap.size + 1, 3, none⟩ = some (.int .i64 s1_3) ∧ W.cell? ⟨w.heap.size + 1, 4, none⟩ = some (.slice a1_1 n1_1 c1_1) ∧ W.cell? ⟨w.heap.size + 1, 5, none⟩ = some (.slice a1_2 n1_2 c1_2) ∧ W.cell? ⟨w.heap.size + 1, 6, none⟩ = some (.slice a1_3 n1_3 c1_3) ∧ W.cell? ⟨w.heap.size + 1, 7, none⟩ = some (.int .i64 s1_7) ∧ Below w2.heap.size w2 W) → Calls Try.prog 14 #[.agg #[.int .i64 s0_0, .int .i64 s0_1, .slice a0_0 n0_0 c0_0, .int .i64 s0_3, .slice a0_1 n0_1 c0_1, .slice a0_2 n0_2 c0_2, .slice a0_3 n0_3 c0_3, .int .i64 s0_7]] W fun e w' => (∃ q0 q1 q2 q3 : Nat, e = .returned (.agg #[.int .i64 s0_0, .int .i64 s0_1, .slice (some ⟨q0, 0, none⟩) n0_0 n0_0, .int .i64 s0_3, .slice (some ⟨q1, 0, none⟩) n0_1 n0_1, .slice (some ⟨q2, 0, none⟩) n0_2 n0_2, .slice (some ⟨q3, 0, none⟩) n0_3 n0_3, .int .i64 s0_7]) ∧ Lst PartD.cels 4 w' (some ⟨q0, 0, none⟩) n0_0 l0_0 ∧ Lst HeldD.cels 3 w' (some ⟨q1, 0, none⟩) n0_1 l0_1 ∧ Bs w' (some ⟨q2, 0, none⟩) n0_2 l0_2 ∧ Lst bytC 1 w' (some ⟨q3, 0, none⟩) n0_3 l0_3) ∧ Below W.heap.size W w' ∧ w'.cell? ⟨w.heap.size, 0, none⟩ = some (.int .i64 s0_0) ∧ w'.cell? ⟨w.heap.size, 1, none⟩ = some (.int .i64 s0_1) ∧ w'.cell? ⟨w.heap.size, 2, none⟩ = some (.slice a0_0 n0_0 c0_0) ∧ w'.cell? ⟨w.heap.size, 3, none⟩ = some (.int .i64 s0_3) ∧ w'.cell? ⟨w.heap.size, 4, none⟩ = some (.slice a0_1 n0_1 c0_1) ∧ w'.cell? ⟨w.heap.size, 5, none⟩ = some (.slice a0_2 n0_2 c0_2) ∧ w'.cell? ⟨w.heap.size, 6, none⟩ = some (.slice a0_3 n0_3 c0_3) ∧ w'.cell? ⟨w.heap.size, 7, none⟩ = some (.int .i64 s0_7) ∧ w'.cell? ⟨w.heap.size + 1, 0, none⟩ = some (.int .i64 s1_0) ∧ w'.cell? ⟨w.heap.size + 1, 1, none⟩ = some (.int .i64 s1_1) ∧ w'.cell? ⟨w.heap.size + 1, 2, none⟩ = some (.slice a1_0 n1_0 c1_0) ∧ w'.cell? ⟨w.heap.size + 1, 3, none⟩ = some (.int .i64 s1_3) ∧ w'.cell? ⟨w.heap.size + 1, 4, none⟩ = some (.slice a1_1 n1_1 c1_1) ∧ w'.cell? ⟨w.heap.size + 1, 5, none⟩ = some (.slice a1_2 n1_2 c1_2) ∧ w'.cell? ⟨w.heap.size + 1, 6, none⟩ = some (.slice a1_3 n1_3 c1_3) ∧ w'.cell? ⟨w.heap.size + 1, 7, none⟩ = some (.int .i64 s1_7) ∧ Below w2.heap.size w2 w') := by
    refine ⟨fun W ⟨y0, y1, y2, y3, y4, y5, y6, y7, y8, y9, y10, y11, y12, y13, y14, y15, y16⟩ => (G0.out W (ac B2 y16)).mono ?_⟩
    rintro e w' ⟨⟨q0, q1, q2, q3, rfl, R⟩, hb⟩
    have OR := R
    obtain ⟨_, _, _, _, _, OR_0, ⟨_, _, _, _, _, OR_1, OR_2⟩⟩ := OR
    have OR_0_0 := OR_0
    replace OR_0_0 := Lo.rows OR_0_0
    obtain ⟨_, _, _, _, _, OR_1_0, OR_1_1⟩ := OR_1
    replace OR_1_0 := Lo.rows OR_1_0
    replace OR_1_1 := Bo.bs OR_1_1
    replace OR_2 := Lo.rows OR_2
    have hc := fun (b i : Nat) (h : b < w2.heap.size) => hb.cell (p := ⟨b, i, none⟩) (Nat.lt_of_lt_of_le h y16.size)
    exact ⟨⟨q0, q1, q2, q3, rfl, OR_0_0, OR_1_0, OR_1_1, OR_2⟩, hb, (hc (w.heap.size) 0 sl0).trans y0, (hc (w.heap.size) 1 sl0).trans y1, (hc (w.heap.size) 2 sl0).trans y2, (hc (w.heap.size) 3 sl0).trans y3, (hc (w.heap.size) 4 sl0).trans y4, (hc (w.heap.size) 5 sl0).trans y5, (hc (w.heap.size) 6 sl0).trans y6, (hc (w.heap.size) 7 sl0).trans y7, (hc (w.heap.size + 1) 0 sl1).trans y8, (hc (w.heap.size + 1) 1 sl1).trans y9, (hc (w.heap.size + 1) 2 sl1).trans y10, (hc (w.heap.size + 1) 3 sl1).trans y11, (hc (w.heap.size + 1) 4 sl1).trans y12, (hc (w.heap.size + 1) 5 sl1).trans y13, (hc (w.heap.size + 1) 6 sl1).trans y14, (hc (w.heap.size + 1) 7 sl1).trans y15, ac y16 hb⟩
  have GX1 : Shut (∀ W : World, (W.cell? ⟨w.heap.size, 0, none⟩ = some (.int .i64 s0_0) ∧ W.cell? ⟨w.heap.size, 1, none⟩ = some (.int .i64 s0_1) ∧ W.cell? ⟨w.heap.size, 2, none⟩ = some (.slice a0_0 n0_0 c0_0) ∧ W.cell? ⟨w.heap.size, 3, none⟩ = some (.int .i64 s0_3) ∧ W.cell? ⟨w.heap.size, 4, none⟩ = some (.slice a0_1 n0_1 c0_1) ∧ W.cell? ⟨w.heap.size, 5, none⟩ = some (.slice a0_2 n0_2 c0_2) ∧ W.cell? ⟨w.heap.size, 6, none⟩ = some (.slice a0_3 n0_3 c0_3) ∧ W.cell? ⟨w.heap.size, 7, none⟩ = some (.int .i64 s0_7) ∧ W.cell? ⟨w.heap.size + 1, 0, none⟩ = some (.int .i64 s1_0) ∧ W.cell? ⟨w.heap.size + 1, 1, none⟩ = some (.int .i64 s1_1) ∧ W.cell? ⟨w.heap.size + 1, 2, none⟩ = some (.slice a1_0 n1_0 c1_0) ∧ W.cell? ⟨w.heap.size + 1, 3, none⟩ = some (.int .i64 s1_3) ∧ W.cell? ⟨w.heap.size + 1, 4, none⟩ = some (.slice a1_1 n1_1 c1_1) ∧ W.cell? ⟨w.heap.size + 1, 5, none⟩ = some (.slice a1_2 n1_2 c1_2) ∧ W.cell? ⟨w.heap.size + 1, 6, none⟩ = some (.slice a1_3 n1_3 c1_3) ∧ W.cell? ⟨w.heap.size + 1, 7, none⟩ = some (.int .i64 s1_7) ∧ Below w2.heap.size w2 W) → Calls Try.prog 14 #[.agg #[.int .i64 s1_0, .int .i64 s1_1, .slice a1_0 n1_0 c1_0, .int .i64 s1_3, .slice a1_1 n1_1 c1_1, .slice a1_2 n1_2 c1_2, .slice a1_3 n1_3 c1_3, .int .i64 s1_7]] W fun e w' => (∃ q0 q1 q2 q3 : Nat, e = .returned (.agg #[.int .i64 s1_0, .int .i64 s1_1, .slice (some ⟨q0, 0, none⟩) n1_0 n1_0, .int .i64 s1_3, .slice (some ⟨q1, 0, none⟩) n1_1 n1_1, .slice (some ⟨q2, 0, none⟩) n1_2 n1_2, .slice (some ⟨q3, 0, none⟩) n1_3 n1_3, .int .i64 s1_7]) ∧ Lst PartD.cels 4 w' (some ⟨q0, 0, none⟩) n1_0 l1_0 ∧ Lst HeldD.cels 3 w' (some ⟨q1, 0, none⟩) n1_1 l1_1 ∧ Bs w' (some ⟨q2, 0, none⟩) n1_2 l1_2 ∧ Lst bytC 1 w' (some ⟨q3, 0, none⟩) n1_3 l1_3) ∧ Below W.heap.size W w' ∧ w'.cell? ⟨w.heap.size, 0, none⟩ = some (.int .i64 s0_0) ∧ w'.cell? ⟨w.heap.size, 1, none⟩ = some (.int .i64 s0_1) ∧ w'.cell? ⟨w.heap.size, 2, none⟩ = some (.slice a0_0 n0_0 c0_0) ∧ w'.cell? ⟨w.heap.size, 3, none⟩ = some (.int .i64 s0_3) ∧ w'.cell? ⟨w.heap.size, 4, none⟩ = some (.slice a0_1 n0_1 c0_1) ∧ w'.cell? ⟨w.heap.size, 5, none⟩ = some (.slice a0_2 n0_2 c0_2) ∧ w'.cell? ⟨w.heap.size, 6, none⟩ = some (.slice a0_3 n0_3 c0_3) ∧ w'.cell? ⟨w.heap.size, 7, none⟩ = some (.int .i64 s0_7) ∧ w'.cell? ⟨w.heap.size + 1, 0, none⟩ = some (.int .i64 s1_0) ∧ w'.cell? ⟨w.heap.size + 1, 1, none⟩ = some (.int .i64 s1_1) ∧ w'.cell? ⟨w.heap.size + 1, 2, none⟩ = some (.slice a1_0 n1_0 c1_0) ∧ w'.cell? ⟨w.heap.size + 1, 3, none⟩ = some (.int .i64 s1_3) ∧ w'.cell? ⟨w.heap.size + 1, 4, none⟩ = some (.slice a1_1 n1_1 c1_1) ∧ w'.cell? ⟨w.heap.size + 1, 5, none⟩ = some (.slice a1_2 n1_2 c1_2) ∧ w'.cell? ⟨w.heap.size + 1, 6, none⟩ = some (.slice a1_3 n1_3 c1_3) ∧ w'.cell? ⟨w.heap.size + 1, 7, none⟩ = some (.int .i64 s1_7) ∧ Below w2.heap.size w2 w') := by
    refine ⟨fun W ⟨y0, y1, y2, y3, y4, y5, y6, y7, y8, y9, y10, y11, y12, y13, y14, y15, y16⟩ => (G1.out W (ac B2 y16)).mono ?_⟩
    rintro e w' ⟨⟨q0, q1, q2, q3, rfl, R⟩, hb⟩
    have OR := R
    obtain ⟨_, _, _, _, _, OR_0, ⟨_, _, _, _, _, OR_1, OR_2⟩⟩ := OR
    have OR_0_0 := OR_0
    replace OR_0_0 := Lo.rows OR_0_0
    obtain ⟨_, _, _, _, _, OR_1_0, OR_1_1⟩ := OR_1
    replace OR_1_0 := Lo.rows OR_1_0
    replace OR_1_1 := Bo.bs OR_1_1
    replace OR_2 := Lo.rows OR_2
    have hc := fun (b i : Nat) (h : b < w2.heap.size) => hb.cell (p := ⟨b, i, none⟩) (Nat.lt_of_lt_of_le h y16.size)
    exact ⟨⟨q0, q1, q2, q3, rfl, OR_0_0, OR_1_0, OR_1_1, OR_2⟩, hb, (hc (w.heap.size) 0 sl0).trans y0, (hc (w.heap.size) 1 sl0).trans y1, (hc (w.heap.size) 2 sl0).trans y2, (hc (w.heap.size) 3 sl0).trans y3, (hc (w.heap.size) 4 sl0).trans y4, (hc (w.heap.size) 5 sl0).trans y5, (hc (w.heap.size) 6 sl0).trans y6, (hc (w.heap.size) 7 sl0).trans y7, (hc (w.heap.size + 1) 0 sl1).trans y8, (hc (w.heap.size + 1) 1 sl1).trans y9, (hc (w.heap.size + 1) 2 sl1).trans y10, (hc (w.heap.size + 1) 3 sl1).trans y11, (hc (w.heap.size + 1) 4 sl1).trans y12, (hc (w.heap.size + 1) 5 sl1).trans y13, (hc (w.heap.size + 1) 6 sl1).trans y14, (hc (w.heap.size + 1) 7 sl1).trans y15, ac y16 hb⟩
  have GF : Shut (∀ (g0_0 g0_1 g0_2 g0_3 g1_0 g1_1 g1_2 g1_3 : Nat) (W : World), (W.cell? ⟨w.heap.size, 0, none⟩ = some (.int .i64 s0_0) ∧ W.cell? ⟨w.heap.size, 1, none⟩ = some (.int .i64 s0_1) ∧ W.cell? ⟨w.heap.size, 2, none⟩ = some (.slice a0_0 n0_0 c0_0) ∧ W.cell? ⟨w.heap.size, 3, none⟩ = some (.int .i64 s0_3) ∧ W.cell? ⟨w.heap.size, 4, none⟩ = some (.slice a0_1 n0_1 c0_1) ∧ W.cell? ⟨w.heap.size, 5, none⟩ = some (.slice a0_2 n0_2 c0_2) ∧ W.cell? ⟨w.heap.size, 6, none⟩ = some (.slice a0_3 n0_3 c0_3) ∧ W.cell? ⟨w.heap.size, 7, none⟩ = some (.int .i64 s0_7) ∧ W.cell? ⟨w.heap.size + 1, 0, none⟩ = some (.int .i64 s1_0) ∧ W.cell? ⟨w.heap.size + 1, 1, none⟩ = some (.int .i64 s1_1) ∧ W.cell? ⟨w.heap.size + 1, 2, none⟩ = some (.slice a1_0 n1_0 c1_0) ∧ W.cell? ⟨w.heap.size + 1, 3, none⟩ = some (.int .i64 s1_3) ∧ W.cell? ⟨w.heap.size + 1, 4, none⟩ = some (.slice a1_1 n1_1 c1_1) ∧ W.cell? ⟨w.heap.size + 1, 5, none⟩ = some (.slice a1_2 n1_2 c1_2) ∧ W.cell? ⟨w.heap.size + 1, 6, none⟩ = some (.slice a1_3 n1_3 c1_3) ∧ W.cell? ⟨w.heap.size + 1, 7, none⟩ = some (.int .i64 s1_7) ∧ Below w2.heap.size w2 W) → Lst PartD.cels 4 W (some ⟨g0_0, 0, none⟩) n0_0 l0_0 → Lst HeldD.cels 3 W (some ⟨g0_1, 0, none⟩) n0_1 l0_1 → Bs W (some ⟨g0_2, 0, none⟩) n0_2 l0_2 → Lst bytC 1 W (some ⟨g0_3, 0, none⟩) n0_3 l0_3 → Lst PartD.cels 4 W (some ⟨g1_0, 0, none⟩) n1_0 l1_0 → Lst HeldD.cels 3 W (some ⟨g1_1, 0, none⟩) n1_1 l1_1 → Bs W (some ⟨g1_2, 0, none⟩) n1_2 l1_2 → Lst bytC 1 W (some ⟨g1_3, 0, none⟩) n1_3 l1_3 → Calls Try.prog 28 #[.agg #[.int .i64 s0_0, .int .i64 s0_1, .slice (some ⟨g0_0, 0, none⟩) n0_0 n0_0, .int .i64 s0_3, .slice (some ⟨g0_1, 0, none⟩) n0_1 n0_1, .slice (some ⟨g0_2, 0, none⟩) n0_2 n0_2, .slice (some ⟨g0_3, 0, none⟩) n0_3 n0_3, .int .i64 s0_7], .agg #[.int .i64 s1_0, .int .i64 s1_1, .slice (some ⟨g1_0, 0, none⟩) n1_0 n1_0, .int .i64 s1_3, .slice (some ⟨g1_1, 0, none⟩) n1_1 n1_1, .slice (some ⟨g1_2, 0, none⟩) n1_2 n1_2, .slice (some ⟨g1_3, 0, none⟩) n1_3 n1_3, .int .i64 s1_7]] W fun e w' => e = .returned (.bool Z0) ∧ w'.cell? ⟨w.heap.size, 0, none⟩ = some (.int .i64 s0_0) ∧ w'.cell? ⟨w.heap.size, 1, none⟩ = some (.int .i64 s0_1) ∧ w'.cell? ⟨w.heap.size, 2, none⟩ = some (.slice a0_0 n0_0 c0_0) ∧ w'.cell? ⟨w.heap.size, 3, none⟩ = some (.int .i64 s0_3) ∧ w'.cell? ⟨w.heap.size, 4, none⟩ = some (.slice a0_1 n0_1 c0_1) ∧ w'.cell? ⟨w.heap.size, 5, none⟩ = some (.slice a0_2 n0_2 c0_2) ∧ w'.cell? ⟨w.heap.size, 6, none⟩ = some (.slice a0_3 n0_3 c0_3) ∧ w'.cell? ⟨w.heap.size, 7, none⟩ = some (.int .i64 s0_7) ∧ w'.cell? ⟨w.heap.size + 1, 0, none⟩ = some (.int .i64 s1_0) ∧ w'.cell? ⟨w.heap.size + 1, 1, none⟩ = some (.int .i64 s1_1) ∧ w'.cell? ⟨w.heap.size + 1, 2, none⟩ = some (.slice a1_0 n1_0 c1_0) ∧ w'.cell? ⟨w.heap.size + 1, 3, none⟩ = some (.int .i64 s1_3) ∧ w'.cell? ⟨w.heap.size + 1, 4, none⟩ = some (.slice a1_1 n1_1 c1_1) ∧ w'.cell? ⟨w.heap.size + 1, 5, none⟩ = some (.slice a1_2 n1_2 c1_2) ∧ w'.cell? ⟨w.heap.size + 1, 6, none⟩ = some (.slice a1_3 n1_3 c1_3) ∧ w'.cell? ⟨w.heap.size + 1, 7, none⟩ = some (.int .i64 s1_7) ∧ Below w2.heap.size w2 w') := by
    refine ⟨fun g0_0 g0_1 g0_2 g0_3 g1_0 g1_1 g1_2 g1_3 W ⟨y0, y1, y2, y3, y4, y5, y6, y7, y8, y9, y10, y11, y12, y13, y14, y15, y16⟩ p0_0 p0_1 p0_2 p0_3 p1_0 p1_1 p1_2 p1_3 => (Gs.out g0_0 g0_1 g0_2 g0_3 g1_0 g1_1 g1_2 g1_3 W p0_0 p0_1 p0_2 p0_3 p1_0 p1_1 p1_2 p1_3).mono ?_⟩
    rintro e w' ⟨rfl, hb⟩
    have hc := fun (b i : Nat) (h : b < w2.heap.size) => hb.cell (p := ⟨b, i, none⟩) (Nat.lt_of_lt_of_le h y16.size)
    exact ⟨rfl, (hc (w.heap.size) 0 sl0).trans y0, (hc (w.heap.size) 1 sl0).trans y1, (hc (w.heap.size) 2 sl0).trans y2, (hc (w.heap.size) 3 sl0).trans y3, (hc (w.heap.size) 4 sl0).trans y4, (hc (w.heap.size) 5 sl0).trans y5, (hc (w.heap.size) 6 sl0).trans y6, (hc (w.heap.size) 7 sl0).trans y7, (hc (w.heap.size + 1) 0 sl1).trans y8, (hc (w.heap.size + 1) 1 sl1).trans y9, (hc (w.heap.size + 1) 2 sl1).trans y10, (hc (w.heap.size + 1) 3 sl1).trans y11, (hc (w.heap.size + 1) 4 sl1).trans y12, (hc (w.heap.size + 1) 5 sl1).trans y13, (hc (w.heap.size + 1) 6 sl1).trans y14, (hc (w.heap.size + 1) 7 sl1).trans y15, ac y16 hb⟩
  go_wp2_with fail
  go_region_held3 (fun W => W.cell? ⟨w.heap.size, 0, none⟩ = some (.int .i64 s0_0) ∧ W.cell? ⟨w.heap.size, 1, none⟩ = some (.int .i64 s0_1) ∧ W.cell? ⟨w.heap.size, 2, none⟩ = some (.slice a0_0 n0_0 c0_0) ∧ W.cell? ⟨w.heap.size, 3, none⟩ = some (.int .i64 s0_3) ∧ W.cell? ⟨w.heap.size, 4, none⟩ = some (.slice a0_1 n0_1 c0_1) ∧ W.cell? ⟨w.heap.size, 5, none⟩ = some (.slice a0_2 n0_2 c0_2) ∧ W.cell? ⟨w.heap.size, 6, none⟩ = some (.slice a0_3 n0_3 c0_3) ∧ W.cell? ⟨w.heap.size, 7, none⟩ = some (.int .i64 s0_7) ∧ W.cell? ⟨w.heap.size + 1, 0, none⟩ = some (.int .i64 s1_0) ∧ W.cell? ⟨w.heap.size + 1, 1, none⟩ = some (.int .i64 s1_1) ∧ W.cell? ⟨w.heap.size + 1, 2, none⟩ = some (.slice a1_0 n1_0 c1_0) ∧ W.cell? ⟨w.heap.size + 1, 3, none⟩ = some (.int .i64 s1_3) ∧ W.cell? ⟨w.heap.size + 1, 4, none⟩ = some (.slice a1_1 n1_1 c1_1) ∧ W.cell? ⟨w.heap.size + 1, 5, none⟩ = some (.slice a1_2 n1_2 c1_2) ∧ W.cell? ⟨w.heap.size + 1, 6, none⟩ = some (.slice a1_3 n1_3 c1_3) ∧ W.cell? ⟨w.heap.size + 1, 7, none⟩ = some (.int .i64 s1_7) ∧ Below w2.heap.size w2 W)
    (first | (exact ⟨by assumption, by assumption, by assumption, by assumption, by assumption, by assumption, by assumption, by assumption, by assumption, by assumption, by assumption, by assumption, by assumption, by assumption, by assumption, by assumption, by assumption⟩) | (exact ⟨x0_0, x0_1, x0_2, x0_3, x0_4, x0_5, x0_6, x0_7, x1_0, x1_1, x1_2, x1_3, x1_4, x1_5, x1_6, x1_7, hWW.drew⟩) | go_keep)
    (first
      | (go_at_call_of 14 a0_0; refine (GX0.out _ ?_).mono ?_; (first | assumption | (simp [*]; done)); rintro e w3 ⟨⟨ee0_0, ee0_1, ee0_2, ee0_3, rfl, pp0_0, pp0_1, pp0_2, pp0_3⟩, hh0, y0, y1, y2, y3, y4, y5, y6, y7, y8, y9, y10, y11, y12, y13, y14, y15, y16⟩)
      | (go_at_call_of 14 a1_0; refine (GX1.out _ ?_).mono ?_; (first | assumption | (simp [*]; done)); rintro e w3 ⟨⟨ee1_0, ee1_1, ee1_2, ee1_3, rfl, pp1_0, pp1_1, pp1_2, pp1_3⟩, hh1, y0, y1, y2, y3, y4, y5, y6, y7, y8, y9, y10, y11, y12, y13, y14, y15, y16⟩; replace pp0_0 := pp0_0.below hh1; replace pp0_1 := pp0_1.below hh1; replace pp0_2 := pp0_2.below hh1; replace pp0_3 := pp0_3.below hh1)
      | (go_at_call 28; refine (GF.out _ _ _ _ _ _ _ _ _ ?_ ?_ ?_ ?_ ?_ ?_ ?_ ?_ ?_).mono ?_; (first | assumption | (simp [*]; done)); (first | assumption | exact pp0_0); (first | assumption | exact pp0_1); (first | assumption | exact pp0_2); (first | assumption | exact pp0_3); (first | assumption | exact pp1_0); (first | assumption | exact pp1_1); (first | assumption | exact pp1_2); (first | assumption | exact pp1_3); rintro e w3 ⟨rfl, y0, y1, y2, y3, y4, y5, y6, y7, y8, y9, y10, y11, y12, y13, y14, y15, y16⟩))
  clear GF hWW GX0 GX1 sl0 lS0 sl1 lS1 y0 y1 y2 y3 y4 y5 y6 y7 y8 y9 y10 y11 y12 y13 y14 y15 hh0 pp0_0 pp0_1 pp0_2 pp0_3 hh1 pp1_0 pp1_1 pp1_2 pp1_3
  clear x0_0 x0_1 x0_2 x0_3 x0_4 x0_5 x0_6 x0_7
  clear x1_0 x1_1 x1_2 x1_3 x1_4 x1_5 x1_6 x1_7
  have z3 := y16.size
  replace S0 := S0.below y16 S0.lt
  replace S1 := S1.below y16 S1.lt
  have B3 := ac B2 y16
  clear y16 B2
  have x0 := S0.cell (i := 0) rfl
  have x1 := S0.cell (i := 1) rfl
  have x2 := S0.cell (i := 2) rfl
  have x3 := S0.cell (i := 3) rfl
  have x4 := S0.cell (i := 4) rfl
  have x5 := S0.cell (i := 5) rfl
  have x6 := S0.cell (i := 6) rfl
  have x7 := S0.cell (i := 7) rfl
  go_wp2_with fail
  refine (G0.out _ B3).mono ?_
  rintro e w4 ⟨⟨g4_0, g4_1, g4_2, g4_3, rfl, X0⟩, b4⟩
  clear x0 x1 x2 x3 x4 x5 x6 x7
  have z4 := b4.size
  replace S0 := S0.below b4 S0.lt
  replace S1 := S1.below b4 S1.lt
  have B4 := ac B3 b4
  clear b4 B3
  replace S0 := S0.alloc (.cells #[.int .i64 s0_0, .int .i64 s0_1, .slice (some ⟨g4_0, 0, none⟩) n0_0 n0_0, .int .i64 s0_3, .slice (some ⟨g4_1, 0, none⟩) n0_1 n0_1, .slice (some ⟨g4_2, 0, none⟩) n0_2 n0_2, .slice (some ⟨g4_3, 0, none⟩) n0_3 n0_3, .int .i64 s0_7] 41)
  replace S1 := S1.alloc (.cells #[.int .i64 s0_0, .int .i64 s0_1, .slice (some ⟨g4_0, 0, none⟩) n0_0 n0_0, .int .i64 s0_3, .slice (some ⟨g4_1, 0, none⟩) n0_1 n0_1, .slice (some ⟨g4_2, 0, none⟩) n0_2 n0_2, .slice (some ⟨g4_3, 0, none⟩) n0_3 n0_3, .int .i64 s0_7] 41)
  replace X0 := ((okP _ _ _).sep (((okH _ _ _).sep (okR _ _ _)).sep (okB _ _ _))).alloc X0 (.cells #[.int .i64 s0_0, .int .i64 s0_1, .slice (some ⟨g4_0, 0, none⟩) n0_0 n0_0, .int .i64 s0_3, .slice (some ⟨g4_1, 0, none⟩) n0_1 n0_1, .slice (some ⟨g4_2, 0, none⟩) n0_2 n0_2, .slice (some ⟨g4_3, 0, none⟩) n0_3 n0_3, .int .i64 s0_7] 41)
  replace B4 := ab B4 (.cells #[.int .i64 s0_0, .int .i64 s0_1, .slice (some ⟨g4_0, 0, none⟩) n0_0 n0_0, .int .i64 s0_3, .slice (some ⟨g4_1, 0, none⟩) n0_1 n0_1, .slice (some ⟨g4_2, 0, none⟩) n0_2 n0_2, .slice (some ⟨g4_3, 0, none⟩) n0_3 n0_3, .int .i64 s0_7] 41)
  have XB0 := Stc.new w4 41 [.int .i64 s0_0, .int .i64 s0_1, .slice (some ⟨g4_0, 0, none⟩) n0_0 n0_0, .int .i64 s0_3, .slice (some ⟨g4_1, 0, none⟩) n0_1 n0_1, .slice (some ⟨g4_2, 0, none⟩) n0_2 n0_2, .slice (some ⟨g4_3, 0, none⟩) n0_3 n0_3, .int .i64 s0_7] _ rfl
  have x0 := S1.cell (i := 0) rfl
  have x1 := S1.cell (i := 1) rfl
  have x2 := S1.cell (i := 2) rfl
  have x3 := S1.cell (i := 3) rfl
  have x4 := S1.cell (i := 4) rfl
  have x5 := S1.cell (i := 5) rfl
  have x6 := S1.cell (i := 6) rfl
  have x7 := S1.cell (i := 7) rfl
  go_wp2_with fail
  refine (G1.out _ B4).mono ?_
  rintro e w5 ⟨⟨g5_0, g5_1, g5_2, g5_3, rfl, X1⟩, b5⟩
  clear x0 x1 x2 x3 x4 x5 x6 x7
  simp only [World.size_alloc] at X1
  have z5 := b5.size
  simp only [World.size_alloc] at z5
  replace S0 := S0.below b5 S0.lt
  replace S1 := S1.below b5 S1.lt
  replace X0 := ((okP _ _ _).sep (((okH _ _ _).sep (okR _ _ _)).sep (okB _ _ _))).below X0 b5
  replace XB0 := XB0.below b5 XB0.lt
  have B5 := ac B4 b5
  clear b5 B4
  replace S0 := S0.alloc (.cells #[.int .i64 s1_0, .int .i64 s1_1, .slice (some ⟨g5_0, 0, none⟩) n1_0 n1_0, .int .i64 s1_3, .slice (some ⟨g5_1, 0, none⟩) n1_1 n1_1, .slice (some ⟨g5_2, 0, none⟩) n1_2 n1_2, .slice (some ⟨g5_3, 0, none⟩) n1_3 n1_3, .int .i64 s1_7] 41)
  replace S1 := S1.alloc (.cells #[.int .i64 s1_0, .int .i64 s1_1, .slice (some ⟨g5_0, 0, none⟩) n1_0 n1_0, .int .i64 s1_3, .slice (some ⟨g5_1, 0, none⟩) n1_1 n1_1, .slice (some ⟨g5_2, 0, none⟩) n1_2 n1_2, .slice (some ⟨g5_3, 0, none⟩) n1_3 n1_3, .int .i64 s1_7] 41)
  replace X0 := ((okP _ _ _).sep (((okH _ _ _).sep (okR _ _ _)).sep (okB _ _ _))).alloc X0 (.cells #[.int .i64 s1_0, .int .i64 s1_1, .slice (some ⟨g5_0, 0, none⟩) n1_0 n1_0, .int .i64 s1_3, .slice (some ⟨g5_1, 0, none⟩) n1_1 n1_1, .slice (some ⟨g5_2, 0, none⟩) n1_2 n1_2, .slice (some ⟨g5_3, 0, none⟩) n1_3 n1_3, .int .i64 s1_7] 41)
  replace XB0 := XB0.alloc (.cells #[.int .i64 s1_0, .int .i64 s1_1, .slice (some ⟨g5_0, 0, none⟩) n1_0 n1_0, .int .i64 s1_3, .slice (some ⟨g5_1, 0, none⟩) n1_1 n1_1, .slice (some ⟨g5_2, 0, none⟩) n1_2 n1_2, .slice (some ⟨g5_3, 0, none⟩) n1_3 n1_3, .int .i64 s1_7] 41)
  replace X1 := ((okP _ _ _).sep (((okH _ _ _).sep (okR _ _ _)).sep (okB _ _ _))).alloc X1 (.cells #[.int .i64 s1_0, .int .i64 s1_1, .slice (some ⟨g5_0, 0, none⟩) n1_0 n1_0, .int .i64 s1_3, .slice (some ⟨g5_1, 0, none⟩) n1_1 n1_1, .slice (some ⟨g5_2, 0, none⟩) n1_2 n1_2, .slice (some ⟨g5_3, 0, none⟩) n1_3 n1_3, .int .i64 s1_7] 41)
  replace B5 := ab B5 (.cells #[.int .i64 s1_0, .int .i64 s1_1, .slice (some ⟨g5_0, 0, none⟩) n1_0 n1_0, .int .i64 s1_3, .slice (some ⟨g5_1, 0, none⟩) n1_1 n1_1, .slice (some ⟨g5_2, 0, none⟩) n1_2 n1_2, .slice (some ⟨g5_3, 0, none⟩) n1_3 n1_3, .int .i64 s1_7] 41)
  have XB1 := Stc.new w5 41 [.int .i64 s1_0, .int .i64 s1_1, .slice (some ⟨g5_0, 0, none⟩) n1_0 n1_0, .int .i64 s1_3, .slice (some ⟨g5_1, 0, none⟩) n1_1 n1_1, .slice (some ⟨g5_2, 0, none⟩) n1_2 n1_2, .slice (some ⟨g5_3, 0, none⟩) n1_3 n1_3, .int .i64 s1_7] _ rfl
  have x0_0 := XB0.cell (i := 0) rfl
  have x0_1 := XB0.cell (i := 1) rfl
  have x0_2 := XB0.cell (i := 2) rfl
  have x0_3 := XB0.cell (i := 3) rfl
  have x0_4 := XB0.cell (i := 4) rfl
  have x0_5 := XB0.cell (i := 5) rfl
  have x0_6 := XB0.cell (i := 6) rfl
  have x0_7 := XB0.cell (i := 7) rfl
  have x1_0 := XB1.cell (i := 0) rfl
  have x1_1 := XB1.cell (i := 1) rfl
  have x1_2 := XB1.cell (i := 2) rfl
  have x1_3 := XB1.cell (i := 3) rfl
  have x1_4 := XB1.cell (i := 4) rfl
  have x1_5 := XB1.cell (i := 5) rfl
  have x1_6 := XB1.cell (i := 6) rfl
  have x1_7 := XB1.cell (i := 7) rfl
  have O0 := X0
  obtain ⟨_, _, _, _, _, O0_0, ⟨_, _, _, _, _, O0_1, O0_2⟩⟩ := O0
  have O0_0_0 := O0_0
  replace O0_0_0 := Lo.rows O0_0_0
  obtain ⟨_, _, _, _, _, O0_1_0, O0_1_1⟩ := O0_1
  replace O0_1_0 := Lo.rows O0_1_0
  replace O0_1_1 := Bo.bs O0_1_1
  replace O0_2 := Lo.rows O0_2
  have O1 := X1
  obtain ⟨_, _, _, _, _, O1_0, ⟨_, _, _, _, _, O1_1, O1_2⟩⟩ := O1
  have O1_0_0 := O1_0
  replace O1_0_0 := Lo.rows O1_0_0
  obtain ⟨_, _, _, _, _, O1_1_0, O1_1_1⟩ := O1_1
  replace O1_1_0 := Lo.rows O1_1_0
  replace O1_1_1 := Bo.bs O1_1_1
  replace O1_2 := Lo.rows O1_2
  have T1P := hkeep _ _ B5 hP
  go_wp2_with fail
  refine (Gi.out _ _ _ _ _ _ _ _ _ T1P O0_0_0 O0_1_0 O0_1_1 O0_2 O1_0_0 O1_1_0 O1_1_1 O1_2).mono ?_
  rintro e w6 ⟨rfl, b6⟩
  clear T1P O0_0_0 O0_1_0 O0_1_1 O0_2 O1_0_0 O1_1_0 O1_1_1 O1_2
  clear x0_0 x0_1 x0_2 x0_3 x0_4 x0_5 x0_6 x0_7
  clear x1_0 x1_1 x1_2 x1_3 x1_4 x1_5 x1_6 x1_7
  have z6 := b6.size
  simp only [World.size_alloc] at z6
  replace S0 := S0.below b6 S0.lt
  replace S1 := S1.below b6 S1.lt
  replace X0 := ((okP _ _ _).sep (((okH _ _ _).sep (okR _ _ _)).sep (okB _ _ _))).below X0 b6
  replace XB0 := XB0.below b6 XB0.lt
  replace X1 := ((okP _ _ _).sep (((okH _ _ _).sep (okR _ _ _)).sep (okB _ _ _))).below X1 b6
  replace XB1 := XB1.below b6 XB1.lt
  have B6 := ac B5 b6
  clear b6 B5
  have x0 := S0.cell (i := 0) rfl
  have x1 := S0.cell (i := 1) rfl
  have x2 := S0.cell (i := 2) rfl
  have x3 := S0.cell (i := 3) rfl
  have x4 := S0.cell (i := 4) rfl
  have x5 := S0.cell (i := 5) rfl
  have x6 := S0.cell (i := 6) rfl
  have x7 := S0.cell (i := 7) rfl
  have xx0 := XB0.cell (i := 0) rfl
  have xx1 := XB0.cell (i := 1) rfl
  have xx2 := XB0.cell (i := 2) rfl
  have xx3 := XB0.cell (i := 3) rfl
  have xx4 := XB0.cell (i := 4) rfl
  have xx5 := XB0.cell (i := 5) rfl
  have xx6 := XB0.cell (i := 6) rfl
  have xx7 := XB0.cell (i := 7) rfl
  have lS := S0.lt
  have lX := XB0.lt
  have hWW := Below.refl w6.heap.size w6
  have sl0 : w.heap.size < w6.heap.size := by first | assumption | omega
  have sl1 : w4.heap.size < w6.heap.size := by first | assumption | omega
  have GA : Shut (∀ W : World, (W.cell? ⟨w.heap.size, 0, none⟩ = some (.int .i64 s0_0) ∧ W.cell? ⟨w.heap.size, 1, none⟩ = some (.int .i64 s0_1) ∧ W.cell? ⟨w.heap.size, 2, none⟩ = some (.slice a0_0 n0_0 c0_0) ∧ W.cell? ⟨w.heap.size, 3, none⟩ = some (.int .i64 s0_3) ∧ W.cell? ⟨w.heap.size, 4, none⟩ = some (.slice a0_1 n0_1 c0_1) ∧ W.cell? ⟨w.heap.size, 5, none⟩ = some (.slice a0_2 n0_2 c0_2) ∧ W.cell? ⟨w.heap.size, 6, none⟩ = some (.slice a0_3 n0_3 c0_3) ∧ W.cell? ⟨w.heap.size, 7, none⟩ = some (.int .i64 s0_7) ∧ W.cell? ⟨w4.heap.size, 0, none⟩ = some (.int .i64 s0_0) ∧ W.cell? ⟨w4.heap.size, 1, none⟩ = some (.int .i64 s0_1) ∧ W.cell? ⟨w4.heap.size, 2, none⟩ = some (.slice (some ⟨g4_0, 0, none⟩) n0_0 n0_0) ∧ W.cell? ⟨w4.heap.size, 3, none⟩ = some (.int .i64 s0_3) ∧ W.cell? ⟨w4.heap.size, 4, none⟩ = some (.slice (some ⟨g4_1, 0, none⟩) n0_1 n0_1) ∧ W.cell? ⟨w4.heap.size, 5, none⟩ = some (.slice (some ⟨g4_2, 0, none⟩) n0_2 n0_2) ∧ W.cell? ⟨w4.heap.size, 6, none⟩ = some (.slice (some ⟨g4_3, 0, none⟩) n0_3 n0_3) ∧ W.cell? ⟨w4.heap.size, 7, none⟩ = some (.int .i64 s0_7) ∧ Below w6.heap.size w6 W) → Calls Try.prog 14 #[.agg #[.int .i64 s0_0, .int .i64 s0_1, .slice a0_0 n0_0 c0_0, .int .i64 s0_3, .slice a0_1 n0_1 c0_1, .slice a0_2 n0_2 c0_2, .slice a0_3 n0_3 c0_3, .int .i64 s0_7]] W fun e w' => (∃ q0 q1 q2 q3, e = .returned (.agg #[.int .i64 s0_0, .int .i64 s0_1, .slice (some ⟨q0, 0, none⟩) n0_0 n0_0, .int .i64 s0_3, .slice (some ⟨q1, 0, none⟩) n0_1 n0_1, .slice (some ⟨q2, 0, none⟩) n0_2 n0_2, .slice (some ⟨q3, 0, none⟩) n0_3 n0_3, .int .i64 s0_7]) ∧ Lst PartD.cels 4 w' (some ⟨q0, 0, none⟩) n0_0 l0_0 ∧ Lst HeldD.cels 3 w' (some ⟨q1, 0, none⟩) n0_1 l0_1 ∧ Bs w' (some ⟨q2, 0, none⟩) n0_2 l0_2 ∧ Lst bytC 1 w' (some ⟨q3, 0, none⟩) n0_3 l0_3) ∧ w'.cell? ⟨w.heap.size, 0, none⟩ = some (.int .i64 s0_0) ∧ w'.cell? ⟨w.heap.size, 1, none⟩ = some (.int .i64 s0_1) ∧ w'.cell? ⟨w.heap.size, 2, none⟩ = some (.slice a0_0 n0_0 c0_0) ∧ w'.cell? ⟨w.heap.size, 3, none⟩ = some (.int .i64 s0_3) ∧ w'.cell? ⟨w.heap.size, 4, none⟩ = some (.slice a0_1 n0_1 c0_1) ∧ w'.cell? ⟨w.heap.size, 5, none⟩ = some (.slice a0_2 n0_2 c0_2) ∧ w'.cell? ⟨w.heap.size, 6, none⟩ = some (.slice a0_3 n0_3 c0_3) ∧ w'.cell? ⟨w.heap.size, 7, none⟩ = some (.int .i64 s0_7) ∧ w'.cell? ⟨w4.heap.size, 0, none⟩ = some (.int .i64 s0_0) ∧ w'.cell? ⟨w4.heap.size, 1, none⟩ = some (.int .i64 s0_1) ∧ w'.cell? ⟨w4.heap.size, 2, none⟩ = some (.slice (some ⟨g4_0, 0, none⟩) n0_0 n0_0) ∧ w'.cell? ⟨w4.heap.size, 3, none⟩ = some (.int .i64 s0_3) ∧ w'.cell? ⟨w4.heap.size, 4, none⟩ = some (.slice (some ⟨g4_1, 0, none⟩) n0_1 n0_1) ∧ w'.cell? ⟨w4.heap.size, 5, none⟩ = some (.slice (some ⟨g4_2, 0, none⟩) n0_2 n0_2) ∧ w'.cell? ⟨w4.heap.size, 6, none⟩ = some (.slice (some ⟨g4_3, 0, none⟩) n0_3 n0_3) ∧ w'.cell? ⟨w4.heap.size, 7, none⟩ = some (.int .i64 s0_7) ∧ Below w6.heap.size w6 w') := by
    refine ⟨fun W ⟨y0, y1, y2, y3, y4, y5, y6, y7, y8, y9, y10, y11, y12, y13, y14, y15, y16⟩ => (G0.out W (ac B6 y16)).mono ?_⟩
    rintro e w' ⟨⟨q0, q1, q2, q3, rfl, R⟩, hb⟩
    have hc := fun (b i : Nat) (h : b < w6.heap.size) => hb.cell (p := ⟨b, i, none⟩) (Nat.lt_of_lt_of_le h y16.size)
    have OR := R
    obtain ⟨_, _, _, _, _, OR_0, ⟨_, _, _, _, _, OR_1, OR_2⟩⟩ := OR
    have OR_0_0 := OR_0
    replace OR_0_0 := Lo.rows OR_0_0
    obtain ⟨_, _, _, _, _, OR_1_0, OR_1_1⟩ := OR_1
    replace OR_1_0 := Lo.rows OR_1_0
    replace OR_1_1 := Bo.bs OR_1_1
    replace OR_2 := Lo.rows OR_2
    exact ⟨⟨q0, q1, q2, q3, rfl, OR_0_0, OR_1_0, OR_1_1, OR_2⟩, (hc (w.heap.size) 0 sl0).trans y0, (hc (w.heap.size) 1 sl0).trans y1, (hc (w.heap.size) 2 sl0).trans y2, (hc (w.heap.size) 3 sl0).trans y3, (hc (w.heap.size) 4 sl0).trans y4, (hc (w.heap.size) 5 sl0).trans y5, (hc (w.heap.size) 6 sl0).trans y6, (hc (w.heap.size) 7 sl0).trans y7, (hc (w4.heap.size) 0 sl1).trans y8, (hc (w4.heap.size) 1 sl1).trans y9, (hc (w4.heap.size) 2 sl1).trans y10, (hc (w4.heap.size) 3 sl1).trans y11, (hc (w4.heap.size) 4 sl1).trans y12, (hc (w4.heap.size) 5 sl1).trans y13, (hc (w4.heap.size) 6 sl1).trans y14, (hc (w4.heap.size) 7 sl1).trans y15, ac y16 hb⟩
  have OX := X0
  obtain ⟨_, _, _, _, _, OX_0, ⟨_, _, _, _, _, OX_1, OX_2⟩⟩ := OX
  have OX_0_0 := OX_0
  replace OX_0_0 := Lo.rows OX_0_0
  obtain ⟨_, _, _, _, _, OX_1_0, OX_1_1⟩ := OX_1
  replace OX_1_0 := Lo.rows OX_1_0
  replace OX_1_1 := Bo.bs OX_1_1
  replace OX_2 := Lo.rows OX_2
  have GB : Shut (∀ (q0 q1 q2 q3 : Nat) (W : World), (W.cell? ⟨w.heap.size, 0, none⟩ = some (.int .i64 s0_0) ∧ W.cell? ⟨w.heap.size, 1, none⟩ = some (.int .i64 s0_1) ∧ W.cell? ⟨w.heap.size, 2, none⟩ = some (.slice a0_0 n0_0 c0_0) ∧ W.cell? ⟨w.heap.size, 3, none⟩ = some (.int .i64 s0_3) ∧ W.cell? ⟨w.heap.size, 4, none⟩ = some (.slice a0_1 n0_1 c0_1) ∧ W.cell? ⟨w.heap.size, 5, none⟩ = some (.slice a0_2 n0_2 c0_2) ∧ W.cell? ⟨w.heap.size, 6, none⟩ = some (.slice a0_3 n0_3 c0_3) ∧ W.cell? ⟨w.heap.size, 7, none⟩ = some (.int .i64 s0_7) ∧ W.cell? ⟨w4.heap.size, 0, none⟩ = some (.int .i64 s0_0) ∧ W.cell? ⟨w4.heap.size, 1, none⟩ = some (.int .i64 s0_1) ∧ W.cell? ⟨w4.heap.size, 2, none⟩ = some (.slice (some ⟨g4_0, 0, none⟩) n0_0 n0_0) ∧ W.cell? ⟨w4.heap.size, 3, none⟩ = some (.int .i64 s0_3) ∧ W.cell? ⟨w4.heap.size, 4, none⟩ = some (.slice (some ⟨g4_1, 0, none⟩) n0_1 n0_1) ∧ W.cell? ⟨w4.heap.size, 5, none⟩ = some (.slice (some ⟨g4_2, 0, none⟩) n0_2 n0_2) ∧ W.cell? ⟨w4.heap.size, 6, none⟩ = some (.slice (some ⟨g4_3, 0, none⟩) n0_3 n0_3) ∧ W.cell? ⟨w4.heap.size, 7, none⟩ = some (.int .i64 s0_7) ∧ Below w6.heap.size w6 W) → Lst PartD.cels 4 W (some ⟨q0, 0, none⟩) n0_0 l0_0 → Lst HeldD.cels 3 W (some ⟨q1, 0, none⟩) n0_1 l0_1 → Bs W (some ⟨q2, 0, none⟩) n0_2 l0_2 → Lst bytC 1 W (some ⟨q3, 0, none⟩) n0_3 l0_3 → Calls Try.prog 16 #[.agg #[.int .i64 s0_0, .int .i64 s0_1, .slice (some ⟨g4_0, 0, none⟩) n0_0 n0_0, .int .i64 s0_3, .slice (some ⟨g4_1, 0, none⟩) n0_1 n0_1, .slice (some ⟨g4_2, 0, none⟩) n0_2 n0_2, .slice (some ⟨g4_3, 0, none⟩) n0_3 n0_3, .int .i64 s0_7], .agg #[.int .i64 s0_0, .int .i64 s0_1, .slice (some ⟨q0, 0, none⟩) n0_0 n0_0, .int .i64 s0_3, .slice (some ⟨q1, 0, none⟩) n0_1 n0_1, .slice (some ⟨q2, 0, none⟩) n0_2 n0_2, .slice (some ⟨q3, 0, none⟩) n0_3 n0_3, .int .i64 s0_7]] W fun e w' => e = .returned (.bool true) ∧ w'.cell? ⟨w.heap.size, 0, none⟩ = some (.int .i64 s0_0) ∧ w'.cell? ⟨w.heap.size, 1, none⟩ = some (.int .i64 s0_1) ∧ w'.cell? ⟨w.heap.size, 2, none⟩ = some (.slice a0_0 n0_0 c0_0) ∧ w'.cell? ⟨w.heap.size, 3, none⟩ = some (.int .i64 s0_3) ∧ w'.cell? ⟨w.heap.size, 4, none⟩ = some (.slice a0_1 n0_1 c0_1) ∧ w'.cell? ⟨w.heap.size, 5, none⟩ = some (.slice a0_2 n0_2 c0_2) ∧ w'.cell? ⟨w.heap.size, 6, none⟩ = some (.slice a0_3 n0_3 c0_3) ∧ w'.cell? ⟨w.heap.size, 7, none⟩ = some (.int .i64 s0_7) ∧ w'.cell? ⟨w4.heap.size, 0, none⟩ = some (.int .i64 s0_0) ∧ w'.cell? ⟨w4.heap.size, 1, none⟩ = some (.int .i64 s0_1) ∧ w'.cell? ⟨w4.heap.size, 2, none⟩ = some (.slice (some ⟨g4_0, 0, none⟩) n0_0 n0_0) ∧ w'.cell? ⟨w4.heap.size, 3, none⟩ = some (.int .i64 s0_3) ∧ w'.cell? ⟨w4.heap.size, 4, none⟩ = some (.slice (some ⟨g4_1, 0, none⟩) n0_1 n0_1) ∧ w'.cell? ⟨w4.heap.size, 5, none⟩ = some (.slice (some ⟨g4_2, 0, none⟩) n0_2 n0_2) ∧ w'.cell? ⟨w4.heap.size, 6, none⟩ = some (.slice (some ⟨g4_3, 0, none⟩) n0_3 n0_3) ∧ w'.cell? ⟨w4.heap.size, 7, none⟩ = some (.int .i64 s0_7) ∧ Below w6.heap.size w6 w') := by
    refine ⟨fun q0 q1 q2 q3 W ⟨y0, y1, y2, y3, y4, y5, y6, y7, y8, y9, y10, y11, y12, y13, y14, y15, y16⟩ p0 p1 p2 p3 => (eqEnd_any s0_0 s0_1 s0_3 s0_7 _ _ _ _ _ _ _ _ _ _ _ _ _ _ _ _ _ _ _ _ _ _ _ _ W (OX_0_0.below y16) p0 (OX_1_0.below y16) p1 (OX_1_1.below y16) p2 (OX_2.below y16) p3 (by omega) (fun e he => by have := b0_0 e he; omega) (by omega) (fun e he => by have := b0_1 e he; omega) (by omega) (by omega) (fun e he => by have := b0_3 e he; omega)).mono ?_⟩
    rintro e w' ⟨rfl, hb⟩
    have hc := fun (b i : Nat) (h : b < w6.heap.size) => hb.cell (p := ⟨b, i, none⟩) (Nat.lt_of_lt_of_le h y16.size)
    exact ⟨rfl, (hc (w.heap.size) 0 sl0).trans y0, (hc (w.heap.size) 1 sl0).trans y1, (hc (w.heap.size) 2 sl0).trans y2, (hc (w.heap.size) 3 sl0).trans y3, (hc (w.heap.size) 4 sl0).trans y4, (hc (w.heap.size) 5 sl0).trans y5, (hc (w.heap.size) 6 sl0).trans y6, (hc (w.heap.size) 7 sl0).trans y7, (hc (w4.heap.size) 0 sl1).trans y8, (hc (w4.heap.size) 1 sl1).trans y9, (hc (w4.heap.size) 2 sl1).trans y10, (hc (w4.heap.size) 3 sl1).trans y11, (hc (w4.heap.size) 4 sl1).trans y12, (hc (w4.heap.size) 5 sl1).trans y13, (hc (w4.heap.size) 6 sl1).trans y14, (hc (w4.heap.size) 7 sl1).trans y15, ac y16 hb⟩
  clear OX_0_0 OX_1_0 OX_1_1 OX_2
  go_wp2_with fail
  go_region_held3 (fun W => W.cell? ⟨w.heap.size, 0, none⟩ = some (.int .i64 s0_0) ∧ W.cell? ⟨w.heap.size, 1, none⟩ = some (.int .i64 s0_1) ∧ W.cell? ⟨w.heap.size, 2, none⟩ = some (.slice a0_0 n0_0 c0_0) ∧ W.cell? ⟨w.heap.size, 3, none⟩ = some (.int .i64 s0_3) ∧ W.cell? ⟨w.heap.size, 4, none⟩ = some (.slice a0_1 n0_1 c0_1) ∧ W.cell? ⟨w.heap.size, 5, none⟩ = some (.slice a0_2 n0_2 c0_2) ∧ W.cell? ⟨w.heap.size, 6, none⟩ = some (.slice a0_3 n0_3 c0_3) ∧ W.cell? ⟨w.heap.size, 7, none⟩ = some (.int .i64 s0_7) ∧ W.cell? ⟨w4.heap.size, 0, none⟩ = some (.int .i64 s0_0) ∧ W.cell? ⟨w4.heap.size, 1, none⟩ = some (.int .i64 s0_1) ∧ W.cell? ⟨w4.heap.size, 2, none⟩ = some (.slice (some ⟨g4_0, 0, none⟩) n0_0 n0_0) ∧ W.cell? ⟨w4.heap.size, 3, none⟩ = some (.int .i64 s0_3) ∧ W.cell? ⟨w4.heap.size, 4, none⟩ = some (.slice (some ⟨g4_1, 0, none⟩) n0_1 n0_1) ∧ W.cell? ⟨w4.heap.size, 5, none⟩ = some (.slice (some ⟨g4_2, 0, none⟩) n0_2 n0_2) ∧ W.cell? ⟨w4.heap.size, 6, none⟩ = some (.slice (some ⟨g4_3, 0, none⟩) n0_3 n0_3) ∧ W.cell? ⟨w4.heap.size, 7, none⟩ = some (.int .i64 s0_7) ∧ Below w6.heap.size w6 W)
    (first | (exact ⟨by assumption, by assumption, by assumption, by assumption, by assumption, by assumption, by assumption, by assumption, by assumption, by assumption, by assumption, by assumption, by assumption, by assumption, by assumption, by assumption, by assumption⟩) | (exact ⟨x0, x1, x2, x3, x4, x5, x6, x7, xx0, xx1, xx2, xx3, xx4, xx5, xx6, xx7, hWW.drew⟩) | go_keep)
    (first
      | (go_at_call 14; refine (GA.out _ ?_).mono ?_; (first | assumption | (simp [*]; done)); rintro e w7 ⟨⟨ee0, ee1, ee2, ee3, rfl, pp0, pp1, pp2, pp3⟩, y0, y1, y2, y3, y4, y5, y6, y7, y8, y9, y10, y11, y12, y13, y14, y15, y16⟩)
      | (go_at_call 16; refine (GB.out _ _ _ _ _ ?_ ?_ ?_ ?_ ?_).mono ?_; (first | assumption | (simp [*]; done)); assumption; assumption; assumption; assumption; rintro e w7 ⟨rfl, y0, y1, y2, y3, y4, y5, y6, y7, y8, y9, y10, y11, y12, y13, y14, y15, y16⟩))
  clear GA GB hWW sl0 sl1 lS lX y0 y1 y2 y3 y4 y5 y6 y7 y8 y9 y10 y11 y12 y13 y14 y15
  clear x0 x1 x2 x3 x4 x5 x6 x7
  clear xx0 xx1 xx2 xx3 xx4 xx5 xx6 xx7
  have z7 := y16.size
  replace S0 := S0.below y16 S0.lt
  replace S1 := S1.below y16 S1.lt
  replace X0 := ((okP _ _ _).sep (((okH _ _ _).sep (okR _ _ _)).sep (okB _ _ _))).below X0 y16
  replace XB0 := XB0.below y16 XB0.lt
  replace X1 := ((okP _ _ _).sep (((okH _ _ _).sep (okR _ _ _)).sep (okB _ _ _))).below X1 y16
  replace XB1 := XB1.below y16 XB1.lt
  have B7 := ac B6 y16
  clear y16 B6
  have x0 := S1.cell (i := 0) rfl
  have x1 := S1.cell (i := 1) rfl
  have x2 := S1.cell (i := 2) rfl
  have x3 := S1.cell (i := 3) rfl
  have x4 := S1.cell (i := 4) rfl
  have x5 := S1.cell (i := 5) rfl
  have x6 := S1.cell (i := 6) rfl
  have x7 := S1.cell (i := 7) rfl
  have xx0 := XB1.cell (i := 0) rfl
  have xx1 := XB1.cell (i := 1) rfl
  have xx2 := XB1.cell (i := 2) rfl
  have xx3 := XB1.cell (i := 3) rfl
  have xx4 := XB1.cell (i := 4) rfl
  have xx5 := XB1.cell (i := 5) rfl
  have xx6 := XB1.cell (i := 6) rfl
  have xx7 := XB1.cell (i := 7) rfl
  have lS := S1.lt
  have lX := XB1.lt
  have hWW := Below.refl w7.heap.size w7
  have sl0 : w.heap.size + 1 < w7.heap.size := by first | assumption | omega
  have sl1 : w5.heap.size < w7.heap.size := by first | assumption | omega
  have GA : Shut (∀ W : World, (W.cell? ⟨w.heap.size + 1, 0, none⟩ = some (.int .i64 s1_0) ∧ W.cell? ⟨w.heap.size + 1, 1, none⟩ = some (.int .i64 s1_1) ∧ W.cell? ⟨w.heap.size + 1, 2, none⟩ = some (.slice a1_0 n1_0 c1_0) ∧ W.cell? ⟨w.heap.size + 1, 3, none⟩ = some (.int .i64 s1_3) ∧ W.cell? ⟨w.heap.size + 1, 4, none⟩ = some (.slice a1_1 n1_1 c1_1) ∧ W.cell? ⟨w.heap.size + 1, 5, none⟩ = some (.slice a1_2 n1_2 c1_2) ∧ W.cell? ⟨w.heap.size + 1, 6, none⟩ = some (.slice a1_3 n1_3 c1_3) ∧ W.cell? ⟨w.heap.size + 1, 7, none⟩ = some (.int .i64 s1_7) ∧ W.cell? ⟨w5.heap.size, 0, none⟩ = some (.int .i64 s1_0) ∧ W.cell? ⟨w5.heap.size, 1, none⟩ = some (.int .i64 s1_1) ∧ W.cell? ⟨w5.heap.size, 2, none⟩ = some (.slice (some ⟨g5_0, 0, none⟩) n1_0 n1_0) ∧ W.cell? ⟨w5.heap.size, 3, none⟩ = some (.int .i64 s1_3) ∧ W.cell? ⟨w5.heap.size, 4, none⟩ = some (.slice (some ⟨g5_1, 0, none⟩) n1_1 n1_1) ∧ W.cell? ⟨w5.heap.size, 5, none⟩ = some (.slice (some ⟨g5_2, 0, none⟩) n1_2 n1_2) ∧ W.cell? ⟨w5.heap.size, 6, none⟩ = some (.slice (some ⟨g5_3, 0, none⟩) n1_3 n1_3) ∧ W.cell? ⟨w5.heap.size, 7, none⟩ = some (.int .i64 s1_7) ∧ Below w7.heap.size w7 W) → Calls Try.prog 14 #[.agg #[.int .i64 s1_0, .int .i64 s1_1, .slice a1_0 n1_0 c1_0, .int .i64 s1_3, .slice a1_1 n1_1 c1_1, .slice a1_2 n1_2 c1_2, .slice a1_3 n1_3 c1_3, .int .i64 s1_7]] W fun e w' => (∃ q0 q1 q2 q3, e = .returned (.agg #[.int .i64 s1_0, .int .i64 s1_1, .slice (some ⟨q0, 0, none⟩) n1_0 n1_0, .int .i64 s1_3, .slice (some ⟨q1, 0, none⟩) n1_1 n1_1, .slice (some ⟨q2, 0, none⟩) n1_2 n1_2, .slice (some ⟨q3, 0, none⟩) n1_3 n1_3, .int .i64 s1_7]) ∧ Lst PartD.cels 4 w' (some ⟨q0, 0, none⟩) n1_0 l1_0 ∧ Lst HeldD.cels 3 w' (some ⟨q1, 0, none⟩) n1_1 l1_1 ∧ Bs w' (some ⟨q2, 0, none⟩) n1_2 l1_2 ∧ Lst bytC 1 w' (some ⟨q3, 0, none⟩) n1_3 l1_3) ∧ w'.cell? ⟨w.heap.size + 1, 0, none⟩ = some (.int .i64 s1_0) ∧ w'.cell? ⟨w.heap.size + 1, 1, none⟩ = some (.int .i64 s1_1) ∧ w'.cell? ⟨w.heap.size + 1, 2, none⟩ = some (.slice a1_0 n1_0 c1_0) ∧ w'.cell? ⟨w.heap.size + 1, 3, none⟩ = some (.int .i64 s1_3) ∧ w'.cell? ⟨w.heap.size + 1, 4, none⟩ = some (.slice a1_1 n1_1 c1_1) ∧ w'.cell? ⟨w.heap.size + 1, 5, none⟩ = some (.slice a1_2 n1_2 c1_2) ∧ w'.cell? ⟨w.heap.size + 1, 6, none⟩ = some (.slice a1_3 n1_3 c1_3) ∧ w'.cell? ⟨w.heap.size + 1, 7, none⟩ = some (.int .i64 s1_7) ∧ w'.cell? ⟨w5.heap.size, 0, none⟩ = some (.int .i64 s1_0) ∧ w'.cell? ⟨w5.heap.size, 1, none⟩ = some (.int .i64 s1_1) ∧ w'.cell? ⟨w5.heap.size, 2, none⟩ = some (.slice (some ⟨g5_0, 0, none⟩) n1_0 n1_0) ∧ w'.cell? ⟨w5.heap.size, 3, none⟩ = some (.int .i64 s1_3) ∧ w'.cell? ⟨w5.heap.size, 4, none⟩ = some (.slice (some ⟨g5_1, 0, none⟩) n1_1 n1_1) ∧ w'.cell? ⟨w5.heap.size, 5, none⟩ = some (.slice (some ⟨g5_2, 0, none⟩) n1_2 n1_2) ∧ w'.cell? ⟨w5.heap.size, 6, none⟩ = some (.slice (some ⟨g5_3, 0, none⟩) n1_3 n1_3) ∧ w'.cell? ⟨w5.heap.size, 7, none⟩ = some (.int .i64 s1_7) ∧ Below w7.heap.size w7 w') := by
    refine ⟨fun W ⟨y0, y1, y2, y3, y4, y5, y6, y7, y8, y9, y10, y11, y12, y13, y14, y15, y16⟩ => (G1.out W (ac B7 y16)).mono ?_⟩
    rintro e w' ⟨⟨q0, q1, q2, q3, rfl, R⟩, hb⟩
    have hc := fun (b i : Nat) (h : b < w7.heap.size) => hb.cell (p := ⟨b, i, none⟩) (Nat.lt_of_lt_of_le h y16.size)
    have OR := R
    obtain ⟨_, _, _, _, _, OR_0, ⟨_, _, _, _, _, OR_1, OR_2⟩⟩ := OR
    have OR_0_0 := OR_0
    replace OR_0_0 := Lo.rows OR_0_0
    obtain ⟨_, _, _, _, _, OR_1_0, OR_1_1⟩ := OR_1
    replace OR_1_0 := Lo.rows OR_1_0
    replace OR_1_1 := Bo.bs OR_1_1
    replace OR_2 := Lo.rows OR_2
    exact ⟨⟨q0, q1, q2, q3, rfl, OR_0_0, OR_1_0, OR_1_1, OR_2⟩, (hc (w.heap.size + 1) 0 sl0).trans y0, (hc (w.heap.size + 1) 1 sl0).trans y1, (hc (w.heap.size + 1) 2 sl0).trans y2, (hc (w.heap.size + 1) 3 sl0).trans y3, (hc (w.heap.size + 1) 4 sl0).trans y4, (hc (w.heap.size + 1) 5 sl0).trans y5, (hc (w.heap.size + 1) 6 sl0).trans y6, (hc (w.heap.size + 1) 7 sl0).trans y7, (hc (w5.heap.size) 0 sl1).trans y8, (hc (w5.heap.size) 1 sl1).trans y9, (hc (w5.heap.size) 2 sl1).trans y10, (hc (w5.heap.size) 3 sl1).trans y11, (hc (w5.heap.size) 4 sl1).trans y12, (hc (w5.heap.size) 5 sl1).trans y13, (hc (w5.heap.size) 6 sl1).trans y14, (hc (w5.heap.size) 7 sl1).trans y15, ac y16 hb⟩
  have OX := X1
  obtain ⟨_, _, _, _, _, OX_0, ⟨_, _, _, _, _, OX_1, OX_2⟩⟩ := OX
  have OX_0_0 := OX_0
  replace OX_0_0 := Lo.rows OX_0_0
  obtain ⟨_, _, _, _, _, OX_1_0, OX_1_1⟩ := OX_1
  replace OX_1_0 := Lo.rows OX_1_0
  replace OX_1_1 := Bo.bs OX_1_1
  replace OX_2 := Lo.rows OX_2
  have GB : Shut (∀ (q0 q1 q2 q3 : Nat) (W : World), (W.cell? ⟨w.heap.size + 1, 0, none⟩ = some (.int .i64 s1_0) ∧ W.cell? ⟨w.heap.size + 1, 1, none⟩ = some (.int .i64 s1_1) ∧ W.cell? ⟨w.heap.size + 1, 2, none⟩ = some (.slice a1_0 n1_0 c1_0) ∧ W.cell? ⟨w.heap.size + 1, 3, none⟩ = some (.int .i64 s1_3) ∧ W.cell? ⟨w.heap.size + 1, 4, none⟩ = some (.slice a1_1 n1_1 c1_1) ∧ W.cell? ⟨w.heap.size + 1, 5, none⟩ = some (.slice a1_2 n1_2 c1_2) ∧ W.cell? ⟨w.heap.size + 1, 6, none⟩ = some (.slice a1_3 n1_3 c1_3) ∧ W.cell? ⟨w.heap.size + 1, 7, none⟩ = some (.int .i64 s1_7) ∧ W.cell? ⟨w5.heap.size, 0, none⟩ = some (.int .i64 s1_0) ∧ W.cell? ⟨w5.heap.size, 1, none⟩ = some (.int .i64 s1_1) ∧ W.cell? ⟨w5.heap.size, 2, none⟩ = some (.slice (some ⟨g5_0, 0, none⟩) n1_0 n1_0) ∧ W.cell? ⟨w5.heap.size, 3, none⟩ = some (.int .i64 s1_3) ∧ W.cell? ⟨w5.heap.size, 4, none⟩ = some (.slice (some ⟨g5_1, 0, none⟩) n1_1 n1_1) ∧ W.cell? ⟨w5.heap.size, 5, none⟩ = some (.slice (some ⟨g5_2, 0, none⟩) n1_2 n1_2) ∧ W.cell? ⟨w5.heap.size, 6, none⟩ = some (.slice (some ⟨g5_3, 0, none⟩) n1_3 n1_3) ∧ W.cell? ⟨w5.heap.size, 7, none⟩ = some (.int .i64 s1_7) ∧ Below w7.heap.size w7 W) → Lst PartD.cels 4 W (some ⟨q0, 0, none⟩) n1_0 l1_0 → Lst HeldD.cels 3 W (some ⟨q1, 0, none⟩) n1_1 l1_1 → Bs W (some ⟨q2, 0, none⟩) n1_2 l1_2 → Lst bytC 1 W (some ⟨q3, 0, none⟩) n1_3 l1_3 → Calls Try.prog 16 #[.agg #[.int .i64 s1_0, .int .i64 s1_1, .slice (some ⟨g5_0, 0, none⟩) n1_0 n1_0, .int .i64 s1_3, .slice (some ⟨g5_1, 0, none⟩) n1_1 n1_1, .slice (some ⟨g5_2, 0, none⟩) n1_2 n1_2, .slice (some ⟨g5_3, 0, none⟩) n1_3 n1_3, .int .i64 s1_7], .agg #[.int .i64 s1_0, .int .i64 s1_1, .slice (some ⟨q0, 0, none⟩) n1_0 n1_0, .int .i64 s1_3, .slice (some ⟨q1, 0, none⟩) n1_1 n1_1, .slice (some ⟨q2, 0, none⟩) n1_2 n1_2, .slice (some ⟨q3, 0, none⟩) n1_3 n1_3, .int .i64 s1_7]] W fun e w' => e = .returned (.bool true) ∧ w'.cell? ⟨w.heap.size + 1, 0, none⟩ = some (.int .i64 s1_0) ∧ w'.cell? ⟨w.heap.size + 1, 1, none⟩ = some (.int .i64 s1_1) ∧ w'.cell? ⟨w.heap.size + 1, 2, none⟩ = some (.slice a1_0 n1_0 c1_0) ∧ w'.cell? ⟨w.heap.size + 1, 3, none⟩ = some (.int .i64 s1_3) ∧ w'.cell? ⟨w.heap.size + 1, 4, none⟩ = some (.slice a1_1 n1_1 c1_1) ∧ w'.cell? ⟨w.heap.size + 1, 5, none⟩ = some (.slice a1_2 n1_2 c1_2) ∧ w'.cell? ⟨w.heap.size + 1, 6, none⟩ = some (.slice a1_3 n1_3 c1_3) ∧ w'.cell? ⟨w.heap.size + 1, 7, none⟩ = some (.int .i64 s1_7) ∧ w'.cell? ⟨w5.heap.size, 0, none⟩ = some (.int .i64 s1_0) ∧ w'.cell? ⟨w5.heap.size, 1, none⟩ = some (.int .i64 s1_1) ∧ w'.cell? ⟨w5.heap.size, 2, none⟩ = some (.slice (some ⟨g5_0, 0, none⟩) n1_0 n1_0) ∧ w'.cell? ⟨w5.heap.size, 3, none⟩ = some (.int .i64 s1_3) ∧ w'.cell? ⟨w5.heap.size, 4, none⟩ = some (.slice (some ⟨g5_1, 0, none⟩) n1_1 n1_1) ∧ w'.cell? ⟨w5.heap.size, 5, none⟩ = some (.slice (some ⟨g5_2, 0, none⟩) n1_2 n1_2) ∧ w'.cell? ⟨w5.heap.size, 6, none⟩ = some (.slice (some ⟨g5_3, 0, none⟩) n1_3 n1_3) ∧ w'.cell? ⟨w5.heap.size, 7, none⟩ = some (.int .i64 s1_7) ∧ Below w7.heap.size w7 w') := by
    refine ⟨fun q0 q1 q2 q3 W ⟨y0, y1, y2, y3, y4, y5, y6, y7, y8, y9, y10, y11, y12, y13, y14, y15, y16⟩ p0 p1 p2 p3 => (eqEnd_any s1_0 s1_1 s1_3 s1_7 _ _ _ _ _ _ _ _ _ _ _ _ _ _ _ _ _ _ _ _ _ _ _ _ W (OX_0_0.below y16) p0 (OX_1_0.below y16) p1 (OX_1_1.below y16) p2 (OX_2.below y16) p3 (by omega) (fun e he => by have := b1_0 e he; omega) (by omega) (fun e he => by have := b1_1 e he; omega) (by omega) (by omega) (fun e he => by have := b1_3 e he; omega)).mono ?_⟩
    rintro e w' ⟨rfl, hb⟩
    have hc := fun (b i : Nat) (h : b < w7.heap.size) => hb.cell (p := ⟨b, i, none⟩) (Nat.lt_of_lt_of_le h y16.size)
    exact ⟨rfl, (hc (w.heap.size + 1) 0 sl0).trans y0, (hc (w.heap.size + 1) 1 sl0).trans y1, (hc (w.heap.size + 1) 2 sl0).trans y2, (hc (w.heap.size + 1) 3 sl0).trans y3, (hc (w.heap.size + 1) 4 sl0).trans y4, (hc (w.heap.size + 1) 5 sl0).trans y5, (hc (w.heap.size + 1) 6 sl0).trans y6, (hc (w.heap.size + 1) 7 sl0).trans y7, (hc (w5.heap.size) 0 sl1).trans y8, (hc (w5.heap.size) 1 sl1).trans y9, (hc (w5.heap.size) 2 sl1).trans y10, (hc (w5.heap.size) 3 sl1).trans y11, (hc (w5.heap.size) 4 sl1).trans y12, (hc (w5.heap.size) 5 sl1).trans y13, (hc (w5.heap.size) 6 sl1).trans y14, (hc (w5.heap.size) 7 sl1).trans y15, ac y16 hb⟩
  clear OX_0_0 OX_1_0 OX_1_1 OX_2
  go_wp2_with fail
  go_region_held3 (fun W => W.cell? ⟨w.heap.size + 1, 0, none⟩ = some (.int .i64 s1_0) ∧ W.cell? ⟨w.heap.size + 1, 1, none⟩ = some (.int .i64 s1_1) ∧ W.cell? ⟨w.heap.size + 1, 2, none⟩ = some (.slice a1_0 n1_0 c1_0) ∧ W.cell? ⟨w.heap.size + 1, 3, none⟩ = some (.int .i64 s1_3) ∧ W.cell? ⟨w.heap.size + 1, 4, none⟩ = some (.slice a1_1 n1_1 c1_1) ∧ W.cell? ⟨w.heap.size + 1, 5, none⟩ = some (.slice a1_2 n1_2 c1_2) ∧ W.cell? ⟨w.heap.size + 1, 6, none⟩ = some (.slice a1_3 n1_3 c1_3) ∧ W.cell? ⟨w.heap.size + 1, 7, none⟩ = some (.int .i64 s1_7) ∧ W.cell? ⟨w5.heap.size, 0, none⟩ = some (.int .i64 s1_0) ∧ W.cell? ⟨w5.heap.size, 1, none⟩ = some (.int .i64 s1_1) ∧ W.cell? ⟨w5.heap.size, 2, none⟩ = some (.slice (some ⟨g5_0, 0, none⟩) n1_0 n1_0) ∧ W.cell? ⟨w5.heap.size, 3, none⟩ = some (.int .i64 s1_3) ∧ W.cell? ⟨w5.heap.size, 4, none⟩ = some (.slice (some ⟨g5_1, 0, none⟩) n1_1 n1_1) ∧ W.cell? ⟨w5.heap.size, 5, none⟩ = some (.slice (some ⟨g5_2, 0, none⟩) n1_2 n1_2) ∧ W.cell? ⟨w5.heap.size, 6, none⟩ = some (.slice (some ⟨g5_3, 0, none⟩) n1_3 n1_3) ∧ W.cell? ⟨w5.heap.size, 7, none⟩ = some (.int .i64 s1_7) ∧ Below w7.heap.size w7 W)
    (first | (exact ⟨by assumption, by assumption, by assumption, by assumption, by assumption, by assumption, by assumption, by assumption, by assumption, by assumption, by assumption, by assumption, by assumption, by assumption, by assumption, by assumption, by assumption⟩) | (exact ⟨x0, x1, x2, x3, x4, x5, x6, x7, xx0, xx1, xx2, xx3, xx4, xx5, xx6, xx7, hWW.drew⟩) | go_keep)
    (first
      | (go_at_call 14; refine (GA.out _ ?_).mono ?_; (first | assumption | (simp [*]; done)); rintro e w8 ⟨⟨ee0, ee1, ee2, ee3, rfl, pp0, pp1, pp2, pp3⟩, y0, y1, y2, y3, y4, y5, y6, y7, y8, y9, y10, y11, y12, y13, y14, y15, y16⟩)
      | (go_at_call 16; refine (GB.out _ _ _ _ _ ?_ ?_ ?_ ?_ ?_).mono ?_; (first | assumption | (simp [*]; done)); assumption; assumption; assumption; assumption; rintro e w8 ⟨rfl, y0, y1, y2, y3, y4, y5, y6, y7, y8, y9, y10, y11, y12, y13, y14, y15, y16⟩))
  clear GA GB hWW sl0 sl1 lS lX y0 y1 y2 y3 y4 y5 y6 y7 y8 y9 y10 y11 y12 y13 y14 y15
  clear x0 x1 x2 x3 x4 x5 x6 x7
  clear xx0 xx1 xx2 xx3 xx4 xx5 xx6 xx7
  have z8 := y16.size
  replace S0 := S0.below y16 S0.lt
  replace S1 := S1.below y16 S1.lt
  replace X0 := ((okP _ _ _).sep (((okH _ _ _).sep (okR _ _ _)).sep (okB _ _ _))).below X0 y16
  replace XB0 := XB0.below y16 XB0.lt
  replace X1 := ((okP _ _ _).sep (((okH _ _ _).sep (okR _ _ _)).sep (okB _ _ _))).below X1 y16
  replace XB1 := XB1.below y16 XB1.lt
  have B8 := ac B7 y16
  clear y16 B7
  go_wp2
  go_ret
  exact ⟨rfl, B8⟩

theorem exactSameEnds_all (s0_0 : Int) (s0_1 : Int) (s0_3 : Int) (s0_7 : Int) (s1_0 : Int) (s1_1 : Int) (s1_3 : Int) (s1_7 : Int) (a0_0 : Option Addr) (n0_0 c0_0 : Nat) (l0_0 : List PartD) (a0_1 : Option Addr) (n0_1 c0_1 : Nat) (l0_1 : List HeldD) (a0_2 : Option Addr) (n0_2 c0_2 : Nat) (l0_2 : List Int) (a0_3 : Option Addr) (n0_3 c0_3 : Nat) (l0_3 : List (List Int)) (a1_0 : Option Addr) (n1_0 c1_0 : Nat) (l1_0 : List PartD) (a1_1 : Option Addr) (n1_1 c1_1 : Nat) (l1_1 : List HeldD) (a1_2 : Option Addr) (n1_2 c1_2 : Nat) (l1_2 : List Int) (a1_3 : Option Addr) (n1_3 c1_3 : Nat) (l1_3 : List (List Int)) (w : World) (h0_0 : Lst PartD.cels 4 w a0_0 n0_0 l0_0) (h0_1 : Lst HeldD.cels 3 w a0_1 n0_1 l0_1) (h0_2 : Bs w a0_2 n0_2 l0_2) (h0_3 : Lst bytC 1 w a0_3 n0_3 l0_3) (h1_0 : Lst PartD.cels 4 w a1_0 n1_0 l1_0) (h1_1 : Lst HeldD.cels 3 w a1_1 n1_1 l1_1) (h1_2 : Bs w a1_2 n1_2 l1_2) (h1_3 : Lst bytC 1 w a1_3 n1_3 l1_3) (m0_0 : n0_0 ≤ 9223372036854775807) (mb0_0 : ∀ e ∈ l0_0, e.f0.length ≤ 9223372036854775807) (m0_1 : n0_1 ≤ 9223372036854775807) (mb0_1 : ∀ e ∈ l0_1, e.f1.length ≤ 9223372036854775807) (m0_2 : n0_2 ≤ 9223372036854775807) (m0_3 : n0_3 ≤ 9223372036854775807) (mb0_3 : ∀ e ∈ l0_3, e.length ≤ 9223372036854775807) (m1_0 : n1_0 ≤ 9223372036854775807) (mb1_0 : ∀ e ∈ l1_0, e.f0.length ≤ 9223372036854775807) (m1_1 : n1_1 ≤ 9223372036854775807) (mb1_1 : ∀ e ∈ l1_1, e.f1.length ≤ 9223372036854775807) (m1_2 : n1_2 ≤ 9223372036854775807) (m1_3 : n1_3 ≤ 9223372036854775807) (mb1_3 : ∀ e ∈ l1_3, e.length ≤ 9223372036854775807) (hall :  totEnd n0_0 l0_0 n0_1 l0_1 n0_2 n0_3 l0_3 + totEnd n1_0 l1_0 n1_1 l1_1 n1_2 n1_3 l1_3 ≤ 1048576 → ∃ (Z0 : Bool) ,  ∃ (P : World → Prop), P w ∧ (∀ W W' : World, Below W.heap.size W W' → P W → P W') ∧ Shut (∀ (g0_0 g0_1 g0_2 g0_3 g1_0 g1_1 g1_2 g1_3 : Nat) (W : World) (_ : Lst PartD.cels 4 W (some ⟨g0_0, 0, none⟩) n0_0 l0_0) (_ : Lst HeldD.cels 3 W (some ⟨g0_1, 0, none⟩) n0_1 l0_1) (_ : Bs W (some ⟨g0_2, 0, none⟩) n0_2 l0_2) (_ : Lst bytC 1 W (some ⟨g0_3, 0, none⟩) n0_3 l0_3) (_ : Lst PartD.cels 4 W (some ⟨g1_0, 0, none⟩) n1_0 l1_0) (_ : Lst HeldD.cels 3 W (some ⟨g1_1, 0, none⟩) n1_1 l1_1) (_ : Bs W (some ⟨g1_2, 0, none⟩) n1_2 l1_2) (_ : Lst bytC 1 W (some ⟨g1_3, 0, none⟩) n1_3 l1_3), Calls Try.prog 28 #[.agg #[.int .i64 s0_0, .int .i64 s0_1, .slice (some ⟨g0_0, 0, none⟩) n0_0 n0_0, .int .i64 s0_3, .slice (some ⟨g0_1, 0, none⟩) n0_1 n0_1, .slice (some ⟨g0_2, 0, none⟩) n0_2 n0_2, .slice (some ⟨g0_3, 0, none⟩) n0_3 n0_3, .int .i64 s0_7], .agg #[.int .i64 s1_0, .int .i64 s1_1, .slice (some ⟨g1_0, 0, none⟩) n1_0 n1_0, .int .i64 s1_3, .slice (some ⟨g1_1, 0, none⟩) n1_1 n1_1, .slice (some ⟨g1_2, 0, none⟩) n1_2 n1_2, .slice (some ⟨g1_3, 0, none⟩) n1_3 n1_3, .int .i64 s1_7]] W (fun e w' => e = .returned (.bool Z0) ∧ Below W.heap.size W w')) ∧ Shut (∀ (g0_0 g0_1 g0_2 g0_3 g1_0 g1_1 g1_2 g1_3 : Nat) (W : World) (_ : P W) (_ : Lst PartD.cels 4 W (some ⟨g0_0, 0, none⟩) n0_0 l0_0) (_ : Lst HeldD.cels 3 W (some ⟨g0_1, 0, none⟩) n0_1 l0_1) (_ : Bs W (some ⟨g0_2, 0, none⟩) n0_2 l0_2) (_ : Lst bytC 1 W (some ⟨g0_3, 0, none⟩) n0_3 l0_3) (_ : Lst PartD.cels 4 W (some ⟨g1_0, 0, none⟩) n1_0 l1_0) (_ : Lst HeldD.cels 3 W (some ⟨g1_1, 0, none⟩) n1_1 l1_1) (_ : Bs W (some ⟨g1_2, 0, none⟩) n1_2 l1_2) (_ : Lst bytC 1 W (some ⟨g1_3, 0, none⟩) n1_3 l1_3), Calls Try.prog 29 #[.agg #[.int .i64 s0_0, .int .i64 s0_1, .slice (some ⟨g0_0, 0, none⟩) n0_0 n0_0, .int .i64 s0_3, .slice (some ⟨g0_1, 0, none⟩) n0_1 n0_1, .slice (some ⟨g0_2, 0, none⟩) n0_2 n0_2, .slice (some ⟨g0_3, 0, none⟩) n0_3 n0_3, .int .i64 s0_7], .agg #[.int .i64 s1_0, .int .i64 s1_1, .slice (some ⟨g1_0, 0, none⟩) n1_0 n1_0, .int .i64 s1_3, .slice (some ⟨g1_1, 0, none⟩) n1_1 n1_1, .slice (some ⟨g1_2, 0, none⟩) n1_2 n1_2, .slice (some ⟨g1_3, 0, none⟩) n1_3 n1_3, .int .i64 s1_7]] W (fun e w' => e = .returned (.bool Z0) ∧ Below W.heap.size W w'))) :
    Calls Try.prog 6 #[.agg #[.int .i64 s0_0, .int .i64 s0_1, .slice a0_0 n0_0 c0_0, .int .i64 s0_3, .slice a0_1 n0_1 c0_1, .slice a0_2 n0_2 c0_2, .slice a0_3 n0_3 c0_3, .int .i64 s0_7], .agg #[.int .i64 s1_0, .int .i64 s1_1, .slice a1_0 n1_0 c1_0, .int .i64 s1_3, .slice a1_1 n1_1 c1_1, .slice a1_2 n1_2 c1_2, .slice a1_3 n1_3 c1_3, .int .i64 s1_7]] w fun e w' => e = .returned (.bool true) ∧ Below w.heap.size w w' := by
  by_cases hz0 : totEnd n0_0 l0_0 n0_1 l0_1 n0_2 n0_3 l0_3 ≤ 1048576
  rotate_left
  · clear hall
    have hq0 : leftC 1048576 (totEnd n0_0 l0_0 n0_1 l0_1 n0_2 n0_3 l0_3) = -1 := by unfold leftC; rw [if_pos (by omega)]
    have cz0 := fun W (b : Below w.heap.size w W) => szEnd_any s0_0 s0_1 s0_3 s0_7 a0_0 n0_0 c0_0 l0_0 a0_1 n0_1 c0_1 l0_1 a0_2 n0_2 c0_2 l0_2 a0_3 n0_3 c0_3 l0_3 (1048576) W (h0_0.below b) (h0_1.below b) (h0_2.below b) (h0_3.below b) (by omega) (by omega) m0_0 mb0_0 m0_1 mb0_1 m0_2 m0_3 mb0_3
    rw [hq0] at cz0
    clear hq0
    have S0 := Stc.new w 31 [.int .i64 s0_0, .int .i64 s0_1, .slice a0_0 n0_0 c0_0, .int .i64 s0_3, .slice a0_1 n0_1 c0_1, .slice a0_2 n0_2 c0_2, .slice a0_3 n0_3 c0_3, .int .i64 s0_7] _ rfl
    have S1 := Stc.new (w.alloc (.cells #[.int .i64 s0_0, .int .i64 s0_1, .slice a0_0 n0_0 c0_0, .int .i64 s0_3, .slice a0_1 n0_1 c0_1, .slice a0_2 n0_2 c0_2, .slice a0_3 n0_3 c0_3, .int .i64 s0_7] 31)) 31 [.int .i64 s1_0, .int .i64 s1_1, .slice a1_0 n1_0 c1_0, .int .i64 s1_3, .slice a1_1 n1_1 c1_1, .slice a1_2 n1_2 c1_2, .slice a1_3 n1_3 c1_3, .int .i64 s1_7] _ rfl
    replace S0 := S0.alloc (.cells #[.int .i64 s1_0, .int .i64 s1_1, .slice a1_0 n1_0 c1_0, .int .i64 s1_3, .slice a1_1 n1_1 c1_1, .slice a1_2 n1_2 c1_2, .slice a1_3 n1_3 c1_3, .int .i64 s1_7] 31)
    have B0 := (ab (ab (Below.refl _ w) (.cells #[.int .i64 s0_0, .int .i64 s0_1, .slice a0_0 n0_0 c0_0, .int .i64 s0_3, .slice a0_1 n0_1 c0_1, .slice a0_2 n0_2 c0_2, .slice a0_3 n0_3 c0_3, .int .i64 s0_7] 31)) (.cells #[.int .i64 s1_0, .int .i64 s1_1, .slice a1_0 n1_0 c1_0, .int .i64 s1_3, .slice a1_1 n1_1 c1_1, .slice a1_2 n1_2 c1_2, .slice a1_3 n1_3 c1_3, .int .i64 s1_7] 31))
    simp only [World.size_alloc] at S1
    go_enter Try.func6, Try.ntmps6
    have x0 := S0.cell (i := 0) rfl
    have x1 := S0.cell (i := 1) rfl
    have x2 := S0.cell (i := 2) rfl
    have x3 := S0.cell (i := 3) rfl
    have x4 := S0.cell (i := 4) rfl
    have x5 := S0.cell (i := 5) rfl
    have x6 := S0.cell (i := 6) rfl
    have x7 := S0.cell (i := 7) rfl
    go_wp2_with fail
    refine (cz0 _ B0).mono ?_
    rintro e w1 ⟨rfl, b1⟩
    clear x0 x1 x2 x3 x4 x5 x6 x7
    replace S0 := S0.below b1 S0.lt
    replace S1 := S1.below b1 S1.lt
    have B1_ := ac B0 b1
    go_wp2
    go_ret
    exact ⟨rfl, B1_⟩
  by_cases hz1 : totEnd n0_0 l0_0 n0_1 l0_1 n0_2 n0_3 l0_3 + totEnd n1_0 l1_0 n1_1 l1_1 n1_2 n1_3 l1_3 ≤ 1048576
  rotate_left
  · clear hall
    have hq0 : leftC 1048576 (totEnd n0_0 l0_0 n0_1 l0_1 n0_2 n0_3 l0_3) = 1048576 - ((totEnd n0_0 l0_0 n0_1 l0_1 n0_2 n0_3 l0_3 : Nat) : Int) := by unfold leftC; rw [if_neg (by omega)]
    have cz0 := fun W (b : Below w.heap.size w W) => szEnd_any s0_0 s0_1 s0_3 s0_7 a0_0 n0_0 c0_0 l0_0 a0_1 n0_1 c0_1 l0_1 a0_2 n0_2 c0_2 l0_2 a0_3 n0_3 c0_3 l0_3 (1048576) W (h0_0.below b) (h0_1.below b) (h0_2.below b) (h0_3.below b) (by omega) (by omega) m0_0 mb0_0 m0_1 mb0_1 m0_2 m0_3 mb0_3
    rw [hq0] at cz0
    clear hq0
    obtain ⟨lf0, hlf0⟩ : ∃ x, x = 1048576 - ((totEnd n0_0 l0_0 n0_1 l0_1 n0_2 n0_3 l0_3 : Nat) : Int) := ⟨_, rfl⟩
    rw [← hlf0] at cz0
    have lp0 : ¬ lf0 < 0 := by omega
    have hq1 : leftC lf0 (totEnd n1_0 l1_0 n1_1 l1_1 n1_2 n1_3 l1_3) = -1 := by unfold leftC; rw [if_pos (by omega)]
    have cz1 := fun W (b : Below w.heap.size w W) => szEnd_any s1_0 s1_1 s1_3 s1_7 a1_0 n1_0 c1_0 l1_0 a1_1 n1_1 c1_1 l1_1 a1_2 n1_2 c1_2 l1_2 a1_3 n1_3 c1_3 l1_3 (lf0) W (h1_0.below b) (h1_1.below b) (h1_2.below b) (h1_3.below b) (by omega) (by omega) m1_0 mb1_0 m1_1 mb1_1 m1_2 m1_3 mb1_3
    rw [hq1] at cz1
    clear hq1
    replace hlf0 := Shut.mk hlf0
    have S0 := Stc.new w 31 [.int .i64 s0_0, .int .i64 s0_1, .slice a0_0 n0_0 c0_0, .int .i64 s0_3, .slice a0_1 n0_1 c0_1, .slice a0_2 n0_2 c0_2, .slice a0_3 n0_3 c0_3, .int .i64 s0_7] _ rfl
    have S1 := Stc.new (w.alloc (.cells #[.int .i64 s0_0, .int .i64 s0_1, .slice a0_0 n0_0 c0_0, .int .i64 s0_3, .slice a0_1 n0_1 c0_1, .slice a0_2 n0_2 c0_2, .slice a0_3 n0_3 c0_3, .int .i64 s0_7] 31)) 31 [.int .i64 s1_0, .int .i64 s1_1, .slice a1_0 n1_0 c1_0, .int .i64 s1_3, .slice a1_1 n1_1 c1_1, .slice a1_2 n1_2 c1_2, .slice a1_3 n1_3 c1_3, .int .i64 s1_7] _ rfl
    replace S0 := S0.alloc (.cells #[.int .i64 s1_0, .int .i64 s1_1, .slice a1_0 n1_0 c1_0, .int .i64 s1_3, .slice a1_1 n1_1 c1_1, .slice a1_2 n1_2 c1_2, .slice a1_3 n1_3 c1_3, .int .i64 s1_7] 31)
    have B0 := (ab (ab (Below.refl _ w) (.cells #[.int .i64 s0_0, .int .i64 s0_1, .slice a0_0 n0_0 c0_0, .int .i64 s0_3, .slice a0_1 n0_1 c0_1, .slice a0_2 n0_2 c0_2, .slice a0_3 n0_3 c0_3, .int .i64 s0_7] 31)) (.cells #[.int .i64 s1_0, .int .i64 s1_1, .slice a1_0 n1_0 c1_0, .int .i64 s1_3, .slice a1_1 n1_1 c1_1, .slice a1_2 n1_2 c1_2, .slice a1_3 n1_3 c1_3, .int .i64 s1_7] 31))
    simp only [World.size_alloc] at S1
    go_enter Try.func6, Try.ntmps6
    have x0 := S0.cell (i := 0) rfl
    have x1 := S0.cell (i := 1) rfl
    have x2 := S0.cell (i := 2) rfl
    have x3 := S0.cell (i := 3) rfl
    have x4 := S0.cell (i := 4) rfl
    have x5 := S0.cell (i := 5) rfl
    have x6 := S0.cell (i := 6) rfl
    have x7 := S0.cell (i := 7) rfl
    go_wp2_with fail
    refine (cz0 _ B0).mono ?_
    rintro e w1 ⟨rfl, b1⟩
    clear x0 x1 x2 x3 x4 x5 x6 x7
    replace S0 := S0.below b1 S0.lt
    replace S1 := S1.below b1 S1.lt
    have B1_ := ac B0 b1
    have x0 := S1.cell (i := 0) rfl
    have x1 := S1.cell (i := 1) rfl
    have x2 := S1.cell (i := 2) rfl
    have x3 := S1.cell (i := 3) rfl
    have x4 := S1.cell (i := 4) rfl
    have x5 := S1.cell (i := 5) rfl
    have x6 := S1.cell (i := 6) rfl
    have x7 := S1.cell (i := 7) rfl
    go_wp2_with fail
    refine (cz1 _ B1_).mono ?_
    rintro e w2 ⟨rfl, b2⟩
    clear x0 x1 x2 x3 x4 x5 x6 x7
    replace S0 := S0.below b2 S0.lt
    replace S1 := S1.below b2 S1.lt
    have B2_ := ac B1_ b2
    go_wp2
    go_ret
    exact ⟨rfl, B2_⟩
  obtain ⟨Z0, P, hP, hkeep, Gs, Gi⟩ := hall hz1
  exact exactSameEnds_walk s0_0 s0_1 s0_3 s0_7 s1_0 s1_1 s1_3 s1_7 a0_0 n0_0 c0_0 l0_0 a0_1 n0_1 c0_1 l0_1 a0_2 n0_2 c0_2 l0_2 a0_3 n0_3 c0_3 l0_3 a1_0 n1_0 c1_0 l1_0 a1_1 n1_1 c1_1 l1_1 a1_2 n1_2 c1_2 l1_2 a1_3 n1_3 c1_3 l1_3 w h0_0 h0_1 h0_2 h0_3 h1_0 h1_1 h1_2 h1_3 hz1 Z0 P hP hkeep Gs Gi
end Go.Proofs.Ytjpnacgdefgalaa
