/- The walk of the exact law of SameSenders. -/
import Derived.Test.YtbelplonlcdahaaSndC
import Derived.Test.YtbelplonlcdahaaSndT
import Derived.Deep.RegionHeld3
import Derived.Deep.CutRange
namespace Go.Proofs.Ytbelplonlcdahaa
open Go.RowKit

set_option linter.unusedVariables false in
set_option maxRecDepth 100000 in
set_option maxHeartbeats 4000000 in
theorem exactSameSenders_walk (s0_0 : Int) (s1_0 : Int) (a0_0 : Option Addr) (n0_0 c0_0 : Nat) (l0_0 : List PartD) (a1_0 : Option Addr) (n1_0 c1_0 : Nat) (l1_0 : List PartD) (w : World) (h0_0 : Lst PartD.cels 4 w a0_0 n0_0 l0_0) (h1_0 : Lst PartD.cels 4 w a1_0 n1_0 l1_0)  (hsz : totSender n0_0 l0_0 + totSender n1_0 l1_0 ≤ 1048576) (Z0 : Bool)   (P : World → Prop) (hP : P w) (hkeep : ∀ W W' : World, Below W.heap.size W W' → P W → P W') (Gs : Shut (∀ (g0_0 g1_0 : Nat) (W : World) (_ : Lst PartD.cels 4 W (some ⟨g0_0, 0, none⟩) n0_0 l0_0) (_ : Lst PartD.cels 4 W (some ⟨g1_0, 0, none⟩) n1_0 l1_0), Calls Try.prog 25 #[.agg #[.int .i64 s0_0, .slice (some ⟨g0_0, 0, none⟩) n0_0 n0_0], .agg #[.int .i64 s1_0, .slice (some ⟨g1_0, 0, none⟩) n1_0 n1_0]] W (fun e w' => e = .returned (.bool Z0) ∧ Below W.heap.size W w'))) (Gi : Shut (∀ (g0_0 g1_0 : Nat) (W : World) (_ : P W) (_ : Lst PartD.cels 4 W (some ⟨g0_0, 0, none⟩) n0_0 l0_0) (_ : Lst PartD.cels 4 W (some ⟨g1_0, 0, none⟩) n1_0 l1_0), Calls Try.prog 22 #[.agg #[.int .i64 s0_0, .slice (some ⟨g0_0, 0, none⟩) n0_0 n0_0], .agg #[.int .i64 s1_0, .slice (some ⟨g1_0, 0, none⟩) n1_0 n1_0]] W (fun e w' => e = .returned (.bool Z0) ∧ Below W.heap.size W w'))) :
    Calls Try.prog 13 #[.agg #[.int .i64 s0_0, .slice a0_0 n0_0 c0_0], .agg #[.int .i64 s1_0, .slice a1_0 n1_0 c1_0]] w fun e w' => e = .returned (.bool true) ∧ Below w.heap.size w w' := by
  have HSZ : True := trivial
  have ts0 : totSender n0_0 l0_0 = n0_0 + sumE PartD.len l0_0 := rfl
  have ts1 : totSender n1_0 l1_0 = n1_0 + sumE PartD.len l1_0 := rfl
  have f0_0 : n0_0 ≤ 1048576 := by omega
  have b0_0 : ∀ e ∈ l0_0, e.f0.length ≤ 1048576 := fun e he => by have h1 : e.f0.length ≤ sumE PartD.len l0_0 := sumE_mem PartD.len he; omega
  have q0_0 : sumE PartD.wd l0_0 ≤ 10000000 := by have h1 := sumPartD_wd l0_0; have h2 := h0_0.len; omega
  have f1_0 : n1_0 ≤ 1048576 := by omega
  have b1_0 : ∀ e ∈ l1_0, e.f0.length ≤ 1048576 := fun e he => by have h1 : e.f0.length ≤ sumE PartD.len l1_0 := sumE_mem PartD.len he; omega
  have q1_0 : sumE PartD.wd l1_0 ≤ 10000000 := by have h1 := sumPartD_wd l1_0; have h2 := h1_0.len; omega
  have G0 := Shut.mk (fun W (b : Below w.heap.size w W) => toSender_any s0_0 a0_0 n0_0 c0_0 l0_0 W (h0_0.below b) f0_0 b0_0)
  have G1 := Shut.mk (fun W (b : Below w.heap.size w W) => toSender_any s1_0 a1_0 n1_0 c1_0 l1_0 W (h1_0.below b) f1_0 b1_0)
  have hq0 : leftC 1048576 (totSender n0_0 l0_0) = 1048576 - (((totSender n0_0 l0_0 : Nat) : Int) : Int) := by unfold leftC; rw [if_neg (by omega)]
  have cz0 := fun W (b : Below w.heap.size w W) => szSender_any s0_0 a0_0 n0_0 c0_0 l0_0 (1048576) W (h0_0.below b) (by omega) (by omega) (by omega) (fun e he => by have := b0_0 e he; omega)
  rw [hq0] at cz0
  clear hq0
  obtain ⟨lf0, hlf0⟩ : ∃ x, x = 1048576 - ((totSender n0_0 l0_0 : Nat) : Int) := ⟨_, rfl⟩
  rw [← hlf0] at cz0
  have lp0 : ¬ lf0 < 0 := by omega
  have lm0 : lf0 ≤ 1048576 := by omega
  have hq1 : leftC lf0 (totSender n1_0 l1_0) = lf0 - (((totSender n1_0 l1_0 : Nat) : Int) : Int) := by unfold leftC; rw [if_neg (by omega)]
  have cz1 := fun W (b : Below w.heap.size w W) => szSender_any s1_0 a1_0 n1_0 c1_0 l1_0 (lf0) W (h1_0.below b) (by omega) (by omega) (by omega) (fun e he => by have := b1_0 e he; omega)
  rw [hq1] at cz1
  clear hq1
  obtain ⟨lf1, hlf1⟩ : ∃ x, x = lf0 - ((totSender n1_0 l1_0 : Nat) : Int) := ⟨_, rfl⟩
  rw [← hlf1] at cz1
  have lp1 : ¬ lf1 < 0 := by omega
  have lm1 : lf1 ≤ 1048576 := by omega
  clear hlf0 ts0
  clear hlf1 ts1
  clear h0_0 h1_0
  clear hsz
  have B0 := Below.refl w.heap.size w
  replace B0 := ab B0 (.cells #[.int .i64 s0_0, .slice a0_0 n0_0 c0_0] 70)
  have S0 := Stc.new w 70 [.int .i64 s0_0, .slice a0_0 n0_0 c0_0] _ rfl
  replace S0 := S0.alloc (.cells #[.int .i64 s1_0, .slice a1_0 n1_0 c1_0] 70)
  replace B0 := ab B0 (.cells #[.int .i64 s1_0, .slice a1_0 n1_0 c1_0] 70)
  have S1 := Stc.new (w.alloc (.cells #[.int .i64 s0_0, .slice a0_0 n0_0 c0_0] 70)) 70 [.int .i64 s1_0, .slice a1_0 n1_0 c1_0] _ rfl
  simp only [World.size_alloc] at S1
  go_enter Try.func13, Try.ntmps13
  have x0 := S0.cell (i := 0) rfl
  have x1 := S0.cell (i := 1) rfl
  go_wp2_with fail
  refine (cz0 _ B0).mono ?_
  rintro e w1 ⟨rfl, b1⟩
  clear x0 x1
  have z1 := b1.size
  simp only [World.size_alloc] at z1
  replace S0 := S0.below b1 S0.lt
  replace S1 := S1.below b1 S1.lt
  have B1 := ac B0 b1
  clear b1 B0
  have x0 := S1.cell (i := 0) rfl
  have x1 := S1.cell (i := 1) rfl
  go_wp2_with fail
  refine (cz1 _ B1).mono ?_
  rintro e w2 ⟨rfl, b2⟩
  clear x0 x1
  have z2 := b2.size
  replace S0 := S0.below b2 S0.lt
  replace S1 := S1.below b2 S1.lt
  have B2 := ac B1 b2
  clear b2 B1
  have x0_0 := S0.cell (i := 0) rfl
  have x0_1 := S0.cell (i := 1) rfl
  have x1_0 := S1.cell (i := 0) rfl
  have x1_1 := S1.cell (i := 1) rfl
  have lS0 := S0.lt
  have lS1 := S1.lt
  have hWW := Below.refl w2.heap.size w2
  have sl0 : w.heap.size < w2.heap.size := by first | assumption | omega
  have sl1 : w.heap.size + 1 < w2.heap.size := by first | assumption | omega
  have GX0 : Shut (∀ W : World, (W.cell? ⟨w.heap.size, 0, none⟩ = some (.int .i64 s0_0) ∧ W.cell? ⟨w.heap.size, 1, none⟩ = some (.slice a0_0 n0_0 c0_0) ∧ W.cell? ⟨w.heap.size + 1, 0, none⟩ = some (.int .i64 s1_0) ∧ W.cell? ⟨w.heap.size + 1, 1, none⟩ = some (.slice a1_0 n1_0 c1_0) ∧ Below w2.heap.size w2 W) → Calls Try.prog 45 #[.agg #[.int .i64 s0_0, .slice a0_0 n0_0 c0_0]] W fun e w' => (∃ q0 : Nat, e = .returned (.agg #[.int .i64 s0_0, .slice (some ⟨q0, 0, none⟩) n0_0 n0_0]) ∧ Lst PartD.cels 4 w' (some ⟨q0, 0, none⟩) n0_0 l0_0) ∧ Below W.heap.size W w' ∧ w'.cell? ⟨w.heap.size, 0, none⟩ = some (.int .i64 s0_0) ∧ w'.cell? ⟨w.heap.size, 1, none⟩ = some (.slice a0_0 n0_0 c0_0) ∧ w'.cell? ⟨w.heap.size + 1, 0, none⟩ = some (.int .i64 s1_0) ∧ w'.cell? ⟨w.heap.size + 1, 1, none⟩ = some (.slice a1_0 n1_0 c1_0) ∧ Below w2.heap.size w2 w') := by
    refine ⟨fun W ⟨y0, y1, y2, y3, y4⟩ => (G0.out W (ac B2 y4)).mono ?_⟩
    rintro e w' ⟨⟨q0, rfl, R⟩, hb⟩
    have OR := R
    have OR_0 := OR
    replace OR_0 := Lo.rows OR_0
    have hc := fun (b i : Nat) (h : b < w2.heap.size) => hb.cell (p := ⟨b, i, none⟩) (Nat.lt_of_lt_of_le h y4.size)
    exact ⟨⟨q0, rfl, OR_0⟩, hb, (hc (w.heap.size) 0 sl0).trans y0, (hc (w.heap.size) 1 sl0).trans y1, (hc (w.heap.size + 1) 0 sl1).trans y2, (hc (w.heap.size + 1) 1 sl1).trans y3, ac y4 hb⟩
  have GX1 : Shut (∀ W : World, (W.cell? ⟨w.heap.size, 0, none⟩ = some (.int .i64 s0_0) ∧ W.cell? ⟨w.heap.size, 1, none⟩ = some (.slice a0_0 n0_0 c0_0) ∧ W.cell? ⟨w.heap.size + 1, 0, none⟩ = some (.int .i64 s1_0) ∧ W.cell? ⟨w.heap.size + 1, 1, none⟩ = some (.slice a1_0 n1_0 c1_0) ∧ Below w2.heap.size w2 W) → Calls Try.prog 45 #[.agg #[.int .i64 s1_0, .slice a1_0 n1_0 c1_0]] W fun e w' => (∃ q0 : Nat, e = .returned (.agg #[.int .i64 s1_0, .slice (some ⟨q0, 0, none⟩) n1_0 n1_0]) ∧ Lst PartD.cels 4 w' (some ⟨q0, 0, none⟩) n1_0 l1_0) ∧ Below W.heap.size W w' ∧ w'.cell? ⟨w.heap.size, 0, none⟩ = some (.int .i64 s0_0) ∧ w'.cell? ⟨w.heap.size, 1, none⟩ = some (.slice a0_0 n0_0 c0_0) ∧ w'.cell? ⟨w.heap.size + 1, 0, none⟩ = some (.int .i64 s1_0) ∧ w'.cell? ⟨w.heap.size + 1, 1, none⟩ = some (.slice a1_0 n1_0 c1_0) ∧ Below w2.heap.size w2 w') := by
    refine ⟨fun W ⟨y0, y1, y2, y3, y4⟩ => (G1.out W (ac B2 y4)).mono ?_⟩
    rintro e w' ⟨⟨q0, rfl, R⟩, hb⟩
    have OR := R
    have OR_0 := OR
    replace OR_0 := Lo.rows OR_0
    have hc := fun (b i : Nat) (h : b < w2.heap.size) => hb.cell (p := ⟨b, i, none⟩) (Nat.lt_of_lt_of_le h y4.size)
    exact ⟨⟨q0, rfl, OR_0⟩, hb, (hc (w.heap.size) 0 sl0).trans y0, (hc (w.heap.size) 1 sl0).trans y1, (hc (w.heap.size + 1) 0 sl1).trans y2, (hc (w.heap.size + 1) 1 sl1).trans y3, ac y4 hb⟩
  have GF : Shut (∀ (g0_0 g1_0 : Nat) (W : World), (W.cell? ⟨w.heap.size, 0, none⟩ = some (.int .i64 s0_0) ∧ W.cell? ⟨w.heap.size, 1, none⟩ = some (.slice a0_0 n0_0 c0_0) ∧ W.cell? ⟨w.heap.size + 1, 0, none⟩ = some (.int .i64 s1_0) ∧ W.cell? ⟨w.heap.size + 1, 1, none⟩ = some (.slice a1_0 n1_0 c1_0) ∧ Below w2.heap.size w2 W) → Lst PartD.cels 4 W (some ⟨g0_0, 0, none⟩) n0_0 l0_0 → Lst PartD.cels 4 W (some ⟨g1_0, 0, none⟩) n1_0 l1_0 → Calls Try.prog 25 #[.agg #[.int .i64 s0_0, .slice (some ⟨g0_0, 0, none⟩) n0_0 n0_0], .agg #[.int .i64 s1_0, .slice (some ⟨g1_0, 0, none⟩) n1_0 n1_0]] W fun e w' => e = .returned (.bool Z0) ∧ w'.cell? ⟨w.heap.size, 0, none⟩ = some (.int .i64 s0_0) ∧ w'.cell? ⟨w.heap.size, 1, none⟩ = some (.slice a0_0 n0_0 c0_0) ∧ w'.cell? ⟨w.heap.size + 1, 0, none⟩ = some (.int .i64 s1_0) ∧ w'.cell? ⟨w.heap.size + 1, 1, none⟩ = some (.slice a1_0 n1_0 c1_0) ∧ Below w2.heap.size w2 w') := by
    refine ⟨fun g0_0 g1_0 W ⟨y0, y1, y2, y3, y4⟩ p0_0 p1_0 => (Gs.out g0_0 g1_0 W p0_0 p1_0).mono ?_⟩
    rintro e w' ⟨rfl, hb⟩
    have hc := fun (b i : Nat) (h : b < w2.heap.size) => hb.cell (p := ⟨b, i, none⟩) (Nat.lt_of_lt_of_le h y4.size)
    exact ⟨rfl, (hc (w.heap.size) 0 sl0).trans y0, (hc (w.heap.size) 1 sl0).trans y1, (hc (w.heap.size + 1) 0 sl1).trans y2, (hc (w.heap.size + 1) 1 sl1).trans y3, ac y4 hb⟩
  go_wp2_with fail
  go_region_held3 (fun W => W.cell? ⟨w.heap.size, 0, none⟩ = some (.int .i64 s0_0) ∧ W.cell? ⟨w.heap.size, 1, none⟩ = some (.slice a0_0 n0_0 c0_0) ∧ W.cell? ⟨w.heap.size + 1, 0, none⟩ = some (.int .i64 s1_0) ∧ W.cell? ⟨w.heap.size + 1, 1, none⟩ = some (.slice a1_0 n1_0 c1_0) ∧ Below w2.heap.size w2 W)
    (first | (exact ⟨by assumption, by assumption, by assumption, by assumption, by assumption⟩) | (exact ⟨x0_0, x0_1, x1_0, x1_1, hWW.drew⟩) | go_keep)
    (first
      | (go_at_call_of 45 a0_0; refine (GX0.out _ ?_).mono ?_; (first | assumption | (simp [*]; done)); rintro e w3 ⟨⟨ee0_0, rfl, pp0_0⟩, hh0, y0, y1, y2, y3, y4⟩)
      | (go_at_call_of 45 a1_0; refine (GX1.out _ ?_).mono ?_; (first | assumption | (simp [*]; done)); rintro e w3 ⟨⟨ee1_0, rfl, pp1_0⟩, hh1, y0, y1, y2, y3, y4⟩; replace pp0_0 := pp0_0.below hh1)
      | (go_at_call 25; refine (GF.out _ _ _ ?_ ?_ ?_).mono ?_; (first | assumption | (simp [*]; done)); (first | assumption | exact pp0_0); (first | assumption | exact pp1_0); rintro e w3 ⟨rfl, y0, y1, y2, y3, y4⟩))
  clear GF hWW GX0 GX1 sl0 lS0 sl1 lS1 y0 y1 y2 y3 hh0 pp0_0 hh1 pp1_0
  clear x0_0 x0_1
  clear x1_0 x1_1
  have z3 := y4.size
  replace S0 := S0.below y4 S0.lt
  replace S1 := S1.below y4 S1.lt
  have B3 := ac B2 y4
  clear y4 B2
  have x0 := S0.cell (i := 0) rfl
  have x1 := S0.cell (i := 1) rfl
  go_wp2_with fail
  refine (G0.out _ B3).mono ?_
  rintro e w4 ⟨⟨g4_0, rfl, X0⟩, b4⟩
  clear x0 x1
  have z4 := b4.size
  replace S0 := S0.below b4 S0.lt
  replace S1 := S1.below b4 S1.lt
  have B4 := ac B3 b4
  clear b4 B3
  replace S0 := S0.alloc (.cells #[.int .i64 s0_0, .slice (some ⟨g4_0, 0, none⟩) n0_0 n0_0] 26)
  replace S1 := S1.alloc (.cells #[.int .i64 s0_0, .slice (some ⟨g4_0, 0, none⟩) n0_0 n0_0] 26)
  replace X0 := (okP _ _ _).alloc X0 (.cells #[.int .i64 s0_0, .slice (some ⟨g4_0, 0, none⟩) n0_0 n0_0] 26)
  replace B4 := ab B4 (.cells #[.int .i64 s0_0, .slice (some ⟨g4_0, 0, none⟩) n0_0 n0_0] 26)
  have XB0 := Stc.new w4 26 [.int .i64 s0_0, .slice (some ⟨g4_0, 0, none⟩) n0_0 n0_0] _ rfl
  have x0 := S1.cell (i := 0) rfl
  have x1 := S1.cell (i := 1) rfl
  go_wp2_with fail
  refine (G1.out _ B4).mono ?_
  rintro e w5 ⟨⟨g5_0, rfl, X1⟩, b5⟩
  clear x0 x1
  simp only [World.size_alloc] at X1
  have z5 := b5.size
  simp only [World.size_alloc] at z5
  replace S0 := S0.below b5 S0.lt
  replace S1 := S1.below b5 S1.lt
  replace X0 := (okP _ _ _).below X0 b5
  replace XB0 := XB0.below b5 XB0.lt
  have B5 := ac B4 b5
  clear b5 B4
  replace S0 := S0.alloc (.cells #[.int .i64 s1_0, .slice (some ⟨g5_0, 0, none⟩) n1_0 n1_0] 26)
  replace S1 := S1.alloc (.cells #[.int .i64 s1_0, .slice (some ⟨g5_0, 0, none⟩) n1_0 n1_0] 26)
  replace X0 := (okP _ _ _).alloc X0 (.cells #[.int .i64 s1_0, .slice (some ⟨g5_0, 0, none⟩) n1_0 n1_0] 26)
  replace XB0 := XB0.alloc (.cells #[.int .i64 s1_0, .slice (some ⟨g5_0, 0, none⟩) n1_0 n1_0] 26)
  replace X1 := (okP _ _ _).alloc X1 (.cells #[.int .i64 s1_0, .slice (some ⟨g5_0, 0, none⟩) n1_0 n1_0] 26)
  replace B5 := ab B5 (.cells #[.int .i64 s1_0, .slice (some ⟨g5_0, 0, none⟩) n1_0 n1_0] 26)
  have XB1 := Stc.new w5 26 [.int .i64 s1_0, .slice (some ⟨g5_0, 0, none⟩) n1_0 n1_0] _ rfl
  have x0_0 := XB0.cell (i := 0) rfl
  have x0_1 := XB0.cell (i := 1) rfl
  have x1_0 := XB1.cell (i := 0) rfl
  have x1_1 := XB1.cell (i := 1) rfl
  have O0 := X0
  have O0_0 := O0
  replace O0_0 := Lo.rows O0_0
  have O1 := X1
  have O1_0 := O1
  replace O1_0 := Lo.rows O1_0
  have T1P := hkeep _ _ B5 hP
  go_wp2_with fail
  refine (Gi.out _ _ _ T1P O0_0 O1_0).mono ?_
  rintro e w6 ⟨rfl, b6⟩
  clear T1P O0_0 O1_0
  clear x0_0 x0_1
  clear x1_0 x1_1
  have z6 := b6.size
  simp only [World.size_alloc] at z6
  replace S0 := S0.below b6 S0.lt
  replace S1 := S1.below b6 S1.lt
  replace X0 := (okP _ _ _).below X0 b6
  replace XB0 := XB0.below b6 XB0.lt
  replace X1 := (okP _ _ _).below X1 b6
  replace XB1 := XB1.below b6 XB1.lt
  have B6 := ac B5 b6
  clear b6 B5
  have x0 := S0.cell (i := 0) rfl
  have x1 := S0.cell (i := 1) rfl
  have xx0 := XB0.cell (i := 0) rfl
  have xx1 := XB0.cell (i := 1) rfl
  have lS := S0.lt
  have lX := XB0.lt
  have hWW := Below.refl w6.heap.size w6
  have sl0 : w.heap.size < w6.heap.size := by first | assumption | omega
  have sl1 : w4.heap.size < w6.heap.size := by first | assumption | omega
  have GA : Shut (∀ W : World, (W.cell? ⟨w.heap.size, 0, none⟩ = some (.int .i64 s0_0) ∧ W.cell? ⟨w.heap.size, 1, none⟩ = some (.slice a0_0 n0_0 c0_0) ∧ W.cell? ⟨w4.heap.size, 0, none⟩ = some (.int .i64 s0_0) ∧ W.cell? ⟨w4.heap.size, 1, none⟩ = some (.slice (some ⟨g4_0, 0, none⟩) n0_0 n0_0) ∧ Below w6.heap.size w6 W) → Calls Try.prog 45 #[.agg #[.int .i64 s0_0, .slice a0_0 n0_0 c0_0]] W fun e w' => (∃ q0, e = .returned (.agg #[.int .i64 s0_0, .slice (some ⟨q0, 0, none⟩) n0_0 n0_0]) ∧ Lst PartD.cels 4 w' (some ⟨q0, 0, none⟩) n0_0 l0_0) ∧ w'.cell? ⟨w.heap.size, 0, none⟩ = some (.int .i64 s0_0) ∧ w'.cell? ⟨w.heap.size, 1, none⟩ = some (.slice a0_0 n0_0 c0_0) ∧ w'.cell? ⟨w4.heap.size, 0, none⟩ = some (.int .i64 s0_0) ∧ w'.cell? ⟨w4.heap.size, 1, none⟩ = some (.slice (some ⟨g4_0, 0, none⟩) n0_0 n0_0) ∧ Below w6.heap.size w6 w') := by
    refine ⟨fun W ⟨y0, y1, y2, y3, y4⟩ => (G0.out W (ac B6 y4)).mono ?_⟩
    rintro e w' ⟨⟨q0, rfl, R⟩, hb⟩
    have hc := fun (b i : Nat) (h : b < w6.heap.size) => hb.cell (p := ⟨b, i, none⟩) (Nat.lt_of_lt_of_le h y4.size)
    have OR := R
    have OR_0 := OR
    replace OR_0 := Lo.rows OR_0
    exact ⟨⟨q0, rfl, OR_0⟩, (hc (w.heap.size) 0 sl0).trans y0, (hc (w.heap.size) 1 sl0).trans y1, (hc (w4.heap.size) 0 sl1).trans y2, (hc (w4.heap.size) 1 sl1).trans y3, ac y4 hb⟩
  have OX := X0
  have OX_0 := OX
  replace OX_0 := Lo.rows OX_0
  have GB : Shut (∀ (q0 : Nat) (W : World), (W.cell? ⟨w.heap.size, 0, none⟩ = some (.int .i64 s0_0) ∧ W.cell? ⟨w.heap.size, 1, none⟩ = some (.slice a0_0 n0_0 c0_0) ∧ W.cell? ⟨w4.heap.size, 0, none⟩ = some (.int .i64 s0_0) ∧ W.cell? ⟨w4.heap.size, 1, none⟩ = some (.slice (some ⟨g4_0, 0, none⟩) n0_0 n0_0) ∧ Below w6.heap.size w6 W) → Lst PartD.cels 4 W (some ⟨q0, 0, none⟩) n0_0 l0_0 → Calls Try.prog 46 #[.agg #[.int .i64 s0_0, .slice (some ⟨g4_0, 0, none⟩) n0_0 n0_0], .agg #[.int .i64 s0_0, .slice (some ⟨q0, 0, none⟩) n0_0 n0_0]] W fun e w' => e = .returned (.bool true) ∧ w'.cell? ⟨w.heap.size, 0, none⟩ = some (.int .i64 s0_0) ∧ w'.cell? ⟨w.heap.size, 1, none⟩ = some (.slice a0_0 n0_0 c0_0) ∧ w'.cell? ⟨w4.heap.size, 0, none⟩ = some (.int .i64 s0_0) ∧ w'.cell? ⟨w4.heap.size, 1, none⟩ = some (.slice (some ⟨g4_0, 0, none⟩) n0_0 n0_0) ∧ Below w6.heap.size w6 w') := by
    refine ⟨fun q0 W ⟨y0, y1, y2, y3, y4⟩ p0 => (eqSender_any s0_0 _ _ _ _ _ _ W (OX_0.below y4) p0 (by omega) (fun e he => by have := b0_0 e he; omega)).mono ?_⟩
    rintro e w' ⟨rfl, hb⟩
    have hc := fun (b i : Nat) (h : b < w6.heap.size) => hb.cell (p := ⟨b, i, none⟩) (Nat.lt_of_lt_of_le h y4.size)
    exact ⟨rfl, (hc (w.heap.size) 0 sl0).trans y0, (hc (w.heap.size) 1 sl0).trans y1, (hc (w4.heap.size) 0 sl1).trans y2, (hc (w4.heap.size) 1 sl1).trans y3, ac y4 hb⟩
  clear OX_0
  go_wp2_with fail
  go_region_held3 (fun W => W.cell? ⟨w.heap.size, 0, none⟩ = some (.int .i64 s0_0) ∧ W.cell? ⟨w.heap.size, 1, none⟩ = some (.slice a0_0 n0_0 c0_0) ∧ W.cell? ⟨w4.heap.size, 0, none⟩ = some (.int .i64 s0_0) ∧ W.cell? ⟨w4.heap.size, 1, none⟩ = some (.slice (some ⟨g4_0, 0, none⟩) n0_0 n0_0) ∧ Below w6.heap.size w6 W)
    (first | (exact ⟨by assumption, by assumption, by assumption, by assumption, by assumption⟩) | (exact ⟨x0, x1, xx0, xx1, hWW.drew⟩) | go_keep)
    (first
      | (go_at_call 45; refine (GA.out _ ?_).mono ?_; (first | assumption | (simp [*]; done)); rintro e w7 ⟨⟨ee0, rfl, pp0⟩, y0, y1, y2, y3, y4⟩)
      | (go_at_call 46; refine (GB.out _ _ ?_ ?_).mono ?_; (first | assumption | (simp [*]; done)); assumption; rintro e w7 ⟨rfl, y0, y1, y2, y3, y4⟩))
  clear GA GB hWW sl0 sl1 lS lX y0 y1 y2 y3
  clear x0 x1
  clear xx0 xx1
  have z7 := y4.size
  replace S0 := S0.below y4 S0.lt
  replace S1 := S1.below y4 S1.lt
  replace X0 := (okP _ _ _).below X0 y4
  replace XB0 := XB0.below y4 XB0.lt
  replace X1 := (okP _ _ _).below X1 y4
  replace XB1 := XB1.below y4 XB1.lt
  have B7 := ac B6 y4
  clear y4 B6
  have x0 := S1.cell (i := 0) rfl
  have x1 := S1.cell (i := 1) rfl
  have xx0 := XB1.cell (i := 0) rfl
  have xx1 := XB1.cell (i := 1) rfl
  have lS := S1.lt
  have lX := XB1.lt
  have hWW := Below.refl w7.heap.size w7
  have sl0 : w.heap.size + 1 < w7.heap.size := by first | assumption | omega
  have sl1 : w5.heap.size < w7.heap.size := by first | assumption | omega
  have GA : Shut (∀ W : World, (W.cell? ⟨w.heap.size + 1, 0, none⟩ = some (.int .i64 s1_0) ∧ W.cell? ⟨w.heap.size + 1, 1, none⟩ = some (.slice a1_0 n1_0 c1_0) ∧ W.cell? ⟨w5.heap.size, 0, none⟩ = some (.int .i64 s1_0) ∧ W.cell? ⟨w5.heap.size, 1, none⟩ = some (.slice (some ⟨g5_0, 0, none⟩) n1_0 n1_0) ∧ Below w7.heap.size w7 W) → Calls Try.prog 45 #[.agg #[.int .i64 s1_0, .slice a1_0 n1_0 c1_0]] W fun e w' => (∃ q0, e = .returned (.agg #[.int .i64 s1_0, .slice (some ⟨q0, 0, none⟩) n1_0 n1_0]) ∧ Lst PartD.cels 4 w' (some ⟨q0, 0, none⟩) n1_0 l1_0) ∧ w'.cell? ⟨w.heap.size + 1, 0, none⟩ = some (.int .i64 s1_0) ∧ w'.cell? ⟨w.heap.size + 1, 1, none⟩ = some (.slice a1_0 n1_0 c1_0) ∧ w'.cell? ⟨w5.heap.size, 0, none⟩ = some (.int .i64 s1_0) ∧ w'.cell? ⟨w5.heap.size, 1, none⟩ = some (.slice (some ⟨g5_0, 0, none⟩) n1_0 n1_0) ∧ Below w7.heap.size w7 w') := by
    refine ⟨fun W ⟨y0, y1, y2, y3, y4⟩ => (G1.out W (ac B7 y4)).mono ?_⟩
    rintro e w' ⟨⟨q0, rfl, R⟩, hb⟩
    have hc := fun (b i : Nat) (h : b < w7.heap.size) => hb.cell (p := ⟨b, i, none⟩) (Nat.lt_of_lt_of_le h y4.size)
    have OR := R
    have OR_0 := OR
    replace OR_0 := Lo.rows OR_0
    exact ⟨⟨q0, rfl, OR_0⟩, (hc (w.heap.size + 1) 0 sl0).trans y0, (hc (w.heap.size + 1) 1 sl0).trans y1, (hc (w5.heap.size) 0 sl1).trans y2, (hc (w5.heap.size) 1 sl1).trans y3, ac y4 hb⟩
  have OX := X1
  have OX_0 := OX
  replace OX_0 := Lo.rows OX_0
  have GB : Shut (∀ (q0 : Nat) (W : World), (W.cell? ⟨w.heap.size + 1, 0, none⟩ = some (.int .i64 s1_0) ∧ W.cell? ⟨w.heap.size + 1, 1, none⟩ = some (.slice a1_0 n1_0 c1_0) ∧ W.cell? ⟨w5.heap.size, 0, none⟩ = some (.int .i64 s1_0) ∧ W.cell? ⟨w5.heap.size, 1, none⟩ = some (.slice (some ⟨g5_0, 0, none⟩) n1_0 n1_0) ∧ Below w7.heap.size w7 W) → Lst PartD.cels 4 W (some ⟨q0, 0, none⟩) n1_0 l1_0 → Calls Try.prog 46 #[.agg #[.int .i64 s1_0, .slice (some ⟨g5_0, 0, none⟩) n1_0 n1_0], .agg #[.int .i64 s1_0, .slice (some ⟨q0, 0, none⟩) n1_0 n1_0]] W fun e w' => e = .returned (.bool true) ∧ w'.cell? ⟨w.heap.size + 1, 0, none⟩ = some (.int .i64 s1_0) ∧ w'.cell? ⟨w.heap.size + 1, 1, none⟩ = some (.slice a1_0 n1_0 c1_0) ∧ w'.cell? ⟨w5.heap.size, 0, none⟩ = some (.int .i64 s1_0) ∧ w'.cell? ⟨w5.heap.size, 1, none⟩ = some (.slice (some ⟨g5_0, 0, none⟩) n1_0 n1_0) ∧ Below w7.heap.size w7 w') := by
    refine ⟨fun q0 W ⟨y0, y1, y2, y3, y4⟩ p0 => (eqSender_any s1_0 _ _ _ _ _ _ W (OX_0.below y4) p0 (by omega) (fun e he => by have := b1_0 e he; omega)).mono ?_⟩
    rintro e w' ⟨rfl, hb⟩
    have hc := fun (b i : Nat) (h : b < w7.heap.size) => hb.cell (p := ⟨b, i, none⟩) (Nat.lt_of_lt_of_le h y4.size)
    exact ⟨rfl, (hc (w.heap.size + 1) 0 sl0).trans y0, (hc (w.heap.size + 1) 1 sl0).trans y1, (hc (w5.heap.size) 0 sl1).trans y2, (hc (w5.heap.size) 1 sl1).trans y3, ac y4 hb⟩
  clear OX_0
  go_wp2_with fail
  go_region_held3 (fun W => W.cell? ⟨w.heap.size + 1, 0, none⟩ = some (.int .i64 s1_0) ∧ W.cell? ⟨w.heap.size + 1, 1, none⟩ = some (.slice a1_0 n1_0 c1_0) ∧ W.cell? ⟨w5.heap.size, 0, none⟩ = some (.int .i64 s1_0) ∧ W.cell? ⟨w5.heap.size, 1, none⟩ = some (.slice (some ⟨g5_0, 0, none⟩) n1_0 n1_0) ∧ Below w7.heap.size w7 W)
    (first | (exact ⟨by assumption, by assumption, by assumption, by assumption, by assumption⟩) | (exact ⟨x0, x1, xx0, xx1, hWW.drew⟩) | go_keep)
    (first
      | (go_at_call 45; refine (GA.out _ ?_).mono ?_; (first | assumption | (simp [*]; done)); rintro e w8 ⟨⟨ee0, rfl, pp0⟩, y0, y1, y2, y3, y4⟩)
      | (go_at_call 46; refine (GB.out _ _ ?_ ?_).mono ?_; (first | assumption | (simp [*]; done)); assumption; rintro e w8 ⟨rfl, y0, y1, y2, y3, y4⟩))
  clear GA GB hWW sl0 sl1 lS lX y0 y1 y2 y3
  clear x0 x1
  clear xx0 xx1
  have z8 := y4.size
  replace S0 := S0.below y4 S0.lt
  replace S1 := S1.below y4 S1.lt
  replace X0 := (okP _ _ _).below X0 y4
  replace XB0 := XB0.below y4 XB0.lt
  replace X1 := (okP _ _ _).below X1 y4
  replace XB1 := XB1.below y4 XB1.lt
  have B8 := ac B7 y4
  clear y4 B7
  go_wp2
  go_ret
  exact ⟨rfl, B8⟩

theorem exactSameSenders_all (s0_0 : Int) (s1_0 : Int) (a0_0 : Option Addr) (n0_0 c0_0 : Nat) (l0_0 : List PartD) (a1_0 : Option Addr) (n1_0 c1_0 : Nat) (l1_0 : List PartD) (w : World) (h0_0 : Lst PartD.cels 4 w a0_0 n0_0 l0_0) (h1_0 : Lst PartD.cels 4 w a1_0 n1_0 l1_0) (m0_0 : n0_0 ≤ 9223372036854775807) (mb0_0 : ∀ e ∈ l0_0, e.f0.length ≤ 9223372036854775807) (m1_0 : n1_0 ≤ 9223372036854775807) (mb1_0 : ∀ e ∈ l1_0, e.f0.length ≤ 9223372036854775807) (hall :  totSender n0_0 l0_0 + totSender n1_0 l1_0 ≤ 1048576 → ∃ (Z0 : Bool) ,  ∃ (P : World → Prop), P w ∧ (∀ W W' : World, Below W.heap.size W W' → P W → P W') ∧ Shut (∀ (g0_0 g1_0 : Nat) (W : World) (_ : Lst PartD.cels 4 W (some ⟨g0_0, 0, none⟩) n0_0 l0_0) (_ : Lst PartD.cels 4 W (some ⟨g1_0, 0, none⟩) n1_0 l1_0), Calls Try.prog 25 #[.agg #[.int .i64 s0_0, .slice (some ⟨g0_0, 0, none⟩) n0_0 n0_0], .agg #[.int .i64 s1_0, .slice (some ⟨g1_0, 0, none⟩) n1_0 n1_0]] W (fun e w' => e = .returned (.bool Z0) ∧ Below W.heap.size W w')) ∧ Shut (∀ (g0_0 g1_0 : Nat) (W : World) (_ : P W) (_ : Lst PartD.cels 4 W (some ⟨g0_0, 0, none⟩) n0_0 l0_0) (_ : Lst PartD.cels 4 W (some ⟨g1_0, 0, none⟩) n1_0 l1_0), Calls Try.prog 22 #[.agg #[.int .i64 s0_0, .slice (some ⟨g0_0, 0, none⟩) n0_0 n0_0], .agg #[.int .i64 s1_0, .slice (some ⟨g1_0, 0, none⟩) n1_0 n1_0]] W (fun e w' => e = .returned (.bool Z0) ∧ Below W.heap.size W w'))) :
    Calls Try.prog 13 #[.agg #[.int .i64 s0_0, .slice a0_0 n0_0 c0_0], .agg #[.int .i64 s1_0, .slice a1_0 n1_0 c1_0]] w fun e w' => e = .returned (.bool true) ∧ Below w.heap.size w w' := by
  by_cases hz0 : totSender n0_0 l0_0 ≤ 1048576
  rotate_left
  · clear hall
    have hq0 : leftC 1048576 (totSender n0_0 l0_0) = -1 := by unfold leftC; rw [if_pos (by omega)]
    have cz0 := fun W (b : Below w.heap.size w W) => szSender_any s0_0 a0_0 n0_0 c0_0 l0_0 (1048576) W (h0_0.below b) (by omega) (by omega) m0_0 mb0_0
    rw [hq0] at cz0
    clear hq0
    have S0 := Stc.new w 70 [.int .i64 s0_0, .slice a0_0 n0_0 c0_0] _ rfl
    have S1 := Stc.new (w.alloc (.cells #[.int .i64 s0_0, .slice a0_0 n0_0 c0_0] 70)) 70 [.int .i64 s1_0, .slice a1_0 n1_0 c1_0] _ rfl
    replace S0 := S0.alloc (.cells #[.int .i64 s1_0, .slice a1_0 n1_0 c1_0] 70)
    have B0 := (ab (ab (Below.refl _ w) (.cells #[.int .i64 s0_0, .slice a0_0 n0_0 c0_0] 70)) (.cells #[.int .i64 s1_0, .slice a1_0 n1_0 c1_0] 70))
    simp only [World.size_alloc] at S1
    go_enter Try.func13, Try.ntmps13
    have x0 := S0.cell (i := 0) rfl
    have x1 := S0.cell (i := 1) rfl
    go_wp2_with fail
    refine (cz0 _ B0).mono ?_
    rintro e w1 ⟨rfl, b1⟩
    clear x0 x1
    replace S0 := S0.below b1 S0.lt
    replace S1 := S1.below b1 S1.lt
    have B1_ := ac B0 b1
    go_wp2
    go_ret
    exact ⟨rfl, B1_⟩
  by_cases hz1 : totSender n0_0 l0_0 + totSender n1_0 l1_0 ≤ 1048576
  rotate_left
  · clear hall
    have hq0 : leftC 1048576 (totSender n0_0 l0_0) = 1048576 - ((totSender n0_0 l0_0 : Nat) : Int) := by unfold leftC; rw [if_neg (by omega)]
    have cz0 := fun W (b : Below w.heap.size w W) => szSender_any s0_0 a0_0 n0_0 c0_0 l0_0 (1048576) W (h0_0.below b) (by omega) (by omega) m0_0 mb0_0
    rw [hq0] at cz0
    clear hq0
    obtain ⟨lf0, hlf0⟩ : ∃ x, x = 1048576 - ((totSender n0_0 l0_0 : Nat) : Int) := ⟨_, rfl⟩
    rw [← hlf0] at cz0
    have lp0 : ¬ lf0 < 0 := by omega
    have hq1 : leftC lf0 (totSender n1_0 l1_0) = -1 := by unfold leftC; rw [if_pos (by omega)]
    have cz1 := fun W (b : Below w.heap.size w W) => szSender_any s1_0 a1_0 n1_0 c1_0 l1_0 (lf0) W (h1_0.below b) (by omega) (by omega) m1_0 mb1_0
    rw [hq1] at cz1
    clear hq1
    replace hlf0 := Shut.mk hlf0
    have S0 := Stc.new w 70 [.int .i64 s0_0, .slice a0_0 n0_0 c0_0] _ rfl
    have S1 := Stc.new (w.alloc (.cells #[.int .i64 s0_0, .slice a0_0 n0_0 c0_0] 70)) 70 [.int .i64 s1_0, .slice a1_0 n1_0 c1_0] _ rfl
    replace S0 := S0.alloc (.cells #[.int .i64 s1_0, .slice a1_0 n1_0 c1_0] 70)
    have B0 := (ab (ab (Below.refl _ w) (.cells #[.int .i64 s0_0, .slice a0_0 n0_0 c0_0] 70)) (.cells #[.int .i64 s1_0, .slice a1_0 n1_0 c1_0] 70))
    simp only [World.size_alloc] at S1
    go_enter Try.func13, Try.ntmps13
    have x0 := S0.cell (i := 0) rfl
    have x1 := S0.cell (i := 1) rfl
    go_wp2_with fail
    refine (cz0 _ B0).mono ?_
    rintro e w1 ⟨rfl, b1⟩
    clear x0 x1
    replace S0 := S0.below b1 S0.lt
    replace S1 := S1.below b1 S1.lt
    have B1_ := ac B0 b1
    have x0 := S1.cell (i := 0) rfl
    have x1 := S1.cell (i := 1) rfl
    go_wp2_with fail
    refine (cz1 _ B1_).mono ?_
    rintro e w2 ⟨rfl, b2⟩
    clear x0 x1
    replace S0 := S0.below b2 S0.lt
    replace S1 := S1.below b2 S1.lt
    have B2_ := ac B1_ b2
    go_wp2
    go_ret
    exact ⟨rfl, B2_⟩
  obtain ⟨Z0, P, hP, hkeep, Gs, Gi⟩ := hall hz1
  exact exactSameSenders_walk s0_0 s1_0 a0_0 n0_0 c0_0 l0_0 a1_0 n1_0 c1_0 l1_0 w h0_0 h1_0 hz1 Z0 P hP hkeep Gs Gi
end Go.Proofs.Ytbelplonlcdahaa
