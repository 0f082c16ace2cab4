/- The walk of the exact law of CellEnd. -/
import Derived.Test.YtgmbofoneeagiaaEndS
import Derived.Deep.RegionHeld3
import Derived.Deep.CutRange
namespace Go.Proofs.Ytgmbofoneeagiaa
open Go.RowKit

set_option linter.unusedVariables false in
set_option maxRecDepth 100000 in
set_option maxHeartbeats 4000000 in
theorem exactCellEnd_walk (s0_0 : Int) (s0_1 : Int) (s0_3 : Int) (s0_7 : Int) (a0_0 : Option Addr) (n0_0 c0_0 : Nat) (l0_0 : List PartD) (a0_1 : Option Addr) (n0_1 c0_1 : Nat) (l0_1 : List HeldD) (a0_2 : Option Addr) (n0_2 c0_2 : Nat) (l0_2 : List Int) (a0_3 : Option Addr) (n0_3 c0_3 : Nat) (l0_3 : List (List Int)) (w : World) (h0_0 : Lst PartD.cels 4 w a0_0 n0_0 l0_0) (h0_1 : Lst HeldD.cels 3 w a0_1 n0_1 l0_1) (h0_2 : Bs w a0_2 n0_2 l0_2) (h0_3 : Lst bytC 1 w a0_3 n0_3 l0_3)  (hsz : totEnd n0_0 l0_0 n0_1 l0_1 n0_2 n0_3 l0_3 ≤ 1048576) (Z0 : Int) (Z1 : Int) (Z2 : Int) (Z4 : Int) (Z8 : Int) (Z9 : Int) (Z10 : Int) (Z11 : Int) (Z12 : Int) (Z13 : Bool) (N0 : Nat) (D0 : List PartD) (N1 : Nat) (D1 : List HeldD) (N2 : Nat) (D2 : List Int) (N3 : Nat) (D3 : List (List Int)) (N4 : Nat) (D4 : List Int) (N5 : Nat) (D5 : List Int) (hN0 : N0 ≤ 2000000) (hS0 : sumE PartD.wd D0 ≤ 2000000) (hB0 : ∀ e ∈ D0, e.f0.length ≤ 100000000) (hN1 : N1 ≤ 2000000) (hS1 : sumE HeldD.wd D1 ≤ 2000000) (hB1 : ∀ e ∈ D1, e.f1.length ≤ 100000000) (hN2 : N2 ≤ 2000000) (hN3 : N3 ≤ 2000000) (hS3 : sumE List.length D3 ≤ 2000000) (hB3 : ∀ e ∈ D3, e.length ≤ 100000000) (hN4 : N4 ≤ 2000000) (hN5 : N5 ≤ 2000000) (P : World → Prop) (hP : P w) (hkeep : ∀ W W' : World, Below W.heap.size W W' → P W → P W') (Gs : Shut (∀ (g0_0 g0_1 g0_2 g0_3 : Nat) (W : World) (_ : Lst PartD.cels 4 W (some ⟨g0_0, 0, none⟩) n0_0 l0_0) (_ : Lst HeldD.cels 3 W (some ⟨g0_1, 0, none⟩) n0_1 l0_1) (_ : Bs W (some ⟨g0_2, 0, none⟩) n0_2 l0_2) (_ : Lst bytC 1 W (some ⟨g0_3, 0, none⟩) n0_3 l0_3), Calls Try.prog 73 #[.agg #[.int .i64 s0_0, .int .i64 s0_1, .slice (some ⟨g0_0, 0, none⟩) n0_0 n0_0, .int .i64 s0_3, .slice (some ⟨g0_1, 0, none⟩) n0_1 n0_1, .slice (some ⟨g0_2, 0, none⟩) n0_2 n0_2, .slice (some ⟨g0_3, 0, none⟩) n0_3 n0_3, .int .i64 s0_7]] W (fun e w' => (∃ A0 d0 A1 d1 A2 d2 A3 d3 A4 d4 A5 d5, e = .returned (.agg #[.int .i64 Z0, .int .i64 Z1, .int .i64 Z2, .slice A0 N0 d0, .int .i64 Z4, .slice A1 N1 d1, .slice A2 N2 d2, .slice A3 N3 d3, .int .i64 Z8, .int .i64 Z9, .int .i64 Z10, .int .i64 Z11, .int .i64 Z12, .bool Z13, .slice A4 N4 d4, .slice A5 N5 d5]) ∧ (Thing.sep (Thing.sep (tP A0 N0 D0) (Thing.sep (Thing.sep (tH A1 N1 D1) (tR A2 N2 D2)) (tB A3 N3 D3))) (Thing.sep (tR A4 N4 D4) (tR A5 N5 D5))) w' (rng W.heap.size w'.heap.size)) ∧ Below W.heap.size W w'))) (Gi : Shut (∀ (g0_0 g0_1 g0_2 g0_3 : Nat) (W : World) (_ : P W) (_ : Lst PartD.cels 4 W (some ⟨g0_0, 0, none⟩) n0_0 l0_0) (_ : Lst HeldD.cels 3 W (some ⟨g0_1, 0, none⟩) n0_1 l0_1) (_ : Bs W (some ⟨g0_2, 0, none⟩) n0_2 l0_2) (_ : Lst bytC 1 W (some ⟨g0_3, 0, none⟩) n0_3 l0_3), Calls Try.prog 75 #[.agg #[.int .i64 s0_0, .int .i64 s0_1, .slice (some ⟨g0_0, 0, none⟩) n0_0 n0_0, .int .i64 s0_3, .slice (some ⟨g0_1, 0, none⟩) n0_1 n0_1, .slice (some ⟨g0_2, 0, none⟩) n0_2 n0_2, .slice (some ⟨g0_3, 0, none⟩) n0_3 n0_3, .int .i64 s0_7]] W (fun e w' => (∃ A0 d0 A1 d1 A2 d2 A3 d3 A4 d4 A5 d5, e = .returned (.agg #[.int .i64 Z0, .int .i64 Z1, .int .i64 Z2, .slice A0 N0 d0, .int .i64 Z4, .slice A1 N1 d1, .slice A2 N2 d2, .slice A3 N3 d3, .int .i64 Z8, .int .i64 Z9, .int .i64 Z10, .int .i64 Z11, .int .i64 Z12, .bool Z13, .slice A4 N4 d4, .slice A5 N5 d5]) ∧ (Thing.sep (Thing.sep (tP A0 N0 D0) (Thing.sep (Thing.sep (tH A1 N1 D1) (tR A2 N2 D2)) (tB A3 N3 D3))) (Thing.sep (tR A4 N4 D4) (tR A5 N5 D5))) w' (rng W.heap.size w'.heap.size)) ∧ Below W.heap.size W w'))) :
    Calls Try.prog 11 #[.agg #[.int .i64 s0_0, .int .i64 s0_1, .slice a0_0 n0_0 c0_0, .int .i64 s0_3, .slice a0_1 n0_1 c0_1, .slice a0_2 n0_2 c0_2, .slice a0_3 n0_3 c0_3, .int .i64 s0_7]] w fun e w' => e = .returned (.bool true) ∧ Below w.heap.size w w' := by
  have HSZ : True := trivial
  have ts0 : totEnd n0_0 l0_0 n0_1 l0_1 n0_2 n0_3 l0_3 = n0_0 + sumE PartD.len l0_0 + n0_1 + sumE HeldD.len l0_1 + n0_2 + n0_3 + sumE List.length l0_3 := rfl
  have f0_0 : n0_0 ≤ 1048576 := by omega
  have b0_0 : ∀ e ∈ l0_0, e.f0.length ≤ 1048576 := fun e he => by have h1 : e.f0.length ≤ sumE PartD.len l0_0 := sumE_mem PartD.len he; omega
  have q0_0 : sumE PartD.wd l0_0 ≤ 3200000 := by have h1 := sumPartD_wd l0_0; have h2 := h0_0.len; omega
  have f0_1 : n0_1 ≤ 1048576 := by omega
  have b0_1 : ∀ e ∈ l0_1, e.f1.length ≤ 1048576 := fun e he => by have h1 : e.f1.length ≤ sumE HeldD.len l0_1 := sumE_mem HeldD.len he; omega
  have q0_1 : sumE HeldD.wd l0_1 ≤ 3200000 := by have h1 := sumHeldD_wd l0_1; have h2 := h0_1.len; omega
  have f0_2 : n0_2 ≤ 1048576 := by omega
  have f0_3 : n0_3 ≤ 1048576 := by omega
  have b0_3 : ∀ e ∈ l0_3, e.length ≤ 1048576 := fun e he => by have h1 : e.length ≤ sumE List.length l0_3 := sumE_mem List.length he; omega
  have q0_3 : sumE List.length l0_3 ≤ 3200000 := by omega
  have G0 := Shut.mk (fun W (b : Below w.heap.size w W) => toEnd_any s0_0 s0_1 s0_3 s0_7 a0_0 n0_0 c0_0 l0_0 a0_1 n0_1 c0_1 l0_1 a0_2 n0_2 c0_2 l0_2 a0_3 n0_3 c0_3 l0_3 W (h0_0.below b) (h0_1.below b) (h0_2.below b) (h0_3.below b) f0_0 b0_0 f0_1 b0_1 f0_2 f0_3 b0_3)
  have hq0 : leftC 1048576 (totEnd n0_0 l0_0 n0_1 l0_1 n0_2 n0_3 l0_3) = 1048576 - (((totEnd n0_0 l0_0 n0_1 l0_1 n0_2 n0_3 l0_3 : Nat) : Int) : Int) := by unfold leftC; rw [if_neg (by omega)]
  have cz0 := fun W (b : Below w.heap.size w W) => szEnd_any s0_0 s0_1 s0_3 s0_7 a0_0 n0_0 c0_0 l0_0 a0_1 n0_1 c0_1 l0_1 a0_2 n0_2 c0_2 l0_2 a0_3 n0_3 c0_3 l0_3 (1048576) W (h0_0.below b) (h0_1.below b) (h0_2.below b) (h0_3.below b) (by omega) (by omega) (by omega) (fun e he => by have := b0_0 e he; omega) (by omega) (fun e he => by have := b0_1 e he; omega) (by omega) (by omega) (fun e he => by have := b0_3 e he; omega)
  rw [hq0] at cz0
  clear hq0
  obtain ⟨lf0, hlf0⟩ : ∃ x, x = 1048576 - ((totEnd n0_0 l0_0 n0_1 l0_1 n0_2 n0_3 l0_3 : Nat) : Int) := ⟨_, rfl⟩
  rw [← hlf0] at cz0
  have lp0 : ¬ lf0 < 0 := by omega
  have lm0 : lf0 ≤ 1048576 := by omega
  clear hlf0 ts0
  clear h0_0 h0_1 h0_2 h0_3
  clear hsz
  have B0 := Below.refl w.heap.size w
  replace B0 := ab B0 (.cells #[.int .i64 s0_0, .int .i64 s0_1, .slice a0_0 n0_0 c0_0, .int .i64 s0_3, .slice a0_1 n0_1 c0_1, .slice a0_2 n0_2 c0_2, .slice a0_3 n0_3 c0_3, .int .i64 s0_7] 116)
  have S0 := Stc.new w 116 [.int .i64 s0_0, .int .i64 s0_1, .slice a0_0 n0_0 c0_0, .int .i64 s0_3, .slice a0_1 n0_1 c0_1, .slice a0_2 n0_2 c0_2, .slice a0_3 n0_3 c0_3, .int .i64 s0_7] _ rfl
  go_enter Try.func11, Try.ntmps11
  have x0 := S0.cell (i := 0) rfl
  have x1 := S0.cell (i := 1) rfl
  have x2 := S0.cell (i := 2) rfl
  have x3 := S0.cell (i := 3) rfl
  have x4 := S0.cell (i := 4) rfl
  have x5 := S0.cell (i := 5) rfl
  have x6 := S0.cell (i := 6) rfl
  have x7 := S0.cell (i := 7) rfl
  go_wp2_with fail
  refine (cz0 _ B0).mono ?_
  rintro e w1 ⟨rfl, b1⟩
  clear x0 x1 x2 x3 x4 x5 x6 x7
  have z1 := b1.size
  simp only [World.size_alloc] at z1
  replace S0 := S0.below b1 S0.lt
  have B1 := ac B0 b1
  clear b1 B0
  have x0 := S0.cell (i := 0) rfl
  have x1 := S0.cell (i := 1) rfl
  have x2 := S0.cell (i := 2) rfl
  have x3 := S0.cell (i := 3) rfl
  have x4 := S0.cell (i := 4) rfl
  have x5 := S0.cell (i := 5) rfl
  have x6 := S0.cell (i := 6) rfl
  have x7 := S0.cell (i := 7) rfl
  go_wp2_with fail
  refine (G0.out _ B1).mono ?_
  rintro e w2 ⟨⟨g2_0, g2_1, g2_2, g2_3, rfl, M0⟩, b2⟩
  clear x0 x1 x2 x3 x4 x5 x6 x7
  have z2 := b2.size
  replace S0 := S0.below b2 S0.lt
  have B2 := ac B1 b2
  clear b2 B1
  have O0 := M0
  obtain ⟨_, _, _, _, _, O0_0, ⟨_, _, _, _, _, O0_1, O0_2⟩⟩ := O0
  have O0_0_0 := O0_0
  replace O0_0_0 := Lo.rows O0_0_0
  obtain ⟨_, _, _, _, _, O0_1_0, O0_1_1⟩ := O0_1
  replace O0_1_0 := Lo.rows O0_1_0
  replace O0_1_1 := Bo.bs O0_1_1
  replace O0_2 := Lo.rows O0_2
  go_wp2_with fail
  refine (Gs.out _ _ _ _ _ O0_0_0 O0_1_0 O0_1_1 O0_2).mono ?_
  rintro e w3 ⟨⟨A0, u0, A1, u1, A2, u2, A3, u3, A4, u4, A5, u5, rfl, R0⟩, b3⟩
  clear O0_0_0 O0_1_0 O0_1_1 O0_2
  clear M0
  have z3 := b3.size
  replace S0 := S0.below b3 S0.lt
  have B3 := ac B2 b3
  clear b3 B2
  replace S0 := S0.alloc (.cells #[.int .i64 Z0, .int .i64 Z1, .int .i64 Z2, .slice A0 N0 u0, .int .i64 Z4, .slice A1 N1 u1, .slice A2 N2 u2, .slice A3 N3 u3, .int .i64 Z8, .int .i64 Z9, .int .i64 Z10, .int .i64 Z11, .int .i64 Z12, .bool Z13, .slice A4 N4 u4, .slice A5 N5 u5] 121)
  replace R0 := (((okP _ _ _).sep (((okH _ _ _).sep (okR _ _ _)).sep (okB _ _ _))).sep ((okR _ _ _).sep (okR _ _ _))).alloc R0 (.cells #[.int .i64 Z0, .int .i64 Z1, .int .i64 Z2, .slice A0 N0 u0, .int .i64 Z4, .slice A1 N1 u1, .slice A2 N2 u2, .slice A3 N3 u3, .int .i64 Z8, .int .i64 Z9, .int .i64 Z10, .int .i64 Z11, .int .i64 Z12, .bool Z13, .slice A4 N4 u4, .slice A5 N5 u5] 121)
  replace B3 := ab B3 (.cells #[.int .i64 Z0, .int .i64 Z1, .int .i64 Z2, .slice A0 N0 u0, .int .i64 Z4, .slice A1 N1 u1, .slice A2 N2 u2, .slice A3 N3 u3, .int .i64 Z8, .int .i64 Z9, .int .i64 Z10, .int .i64 Z11, .int .i64 Z12, .bool Z13, .slice A4 N4 u4, .slice A5 N5 u5] 121)
  have T0 := Stc.new w3 121 [.int .i64 Z0, .int .i64 Z1, .int .i64 Z2, .slice A0 N0 u0, .int .i64 Z4, .slice A1 N1 u1, .slice A2 N2 u2, .slice A3 N3 u3, .int .i64 Z8, .int .i64 Z9, .int .i64 Z10, .int .i64 Z11, .int .i64 Z12, .bool Z13, .slice A4 N4 u4, .slice A5 N5 u5] _ rfl
  have x0 := S0.cell (i := 0) rfl
  have x1 := S0.cell (i := 1) rfl
  have x2 := S0.cell (i := 2) rfl
  have x3 := S0.cell (i := 3) rfl
  have x4 := S0.cell (i := 4) rfl
  have x5 := S0.cell (i := 5) rfl
  have x6 := S0.cell (i := 6) rfl
  have x7 := S0.cell (i := 7) rfl
  go_wp2_with fail
  refine (G0.out _ B3).mono ?_
  rintro e w4 ⟨⟨g4_0, g4_1, g4_2, g4_3, rfl, X0⟩, b4⟩
  clear x0 x1 x2 x3 x4 x5 x6 x7
  simp only [World.size_alloc] at X0
  have z4 := b4.size
  simp only [World.size_alloc] at z4
  replace S0 := S0.below b4 S0.lt
  replace R0 := (((okP _ _ _).sep (((okH _ _ _).sep (okR _ _ _)).sep (okB _ _ _))).sep ((okR _ _ _).sep (okR _ _ _))).below R0 b4
  replace T0 := T0.below b4 T0.lt
  have B4 := ac B3 b4
  clear b4 B3
  replace S0 := S0.alloc (.cells #[.int .i64 s0_0, .int .i64 s0_1, .slice (some ⟨g4_0, 0, none⟩) n0_0 n0_0, .int .i64 s0_3, .slice (some ⟨g4_1, 0, none⟩) n0_1 n0_1, .slice (some ⟨g4_2, 0, none⟩) n0_2 n0_2, .slice (some ⟨g4_3, 0, none⟩) n0_3 n0_3, .int .i64 s0_7] 119)
  replace R0 := (((okP _ _ _).sep (((okH _ _ _).sep (okR _ _ _)).sep (okB _ _ _))).sep ((okR _ _ _).sep (okR _ _ _))).alloc R0 (.cells #[.int .i64 s0_0, .int .i64 s0_1, .slice (some ⟨g4_0, 0, none⟩) n0_0 n0_0, .int .i64 s0_3, .slice (some ⟨g4_1, 0, none⟩) n0_1 n0_1, .slice (some ⟨g4_2, 0, none⟩) n0_2 n0_2, .slice (some ⟨g4_3, 0, none⟩) n0_3 n0_3, .int .i64 s0_7] 119)
  replace T0 := T0.alloc (.cells #[.int .i64 s0_0, .int .i64 s0_1, .slice (some ⟨g4_0, 0, none⟩) n0_0 n0_0, .int .i64 s0_3, .slice (some ⟨g4_1, 0, none⟩) n0_1 n0_1, .slice (some ⟨g4_2, 0, none⟩) n0_2 n0_2, .slice (some ⟨g4_3, 0, none⟩) n0_3 n0_3, .int .i64 s0_7] 119)
  replace X0 := ((okP _ _ _).sep (((okH _ _ _).sep (okR _ _ _)).sep (okB _ _ _))).alloc X0 (.cells #[.int .i64 s0_0, .int .i64 s0_1, .slice (some ⟨g4_0, 0, none⟩) n0_0 n0_0, .int .i64 s0_3, .slice (some ⟨g4_1, 0, none⟩) n0_1 n0_1, .slice (some ⟨g4_2, 0, none⟩) n0_2 n0_2, .slice (some ⟨g4_3, 0, none⟩) n0_3 n0_3, .int .i64 s0_7] 119)
  replace B4 := ab B4 (.cells #[.int .i64 s0_0, .int .i64 s0_1, .slice (some ⟨g4_0, 0, none⟩) n0_0 n0_0, .int .i64 s0_3, .slice (some ⟨g4_1, 0, none⟩) n0_1 n0_1, .slice (some ⟨g4_2, 0, none⟩) n0_2 n0_2, .slice (some ⟨g4_3, 0, none⟩) n0_3 n0_3, .int .i64 s0_7] 119)
  have XB0 := Stc.new w4 119 [.int .i64 s0_0, .int .i64 s0_1, .slice (some ⟨g4_0, 0, none⟩) n0_0 n0_0, .int .i64 s0_3, .slice (some ⟨g4_1, 0, none⟩) n0_1 n0_1, .slice (some ⟨g4_2, 0, none⟩) n0_2 n0_2, .slice (some ⟨g4_3, 0, none⟩) n0_3 n0_3, .int .i64 s0_7] _ rfl
  have x0_0 := XB0.cell (i := 0) rfl
  have x0_1 := XB0.cell (i := 1) rfl
  have x0_2 := XB0.cell (i := 2) rfl
  have x0_3 := XB0.cell (i := 3) rfl
  have x0_4 := XB0.cell (i := 4) rfl
  have x0_5 := XB0.cell (i := 5) rfl
  have x0_6 := XB0.cell (i := 6) rfl
  have x0_7 := XB0.cell (i := 7) rfl
  have O0 := X0
  obtain ⟨_, _, _, _, _, O0_0, ⟨_, _, _, _, _, O0_1, O0_2⟩⟩ := O0
  have O0_0_0 := O0_0
  replace O0_0_0 := Lo.rows O0_0_0
  obtain ⟨_, _, _, _, _, O0_1_0, O0_1_1⟩ := O0_1
  replace O0_1_0 := Lo.rows O0_1_0
  replace O0_1_1 := Bo.bs O0_1_1
  replace O0_2 := Lo.rows O0_2
  have T1P := hkeep _ _ B4 hP
  go_wp2_with fail
  refine (Gi.out _ _ _ _ _ T1P O0_0_0 O0_1_0 O0_1_1 O0_2).mono ?_
  rintro e w5 ⟨⟨DA0, v0, DA1, v1, DA2, v2, DA3, v3, DA4, v4, DA5, v5, rfl, R1⟩, b5⟩
  clear T1P O0_0_0 O0_1_0 O0_1_1 O0_2
  clear x0_0 x0_1 x0_2 x0_3 x0_4 x0_5 x0_6 x0_7
  simp only [World.size_alloc] at R1
  have z5 := b5.size
  simp only [World.size_alloc] at z5
  replace S0 := S0.below b5 S0.lt
  replace R0 := (((okP _ _ _).sep (((okH _ _ _).sep (okR _ _ _)).sep (okB _ _ _))).sep ((okR _ _ _).sep (okR _ _ _))).below R0 b5
  replace T0 := T0.below b5 T0.lt
  replace X0 := ((okP _ _ _).sep (((okH _ _ _).sep (okR _ _ _)).sep (okB _ _ _))).below X0 b5
  replace XB0 := XB0.below b5 XB0.lt
  have B5 := ac B4 b5
  clear b5 B4
  replace S0 := S0.alloc (.cells #[.int .i64 Z0, .int .i64 Z1, .int .i64 Z2, .slice DA0 N0 v0, .int .i64 Z4, .slice DA1 N1 v1, .slice DA2 N2 v2, .slice DA3 N3 v3, .int .i64 Z8, .int .i64 Z9, .int .i64 Z10, .int .i64 Z11, .int .i64 Z12, .bool Z13, .slice DA4 N4 v4, .slice DA5 N5 v5] 121)
  replace R0 := (((okP _ _ _).sep (((okH _ _ _).sep (okR _ _ _)).sep (okB _ _ _))).sep ((okR _ _ _).sep (okR _ _ _))).alloc R0 (.cells #[.int .i64 Z0, .int .i64 Z1, .int .i64 Z2, .slice DA0 N0 v0, .int .i64 Z4, .slice DA1 N1 v1, .slice DA2 N2 v2, .slice DA3 N3 v3, .int .i64 Z8, .int .i64 Z9, .int .i64 Z10, .int .i64 Z11, .int .i64 Z12, .bool Z13, .slice DA4 N4 v4, .slice DA5 N5 v5] 121)
  replace T0 := T0.alloc (.cells #[.int .i64 Z0, .int .i64 Z1, .int .i64 Z2, .slice DA0 N0 v0, .int .i64 Z4, .slice DA1 N1 v1, .slice DA2 N2 v2, .slice DA3 N3 v3, .int .i64 Z8, .int .i64 Z9, .int .i64 Z10, .int .i64 Z11, .int .i64 Z12, .bool Z13, .slice DA4 N4 v4, .slice DA5 N5 v5] 121)
  replace X0 := ((okP _ _ _).sep (((okH _ _ _).sep (okR _ _ _)).sep (okB _ _ _))).alloc X0 (.cells #[.int .i64 Z0, .int .i64 Z1, .int .i64 Z2, .slice DA0 N0 v0, .int .i64 Z4, .slice DA1 N1 v1, .slice DA2 N2 v2, .slice DA3 N3 v3, .int .i64 Z8, .int .i64 Z9, .int .i64 Z10, .int .i64 Z11, .int .i64 Z12, .bool Z13, .slice DA4 N4 v4, .slice DA5 N5 v5] 121)
  replace XB0 := XB0.alloc (.cells #[.int .i64 Z0, .int .i64 Z1, .int .i64 Z2, .slice DA0 N0 v0, .int .i64 Z4, .slice DA1 N1 v1, .slice DA2 N2 v2, .slice DA3 N3 v3, .int .i64 Z8, .int .i64 Z9, .int .i64 Z10, .int .i64 Z11, .int .i64 Z12, .bool Z13, .slice DA4 N4 v4, .slice DA5 N5 v5] 121)
  replace R1 := (((okP _ _ _).sep (((okH _ _ _).sep (okR _ _ _)).sep (okB _ _ _))).sep ((okR _ _ _).sep (okR _ _ _))).alloc R1 (.cells #[.int .i64 Z0, .int .i64 Z1, .int .i64 Z2, .slice DA0 N0 v0, .int .i64 Z4, .slice DA1 N1 v1, .slice DA2 N2 v2, .slice DA3 N3 v3, .int .i64 Z8, .int .i64 Z9, .int .i64 Z10, .int .i64 Z11, .int .i64 Z12, .bool Z13, .slice DA4 N4 v4, .slice DA5 N5 v5] 121)
  replace B5 := ab B5 (.cells #[.int .i64 Z0, .int .i64 Z1, .int .i64 Z2, .slice DA0 N0 v0, .int .i64 Z4, .slice DA1 N1 v1, .slice DA2 N2 v2, .slice DA3 N3 v3, .int .i64 Z8, .int .i64 Z9, .int .i64 Z10, .int .i64 Z11, .int .i64 Z12, .bool Z13, .slice DA4 N4 v4, .slice DA5 N5 v5] 121)
  have T1 := Stc.new w5 121 [.int .i64 Z0, .int .i64 Z1, .int .i64 Z2, .slice DA0 N0 v0, .int .i64 Z4, .slice DA1 N1 v1, .slice DA2 N2 v2, .slice DA3 N3 v3, .int .i64 Z8, .int .i64 Z9, .int .i64 Z10, .int .i64 Z11, .int .i64 Z12, .bool Z13, .slice DA4 N4 v4, .slice DA5 N5 v5] _ rfl
  have x0 := T1.cell (i := 0) rfl
  have x1 := T1.cell (i := 1) rfl
  have x2 := T1.cell (i := 2) rfl
  have x3 := T1.cell (i := 3) rfl
  have x4 := T1.cell (i := 4) rfl
  have x5 := T1.cell (i := 5) rfl
  have x6 := T1.cell (i := 6) rfl
  have x7 := T1.cell (i := 7) rfl
  have x8 := T1.cell (i := 8) rfl
  have x9 := T1.cell (i := 9) rfl
  have x10 := T1.cell (i := 10) rfl
  have x11 := T1.cell (i := 11) rfl
  have x12 := T1.cell (i := 12) rfl
  have x13 := T1.cell (i := 13) rfl
  have x14 := T1.cell (i := 14) rfl
  have x15 := T1.cell (i := 15) rfl
  have y0 := T0.cell (i := 0) rfl
  have y1 := T0.cell (i := 1) rfl
  have y2 := T0.cell (i := 2) rfl
  have y3 := T0.cell (i := 3) rfl
  have y4 := T0.cell (i := 4) rfl
  have y5 := T0.cell (i := 5) rfl
  have y6 := T0.cell (i := 6) rfl
  have y7 := T0.cell (i := 7) rfl
  have y8 := T0.cell (i := 8) rfl
  have y9 := T0.cell (i := 9) rfl
  have y10 := T0.cell (i := 10) rfl
  have y11 := T0.cell (i := 11) rfl
  have y12 := T0.cell (i := 12) rfl
  have y13 := T0.cell (i := 13) rfl
  have y14 := T0.cell (i := 14) rfl
  have y15 := T0.cell (i := 15) rfl
  have V := R1
  obtain ⟨_, _, _, _, _, V_0, ⟨_, _, _, _, _, V_1, V_2⟩⟩ := V
  obtain ⟨_, _, _, _, _, V_0_0, ⟨_, _, _, _, _, V_0_1, V_0_2⟩⟩ := V_0
  have V_0_0_0 := V_0_0
  replace V_0_0_0 := Lo.rows V_0_0_0
  obtain ⟨_, _, _, _, _, V_0_1_0, V_0_1_1⟩ := V_0_1
  replace V_0_1_0 := Lo.rows V_0_1_0
  replace V_0_1_1 := Bo.bs V_0_1_1
  replace V_0_2 := Lo.rows V_0_2
  have V_1_0 := V_1
  replace V_1_0 := Bo.bs V_1_0
  replace V_2 := Bo.bs V_2
  have U := R0
  obtain ⟨_, _, _, _, _, U_0, ⟨_, _, _, _, _, U_1, U_2⟩⟩ := U
  obtain ⟨_, _, _, _, _, U_0_0, ⟨_, _, _, _, _, U_0_1, U_0_2⟩⟩ := U_0
  have U_0_0_0 := U_0_0
  replace U_0_0_0 := Lo.rows U_0_0_0
  obtain ⟨_, _, _, _, _, U_0_1_0, U_0_1_1⟩ := U_0_1
  replace U_0_1_0 := Lo.rows U_0_1_0
  replace U_0_1_1 := Bo.bs U_0_1_1
  replace U_0_2 := Lo.rows U_0_2
  have U_1_0 := U_1
  replace U_1_0 := Bo.bs U_1_0
  replace U_2 := Bo.bs U_2
  go_wp2_with fail
  refine (eqEndResult_any Z0 Z1 Z2 Z4 Z8 Z9 Z10 Z11 Z12 Z13 _ _ _ _ _ _ _ _ _ _ _ _ _ _ _ _ _ _ _ _ _ _ _ _ _ _ _ _ _ _ _ _ _ _ _ _ _ V_0_0_0 U_0_0_0 V_0_1_0 U_0_1_0 V_0_1_1 U_0_1_1 V_0_2 U_0_2 V_1_0 U_1_0 V_2 U_2 (by omega) hB0 (by omega) hB1 (by omega) (by omega) hB3 (by omega) (by omega)).mono ?_
  rintro e w6 ⟨rfl, b6⟩
  as_aux_lemma =>
    clear x0 x1 x2 x3 x4 x5 x6 x7 x8 x9 x10 x11 x12 x13 x14 x15
    clear y0 y1 y2 y3 y4 y5 y6 y7 y8 y9 y10 y11 y12 y13 y14 y15
    clear V_0_0_0 V_0_1_0 V_0_1_1 V_0_2 V_1_0 V_2 U_0_0_0 U_0_1_0 U_0_1_1 U_0_2 U_1_0 U_2
    have z6 := b6.size
    simp only [World.size_alloc] at z6
    replace S0 := S0.below b6 S0.lt
    replace R0 := (((okP _ _ _).sep (((okH _ _ _).sep (okR _ _ _)).sep (okB _ _ _))).sep ((okR _ _ _).sep (okR _ _ _))).below R0 b6
    replace T0 := T0.below b6 T0.lt
    replace X0 := ((okP _ _ _).sep (((okH _ _ _).sep (okR _ _ _)).sep (okB _ _ _))).below X0 b6
    replace XB0 := XB0.below b6 XB0.lt
    replace R1 := (((okP _ _ _).sep (((okH _ _ _).sep (okR _ _ _)).sep (okB _ _ _))).sep ((okR _ _ _).sep (okR _ _ _))).below R1 b6
    replace T1 := T1.below b6 T1.lt
    have B6 := ac B5 b6
    clear b6 B5
    have x0 := S0.cell (i := 0) rfl
    have x1 := S0.cell (i := 1) rfl
    have x2 := S0.cell (i := 2) rfl
    have x3 := S0.cell (i := 3) rfl
    have x4 := S0.cell (i := 4) rfl
    have x5 := S0.cell (i := 5) rfl
    have x6 := S0.cell (i := 6) rfl
    have x7 := S0.cell (i := 7) rfl
    have xx0 := XB0.cell (i := 0) rfl
    have xx1 := XB0.cell (i := 1) rfl
    have xx2 := XB0.cell (i := 2) rfl
    have xx3 := XB0.cell (i := 3) rfl
    have xx4 := XB0.cell (i := 4) rfl
    have xx5 := XB0.cell (i := 5) rfl
    have xx6 := XB0.cell (i := 6) rfl
    have xx7 := XB0.cell (i := 7) rfl
    have lS := S0.lt
    have lX := XB0.lt
    have hWW := Below.refl w6.heap.size w6
    have sl0 : w.heap.size < w6.heap.size := by first | assumption | omega
    have sl1 : w4.heap.size < w6.heap.size := by first | assumption | omega
    have GA : Shut (∀ W : World, (W.cell? ⟨w.heap.size, 0, none⟩ = some (.int .i64 s0_0) ∧ W.cell? ⟨w.heap.size, 1, none⟩ = some (.int .i64 s0_1) ∧ W.cell? ⟨w.heap.size, 2, none⟩ = some (.slice a0_0 n0_0 c0_0) ∧ W.cell? ⟨w.heap.size, 3, none⟩ = some (.int .i64 s0_3) ∧ W.cell? ⟨w.heap.size, 4, none⟩ = some (.slice a0_1 n0_1 c0_1) ∧ W.cell? ⟨w.heap.size, 5, none⟩ = some (.slice a0_2 n0_2 c0_2) ∧ W.cell? ⟨w.heap.size, 6, none⟩ = some (.slice a0_3 n0_3 c0_3) ∧ W.cell? ⟨w.heap.size, 7, none⟩ = some (.int .i64 s0_7) ∧ W.cell? ⟨w4.heap.size, 0, none⟩ = some (.int .i64 s0_0) ∧ W.cell? ⟨w4.heap.size, 1, none⟩ = some (.int .i64 s0_1) ∧ W.cell? ⟨w4.heap.size, 2, none⟩ = some (.slice (some ⟨g4_0, 0, none⟩) n0_0 n0_0) ∧ W.cell? ⟨w4.heap.size, 3, none⟩ = some (.int .i64 s0_3) ∧ W.cell? ⟨w4.heap.size, 4, none⟩ = some (.slice (some ⟨g4_1, 0, none⟩) n0_1 n0_1) ∧ W.cell? ⟨w4.heap.size, 5, none⟩ = some (.slice (some ⟨g4_2, 0, none⟩) n0_2 n0_2) ∧ W.cell? ⟨w4.heap.size, 6, none⟩ = some (.slice (some ⟨g4_3, 0, none⟩) n0_3 n0_3) ∧ W.cell? ⟨w4.heap.size, 7, none⟩ = some (.int .i64 s0_7) ∧ Below w6.heap.size w6 W) → Calls Try.prog 74 #[.agg #[.int .i64 s0_0, .int .i64 s0_1, .slice a0_0 n0_0 c0_0, .int .i64 s0_3, .slice a0_1 n0_1 c0_1, .slice a0_2 n0_2 c0_2, .slice a0_3 n0_3 c0_3, .int .i64 s0_7]] W fun e w' => (∃ q0 q1 q2 q3, e = .returned (.agg #[.int .i64 s0_0, .int .i64 s0_1, .slice (some ⟨q0, 0, none⟩) n0_0 n0_0, .int .i64 s0_3, .slice (some ⟨q1, 0, none⟩) n0_1 n0_1, .slice (some ⟨q2, 0, none⟩) n0_2 n0_2, .slice (some ⟨q3, 0, none⟩) n0_3 n0_3, .int .i64 s0_7]) ∧ Lst PartD.cels 4 w' (some ⟨q0, 0, none⟩) n0_0 l0_0 ∧ Lst HeldD.cels 3 w' (some ⟨q1, 0, none⟩) n0_1 l0_1 ∧ Bs w' (some ⟨q2, 0, none⟩) n0_2 l0_2 ∧ Lst bytC 1 w' (some ⟨q3, 0, none⟩) n0_3 l0_3) ∧ w'.cell? ⟨w.heap.size, 0, none⟩ = some (.int .i64 s0_0) ∧ w'.cell? ⟨w.heap.size, 1, none⟩ = some (.int .i64 s0_1) ∧ w'.cell? ⟨w.heap.size, 2, none⟩ = some (.slice a0_0 n0_0 c0_0) ∧ w'.cell? ⟨w.heap.size, 3, none⟩ = some (.int .i64 s0_3) ∧ w'.cell? ⟨w.heap.size, 4, none⟩ = some (.slice a0_1 n0_1 c0_1) ∧ w'.cell? ⟨w.heap.size, 5, none⟩ = some (.slice a0_2 n0_2 c0_2) ∧ w'.cell? ⟨w.heap.size, 6, none⟩ = some (.slice a0_3 n0_3 c0_3) ∧ w'.cell? ⟨w.heap.size, 7, none⟩ = some (.int .i64 s0_7) ∧ w'.cell? ⟨w4.heap.size, 0, none⟩ = some (.int .i64 s0_0) ∧ w'.cell? ⟨w4.heap.size, 1, none⟩ = some (.int .i64 s0_1) ∧ w'.cell? ⟨w4.heap.size, 2, none⟩ = some (.slice (some ⟨g4_0, 0, none⟩) n0_0 n0_0) ∧ w'.cell? ⟨w4.heap.size, 3, none⟩ = some (.int .i64 s0_3) ∧ w'.cell? ⟨w4.heap.size, 4, none⟩ = some (.slice (some ⟨g4_1, 0, none⟩) n0_1 n0_1) ∧ w'.cell? ⟨w4.heap.size, 5, none⟩ = some (.slice (some ⟨g4_2, 0, none⟩) n0_2 n0_2) ∧ w'.cell? ⟨w4.heap.size, 6, none⟩ = some (.slice (some ⟨g4_3, 0, none⟩) n0_3 n0_3) ∧ w'.cell? ⟨w4.heap.size, 7, none⟩ = some (.int .i64 s0_7) ∧ Below w6.heap.size w6 w') := by
      refine ⟨fun W ⟨y0, y1, y2, y3, y4, y5, y6, y7, y8, y9, y10, y11, y12, y13, y14, y15, y16⟩ => (G0.out W (ac B6 y16)).mono ?_⟩
      rintro e w' ⟨⟨q0, q1, q2, q3, rfl, R⟩, hb⟩
      have hc := fun (b i : Nat) (h : b < w6.heap.size) => hb.cell (p := ⟨b, i, none⟩) (Nat.lt_of_lt_of_le h y16.size)
      have OR := R
      obtain ⟨_, _, _, _, _, OR_0, ⟨_, _, _, _, _, OR_1, OR_2⟩⟩ := OR
      have OR_0_0 := OR_0
      replace OR_0_0 := Lo.rows OR_0_0
      obtain ⟨_, _, _, _, _, OR_1_0, OR_1_1⟩ := OR_1
      replace OR_1_0 := Lo.rows OR_1_0
      replace OR_1_1 := Bo.bs OR_1_1
      replace OR_2 := Lo.rows OR_2
      exact ⟨⟨q0, q1, q2, q3, rfl, OR_0_0, OR_1_0, OR_1_1, OR_2⟩, (hc (w.heap.size) 0 sl0).trans y0, (hc (w.heap.size) 1 sl0).trans y1, (hc (w.heap.size) 2 sl0).trans y2, (hc (w.heap.size) 3 sl0).trans y3, (hc (w.heap.size) 4 sl0).trans y4, (hc (w.heap.size) 5 sl0).trans y5, (hc (w.heap.size) 6 sl0).trans y6, (hc (w.heap.size) 7 sl0).trans y7, (hc (w4.heap.size) 0 sl1).trans y8, (hc (w4.heap.size) 1 sl1).trans y9, (hc (w4.heap.size) 2 sl1).trans y10, (hc (w4.heap.size) 3 sl1).trans y11, (hc (w4.heap.size) 4 sl1).trans y12, (hc (w4.heap.size) 5 sl1).trans y13, (hc (w4.heap.size) 6 sl1).trans y14, (hc (w4.heap.size) 7 sl1).trans y15, ac y16 hb⟩
    have OX := X0
    obtain ⟨_, _, _, _, _, OX_0, ⟨_, _, _, _, _, OX_1, OX_2⟩⟩ := OX
    have OX_0_0 := OX_0
    replace OX_0_0 := Lo.rows OX_0_0
    obtain ⟨_, _, _, _, _, OX_1_0, OX_1_1⟩ := OX_1
    replace OX_1_0 := Lo.rows OX_1_0
    replace OX_1_1 := Bo.bs OX_1_1
    replace OX_2 := Lo.rows OX_2
    have GB : Shut (∀ (q0 q1 q2 q3 : Nat) (W : World), (W.cell? ⟨w.heap.size, 0, none⟩ = some (.int .i64 s0_0) ∧ W.cell? ⟨w.heap.size, 1, none⟩ = some (.int .i64 s0_1) ∧ W.cell? ⟨w.heap.size, 2, none⟩ = some (.slice a0_0 n0_0 c0_0) ∧ W.cell? ⟨w.heap.size, 3, none⟩ = some (.int .i64 s0_3) ∧ W.cell? ⟨w.heap.size, 4, none⟩ = some (.slice a0_1 n0_1 c0_1) ∧ W.cell? ⟨w.heap.size, 5, none⟩ = some (.slice a0_2 n0_2 c0_2) ∧ W.cell? ⟨w.heap.size, 6, none⟩ = some (.slice a0_3 n0_3 c0_3) ∧ W.cell? ⟨w.heap.size, 7, none⟩ = some (.int .i64 s0_7) ∧ W.cell? ⟨w4.heap.size, 0, none⟩ = some (.int .i64 s0_0) ∧ W.cell? ⟨w4.heap.size, 1, none⟩ = some (.int .i64 s0_1) ∧ W.cell? ⟨w4.heap.size, 2, none⟩ = some (.slice (some ⟨g4_0, 0, none⟩) n0_0 n0_0) ∧ W.cell? ⟨w4.heap.size, 3, none⟩ = some (.int .i64 s0_3) ∧ W.cell? ⟨w4.heap.size, 4, none⟩ = some (.slice (some ⟨g4_1, 0, none⟩) n0_1 n0_1) ∧ W.cell? ⟨w4.heap.size, 5, none⟩ = some (.slice (some ⟨g4_2, 0, none⟩) n0_2 n0_2) ∧ W.cell? ⟨w4.heap.size, 6, none⟩ = some (.slice (some ⟨g4_3, 0, none⟩) n0_3 n0_3) ∧ W.cell? ⟨w4.heap.size, 7, none⟩ = some (.int .i64 s0_7) ∧ Below w6.heap.size w6 W) → Lst PartD.cels 4 W (some ⟨q0, 0, none⟩) n0_0 l0_0 → Lst HeldD.cels 3 W (some ⟨q1, 0, none⟩) n0_1 l0_1 → Bs W (some ⟨q2, 0, none⟩) n0_2 l0_2 → Lst bytC 1 W (some ⟨q3, 0, none⟩) n0_3 l0_3 → Calls Try.prog 77 #[.agg #[.int .i64 s0_0, .int .i64 s0_1, .slice (some ⟨g4_0, 0, none⟩) n0_0 n0_0, .int .i64 s0_3, .slice (some ⟨g4_1, 0, none⟩) n0_1 n0_1, .slice (some ⟨g4_2, 0, none⟩) n0_2 n0_2, .slice (some ⟨g4_3, 0, none⟩) n0_3 n0_3, .int .i64 s0_7], .agg #[.int .i64 s0_0, .int .i64 s0_1, .slice (some ⟨q0, 0, none⟩) n0_0 n0_0, .int .i64 s0_3, .slice (some ⟨q1, 0, none⟩) n0_1 n0_1, .slice (some ⟨q2, 0, none⟩) n0_2 n0_2, .slice (some ⟨q3, 0, none⟩) n0_3 n0_3, .int .i64 s0_7]] W fun e w' => e = .returned (.bool true) ∧ w'.cell? ⟨w.heap.size, 0, none⟩ = some (.int .i64 s0_0) ∧ w'.cell? ⟨w.heap.size, 1, none⟩ = some (.int .i64 s0_1) ∧ w'.cell? ⟨w.heap.size, 2, none⟩ = some (.slice a0_0 n0_0 c0_0) ∧ w'.cell? ⟨w.heap.size, 3, none⟩ = some (.int .i64 s0_3) ∧ w'.cell? ⟨w.heap.size, 4, none⟩ = some (.slice a0_1 n0_1 c0_1) ∧ w'.cell? ⟨w.heap.size, 5, none⟩ = some (.slice a0_2 n0_2 c0_2) ∧ w'.cell? ⟨w.heap.size, 6, none⟩ = some (.slice a0_3 n0_3 c0_3) ∧ w'.cell? ⟨w.heap.size, 7, none⟩ = some (.int .i64 s0_7) ∧ w'.cell? ⟨w4.heap.size, 0, none⟩ = some (.int .i64 s0_0) ∧ w'.cell? ⟨w4.heap.size, 1, none⟩ = some (.int .i64 s0_1) ∧ w'.cell? ⟨w4.heap.size, 2, none⟩ = some (.slice (some ⟨g4_0, 0, none⟩) n0_0 n0_0) ∧ w'.cell? ⟨w4.heap.size, 3, none⟩ = some (.int .i64 s0_3) ∧ w'.cell? ⟨w4.heap.size, 4, none⟩ = some (.slice (some ⟨g4_1, 0, none⟩) n0_1 n0_1) ∧ w'.cell? ⟨w4.heap.size, 5, none⟩ = some (.slice (some ⟨g4_2, 0, none⟩) n0_2 n0_2) ∧ w'.cell? ⟨w4.heap.size, 6, none⟩ = some (.slice (some ⟨g4_3, 0, none⟩) n0_3 n0_3) ∧ w'.cell? ⟨w4.heap.size, 7, none⟩ = some (.int .i64 s0_7) ∧ Below w6.heap.size w6 w') := by
      refine ⟨fun q0 q1 q2 q3 W ⟨y0, y1, y2, y3, y4, y5, y6, y7, y8, y9, y10, y11, y12, y13, y14, y15, y16⟩ p0 p1 p2 p3 => (eqEnd_any s0_0 s0_1 s0_3 s0_7 _ _ _ _ _ _ _ _ _ _ _ _ _ _ _ _ _ _ _ _ _ _ _ _ W (OX_0_0.below y16) p0 (OX_1_0.below y16) p1 (OX_1_1.below y16) p2 (OX_2.below y16) p3 (by omega) (fun e he => by have := b0_0 e he; omega) (by omega) (fun e he => by have := b0_1 e he; omega) (by omega) (by omega) (fun e he => by have := b0_3 e he; omega)).mono ?_⟩
      rintro e w' ⟨rfl, hb⟩
      have hc := fun (b i : Nat) (h : b < w6.heap.size) => hb.cell (p := ⟨b, i, none⟩) (Nat.lt_of_lt_of_le h y16.size)
      exact ⟨rfl, (hc (w.heap.size) 0 sl0).trans y0, (hc (w.heap.size) 1 sl0).trans y1, (hc (w.heap.size) 2 sl0).trans y2, (hc (w.heap.size) 3 sl0).trans y3, (hc (w.heap.size) 4 sl0).trans y4, (hc (w.heap.size) 5 sl0).trans y5, (hc (w.heap.size) 6 sl0).trans y6, (hc (w.heap.size) 7 sl0).trans y7, (hc (w4.heap.size) 0 sl1).trans y8, (hc (w4.heap.size) 1 sl1).trans y9, (hc (w4.heap.size) 2 sl1).trans y10, (hc (w4.heap.size) 3 sl1).trans y11, (hc (w4.heap.size) 4 sl1).trans y12, (hc (w4.heap.size) 5 sl1).trans y13, (hc (w4.heap.size) 6 sl1).trans y14, (hc (w4.heap.size) 7 sl1).trans y15, ac y16 hb⟩
    clear OX_0_0 OX_1_0 OX_1_1 OX_2
    go_wp2_with fail
    go_region_held3 (fun W => W.cell? ⟨w.heap.size, 0, none⟩ = some (.int .i64 s0_0) ∧ W.cell? ⟨w.heap.size, 1, none⟩ = some (.int .i64 s0_1) ∧ W.cell? ⟨w.heap.size, 2, none⟩ = some (.slice a0_0 n0_0 c0_0) ∧ W.cell? ⟨w.heap.size, 3, none⟩ = some (.int .i64 s0_3) ∧ W.cell? ⟨w.heap.size, 4, none⟩ = some (.slice a0_1 n0_1 c0_1) ∧ W.cell? ⟨w.heap.size, 5, none⟩ = some (.slice a0_2 n0_2 c0_2) ∧ W.cell? ⟨w.heap.size, 6, none⟩ = some (.slice a0_3 n0_3 c0_3) ∧ W.cell? ⟨w.heap.size, 7, none⟩ = some (.int .i64 s0_7) ∧ W.cell? ⟨w4.heap.size, 0, none⟩ = some (.int .i64 s0_0) ∧ W.cell? ⟨w4.heap.size, 1, none⟩ = some (.int .i64 s0_1) ∧ W.cell? ⟨w4.heap.size, 2, none⟩ = some (.slice (some ⟨g4_0, 0, none⟩) n0_0 n0_0) ∧ W.cell? ⟨w4.heap.size, 3, none⟩ = some (.int .i64 s0_3) ∧ W.cell? ⟨w4.heap.size, 4, none⟩ = some (.slice (some ⟨g4_1, 0, none⟩) n0_1 n0_1) ∧ W.cell? ⟨w4.heap.size, 5, none⟩ = some (.slice (some ⟨g4_2, 0, none⟩) n0_2 n0_2) ∧ W.cell? ⟨w4.heap.size, 6, none⟩ = some (.slice (some ⟨g4_3, 0, none⟩) n0_3 n0_3) ∧ W.cell? ⟨w4.heap.size, 7, none⟩ = some (.int .i64 s0_7) ∧ Below w6.heap.size w6 W)
      (first | (exact ⟨by assumption, by assumption, by assumption, by assumption, by assumption, by assumption, by assumption, by assumption, by assumption, by assumption, by assumption, by assumption, by assumption, by assumption, by assumption, by assumption, by assumption⟩) | (exact ⟨x0, x1, x2, x3, x4, x5, x6, x7, xx0, xx1, xx2, xx3, xx4, xx5, xx6, xx7, hWW.drew⟩) | go_keep)
      (first
        | (go_at_call 74; refine (GA.out _ ?_).mono ?_; (first | assumption | (simp [*]; done)); rintro e w7 ⟨⟨ee0, ee1, ee2, ee3, rfl, pp0, pp1, pp2, pp3⟩, y0, y1, y2, y3, y4, y5, y6, y7, y8, y9, y10, y11, y12, y13, y14, y15, y16⟩)
        | (go_at_call 77; refine (GB.out _ _ _ _ _ ?_ ?_ ?_ ?_ ?_).mono ?_; (first | assumption | (simp [*]; done)); assumption; assumption; assumption; assumption; rintro e w7 ⟨rfl, y0, y1, y2, y3, y4, y5, y6, y7, y8, y9, y10, y11, y12, y13, y14, y15, y16⟩))
    clear GA GB hWW sl0 sl1 lS lX y0 y1 y2 y3 y4 y5 y6 y7 y8 y9 y10 y11 y12 y13 y14 y15
    clear x0 x1 x2 x3 x4 x5 x6 x7
    clear xx0 xx1 xx2 xx3 xx4 xx5 xx6 xx7
    have z7 := y16.size
    replace S0 := S0.below y16 S0.lt
    replace R0 := (((okP _ _ _).sep (((okH _ _ _).sep (okR _ _ _)).sep (okB _ _ _))).sep ((okR _ _ _).sep (okR _ _ _))).below R0 y16
    replace T0 := T0.below y16 T0.lt
    replace X0 := ((okP _ _ _).sep (((okH _ _ _).sep (okR _ _ _)).sep (okB _ _ _))).below X0 y16
    replace XB0 := XB0.below y16 XB0.lt
    replace R1 := (((okP _ _ _).sep (((okH _ _ _).sep (okR _ _ _)).sep (okB _ _ _))).sep ((okR _ _ _).sep (okR _ _ _))).below R1 y16
    replace T1 := T1.below y16 T1.lt
    have B7 := ac B6 y16
    clear y16 B6
    have x0 := XB0.cell (i := 0) rfl
    have x1 := XB0.cell (i := 1) rfl
    have x2 := XB0.cell (i := 2) rfl
    have x3 := XB0.cell (i := 3) rfl
    have x4 := XB0.cell (i := 4) rfl
    have x5 := XB0.cell (i := 5) rfl
    have x6 := XB0.cell (i := 6) rfl
    have x7 := XB0.cell (i := 7) rfl
    go_wp2_with fail
    refine (markEnd_any s0_0 s0_1 s0_3 s0_7 _ _ _ _ _ _ _ _ _ _ _ _ _ _ _ _ _ _ _ X0 (fun b hb => by unfold rng at hb; omega) (by omega) (by omega) (by omega) q0_0 (by omega) q0_1 (by omega) (by omega) q0_3).mono ?_
    rintro e w8 ⟨rfl, _, tc8⟩
    clear x0 x1 x2 x3 x4 x5 x6 x7
    have z8 := tc8.size
    have tb := tc8.below (C := w.heap.size) (by have := B7.size; omega) (fun b hb => by unfold rng at hb; have := B7.size; omega)
    replace S0 := S0.tu tc8 (by unfold rng; omega)
    replace R0 := (((okP _ _ _).sep (((okH _ _ _).sep (okR _ _ _)).sep (okB _ _ _))).sep ((okR _ _ _).sep (okR _ _ _))).tur R0 tc8 (by first | (left; omega) | (right; omega))
    replace T0 := T0.tu tc8 (by unfold rng; omega)
    replace XB0 := XB0.tu tc8 (by unfold rng; omega)
    replace R1 := (((okP _ _ _).sep (((okH _ _ _).sep (okR _ _ _)).sep (okB _ _ _))).sep ((okR _ _ _).sep (okR _ _ _))).tur R1 tc8 (by first | (left; omega) | (right; omega))
    replace T1 := T1.tu tc8 (by unfold rng; omega)
    have B8 := B7.trans tb
    clear B7 tb tc8
    clear X0
    clear XB0
    have x0 := T1.cell (i := 0) rfl
    have x1 := T1.cell (i := 1) rfl
    have x2 := T1.cell (i := 2) rfl
    have x3 := T1.cell (i := 3) rfl
    have x4 := T1.cell (i := 4) rfl
    have x5 := T1.cell (i := 5) rfl
    have x6 := T1.cell (i := 6) rfl
    have x7 := T1.cell (i := 7) rfl
    have x8 := T1.cell (i := 8) rfl
    have x9 := T1.cell (i := 9) rfl
    have x10 := T1.cell (i := 10) rfl
    have x11 := T1.cell (i := 11) rfl
    have x12 := T1.cell (i := 12) rfl
    have x13 := T1.cell (i := 13) rfl
    have x14 := T1.cell (i := 14) rfl
    have x15 := T1.cell (i := 15) rfl
    have y0 := T0.cell (i := 0) rfl
    have y1 := T0.cell (i := 1) rfl
    have y2 := T0.cell (i := 2) rfl
    have y3 := T0.cell (i := 3) rfl
    have y4 := T0.cell (i := 4) rfl
    have y5 := T0.cell (i := 5) rfl
    have y6 := T0.cell (i := 6) rfl
    have y7 := T0.cell (i := 7) rfl
    have y8 := T0.cell (i := 8) rfl
    have y9 := T0.cell (i := 9) rfl
    have y10 := T0.cell (i := 10) rfl
    have y11 := T0.cell (i := 11) rfl
    have y12 := T0.cell (i := 12) rfl
    have y13 := T0.cell (i := 13) rfl
    have y14 := T0.cell (i := 14) rfl
    have y15 := T0.cell (i := 15) rfl
    have V := R1
    obtain ⟨_, _, _, _, _, V_0, ⟨_, _, _, _, _, V_1, V_2⟩⟩ := V
    obtain ⟨_, _, _, _, _, V_0_0, ⟨_, _, _, _, _, V_0_1, V_0_2⟩⟩ := V_0
    have V_0_0_0 := V_0_0
    replace V_0_0_0 := Lo.rows V_0_0_0
    obtain ⟨_, _, _, _, _, V_0_1_0, V_0_1_1⟩ := V_0_1
    replace V_0_1_0 := Lo.rows V_0_1_0
    replace V_0_1_1 := Bo.bs V_0_1_1
    replace V_0_2 := Lo.rows V_0_2
    have V_1_0 := V_1
    replace V_1_0 := Bo.bs V_1_0
    replace V_2 := Bo.bs V_2
    have U := R0
    obtain ⟨_, _, _, _, _, U_0, ⟨_, _, _, _, _, U_1, U_2⟩⟩ := U
    obtain ⟨_, _, _, _, _, U_0_0, ⟨_, _, _, _, _, U_0_1, U_0_2⟩⟩ := U_0
    have U_0_0_0 := U_0_0
    replace U_0_0_0 := Lo.rows U_0_0_0
    obtain ⟨_, _, _, _, _, U_0_1_0, U_0_1_1⟩ := U_0_1
    replace U_0_1_0 := Lo.rows U_0_1_0
    replace U_0_1_1 := Bo.bs U_0_1_1
    replace U_0_2 := Lo.rows U_0_2
    have U_1_0 := U_1
    replace U_1_0 := Bo.bs U_1_0
    replace U_2 := Bo.bs U_2
    go_wp2_with fail
    refine (eqEndResult_any Z0 Z1 Z2 Z4 Z8 Z9 Z10 Z11 Z12 Z13 _ _ _ _ _ _ _ _ _ _ _ _ _ _ _ _ _ _ _ _ _ _ _ _ _ _ _ _ _ _ _ _ _ _ _ _ _ V_0_0_0 U_0_0_0 V_0_1_0 U_0_1_0 V_0_1_1 U_0_1_1 V_0_2 U_0_2 V_1_0 U_1_0 V_2 U_2 (by omega) hB0 (by omega) hB1 (by omega) (by omega) hB3 (by omega) (by omega)).mono ?_
    rintro e w9 ⟨rfl, b9⟩
    as_aux_lemma =>
      clear x0 x1 x2 x3 x4 x5 x6 x7 x8 x9 x10 x11 x12 x13 x14 x15
      clear y0 y1 y2 y3 y4 y5 y6 y7 y8 y9 y10 y11 y12 y13 y14 y15
      clear V_0_0_0 V_0_1_0 V_0_1_1 V_0_2 V_1_0 V_2 U_0_0_0 U_0_1_0 U_0_1_1 U_0_2 U_1_0 U_2
      have z9 := b9.size
      replace S0 := S0.below b9 S0.lt
      replace R0 := (((okP _ _ _).sep (((okH _ _ _).sep (okR _ _ _)).sep (okB _ _ _))).sep ((okR _ _ _).sep (okR _ _ _))).below R0 b9
      replace T0 := T0.below b9 T0.lt
      replace R1 := (((okP _ _ _).sep (((okH _ _ _).sep (okR _ _ _)).sep (okB _ _ _))).sep ((okR _ _ _).sep (okR _ _ _))).below R1 b9
      replace T1 := T1.below b9 T1.lt
      have B9 := ac B8 b9
      clear b9 B8
      have x0 := T1.cell (i := 0) rfl
      have x1 := T1.cell (i := 1) rfl
      have x2 := T1.cell (i := 2) rfl
      have x3 := T1.cell (i := 3) rfl
      have x4 := T1.cell (i := 4) rfl
      have x5 := T1.cell (i := 5) rfl
      have x6 := T1.cell (i := 6) rfl
      have x7 := T1.cell (i := 7) rfl
      have x8 := T1.cell (i := 8) rfl
      have x9 := T1.cell (i := 9) rfl
      have x10 := T1.cell (i := 10) rfl
      have x11 := T1.cell (i := 11) rfl
      have x12 := T1.cell (i := 12) rfl
      have x13 := T1.cell (i := 13) rfl
      have x14 := T1.cell (i := 14) rfl
      have x15 := T1.cell (i := 15) rfl
      go_wp2_with fail
      refine (markEndResult_any Z0 Z1 Z2 Z4 Z8 Z9 Z10 Z11 Z12 Z13 _ _ _ _ _ _ _ _ _ _ _ _ _ _ _ _ _ _ _ _ _ _ _ _ _ _ _ R1 (fun b hb => by unfold rng at hb; omega) (by omega) (by omega) (by omega) (by omega) (by omega) (by omega) (by omega) (by omega) (by omega) (by omega) (by omega)).mono ?_
      rintro e w10 ⟨rfl, RM, tc10⟩
      clear x0 x1 x2 x3 x4 x5 x6 x7 x8 x9 x10 x11 x12 x13 x14 x15
      have z10 := tc10.size
      have tb := tc10.below (C := w.heap.size) (by have := B9.size; omega) (fun b hb => by unfold rng at hb; have := B9.size; omega)
      replace S0 := S0.tu tc10 (by unfold rng; omega)
      replace R0 := (((okP _ _ _).sep (((okH _ _ _).sep (okR _ _ _)).sep (okB _ _ _))).sep ((okR _ _ _).sep (okR _ _ _))).tur R0 tc10 (by first | (left; omega) | (right; omega))
      replace T0 := T0.tu tc10 (by unfold rng; omega)
      replace T1 := T1.tu tc10 (by unfold rng; omega)
      have B10 := B9.trans tb
      clear B9 tb tc10
      clear R1
      have x0 := T1.cell (i := 0) rfl
      have x1 := T1.cell (i := 1) rfl
      have x2 := T1.cell (i := 2) rfl
      have x3 := T1.cell (i := 3) rfl
      have x4 := T1.cell (i := 4) rfl
      have x5 := T1.cell (i := 5) rfl
      have x6 := T1.cell (i := 6) rfl
      have x7 := T1.cell (i := 7) rfl
      have x8 := T1.cell (i := 8) rfl
      have x9 := T1.cell (i := 9) rfl
      have x10 := T1.cell (i := 10) rfl
      have x11 := T1.cell (i := 11) rfl
      have x12 := T1.cell (i := 12) rfl
      have x13 := T1.cell (i := 13) rfl
      have x14 := T1.cell (i := 14) rfl
      have x15 := T1.cell (i := 15) rfl
      have V := RM
      obtain ⟨_, _, _, _, _, V_0, ⟨_, _, _, _, _, V_1, V_2⟩⟩ := V
      obtain ⟨_, _, _, _, _, V_0_0, ⟨_, _, _, _, _, V_0_1, V_0_2⟩⟩ := V_0
      have V_0_0_0 := V_0_0
      replace V_0_0_0 := Lo.rows V_0_0_0
      obtain ⟨_, _, _, _, _, V_0_1_0, V_0_1_1⟩ := V_0_1
      replace V_0_1_0 := Lo.rows V_0_1_0
      replace V_0_1_1 := Bo.bs V_0_1_1
      replace V_0_2 := Lo.rows V_0_2
      have V_1_0 := V_1
      replace V_1_0 := Bo.bs V_1_0
      replace V_2 := Bo.bs V_2
      go_wp2_with fail
      refine (heldEndResult_any Z0 Z1 Z2 Z4 Z8 Z9 Z10 Z11 Z12 Z13 _ _ _ _ _ _ _ _ _ _ _ _ _ _ _ _ _ _ _ _ _ _ _ V_0_0_0 V_0_1_0 V_0_1_1 V_0_2 V_1_0 V_2 (by omega) (by omega) (by omega) (by omega) (by omega) (by omega) (by omega) (by omega) (by omega) (by omega) (by omega)).mono ?_
      rintro e w11 ⟨rfl, b11⟩
      clear x0 x1 x2 x3 x4 x5 x6 x7 x8 x9 x10 x11 x12 x13 x14 x15
      clear V_0_0_0 V_0_1_0 V_0_1_1 V_0_2 V_1_0 V_2
      have z11 := b11.size
      replace S0 := S0.below b11 S0.lt
      replace R0 := (((okP _ _ _).sep (((okH _ _ _).sep (okR _ _ _)).sep (okB _ _ _))).sep ((okR _ _ _).sep (okR _ _ _))).below R0 b11
      replace T0 := T0.below b11 T0.lt
      replace T1 := T1.below b11 T1.lt
      replace RM := (((okP _ _ _).sep (((okH _ _ _).sep (okR _ _ _)).sep (okB _ _ _))).sep ((okR _ _ _).sep (okR _ _ _))).below RM b11
      have B11 := ac B10 b11
      clear b11 B10
      have x0 := S0.cell (i := 0) rfl
      have x1 := S0.cell (i := 1) rfl
      have x2 := S0.cell (i := 2) rfl
      have x3 := S0.cell (i := 3) rfl
      have x4 := S0.cell (i := 4) rfl
      have x5 := S0.cell (i := 5) rfl
      have x6 := S0.cell (i := 6) rfl
      have x7 := S0.cell (i := 7) rfl
      go_wp2_with fail
      refine (G0.out _ B11).mono ?_
      rintro e w12 ⟨⟨g12_0, g12_1, g12_2, g12_3, rfl, E0⟩, b12⟩
      clear x0 x1 x2 x3 x4 x5 x6 x7
      have z12 := b12.size
      replace S0 := S0.below b12 S0.lt
      replace R0 := (((okP _ _ _).sep (((okH _ _ _).sep (okR _ _ _)).sep (okB _ _ _))).sep ((okR _ _ _).sep (okR _ _ _))).below R0 b12
      replace T0 := T0.below b12 T0.lt
      replace T1 := T1.below b12 T1.lt
      replace RM := (((okP _ _ _).sep (((okH _ _ _).sep (okR _ _ _)).sep (okB _ _ _))).sep ((okR _ _ _).sep (okR _ _ _))).below RM b12
      have B12 := ac B11 b12
      clear b12 B11
      have O0 := E0
      obtain ⟨_, _, _, _, _, O0_0, ⟨_, _, _, _, _, O0_1, O0_2⟩⟩ := O0
      have O0_0_0 := O0_0
      replace O0_0_0 := Lo.rows O0_0_0
      obtain ⟨_, _, _, _, _, O0_1_0, O0_1_1⟩ := O0_1
      replace O0_1_0 := Lo.rows O0_1_0
      replace O0_1_1 := Bo.bs O0_1_1
      replace O0_2 := Lo.rows O0_2
      have T1P := hkeep _ _ B12 hP
      go_wp2_with fail
      refine (Gi.out _ _ _ _ _ T1P O0_0_0 O0_1_0 O0_1_1 O0_2).mono ?_
      rintro e w13 ⟨⟨EA0, f0, EA1, f1, EA2, f2, EA3, f3, EA4, f4, EA5, f5, rfl, R2⟩, b13⟩
      as_aux_lemma =>
        clear T1P O0_0_0 O0_1_0 O0_1_1 O0_2
        clear E0
        have z13 := b13.size
        replace S0 := S0.below b13 S0.lt
        replace R0 := (((okP _ _ _).sep (((okH _ _ _).sep (okR _ _ _)).sep (okB _ _ _))).sep ((okR _ _ _).sep (okR _ _ _))).below R0 b13
        replace T0 := T0.below b13 T0.lt
        replace T1 := T1.below b13 T1.lt
        replace RM := (((okP _ _ _).sep (((okH _ _ _).sep (okR _ _ _)).sep (okB _ _ _))).sep ((okR _ _ _).sep (okR _ _ _))).below RM b13
        have B13 := ac B12 b13
        clear b13 B12
        replace S0 := S0.alloc (.cells #[.int .i64 Z0, .int .i64 Z1, .int .i64 Z2, .slice EA0 N0 f0, .int .i64 Z4, .slice EA1 N1 f1, .slice EA2 N2 f2, .slice EA3 N3 f3, .int .i64 Z8, .int .i64 Z9, .int .i64 Z10, .int .i64 Z11, .int .i64 Z12, .bool Z13, .slice EA4 N4 f4, .slice EA5 N5 f5] 121)
        replace R0 := (((okP _ _ _).sep (((okH _ _ _).sep (okR _ _ _)).sep (okB _ _ _))).sep ((okR _ _ _).sep (okR _ _ _))).alloc R0 (.cells #[.int .i64 Z0, .int .i64 Z1, .int .i64 Z2, .slice EA0 N0 f0, .int .i64 Z4, .slice EA1 N1 f1, .slice EA2 N2 f2, .slice EA3 N3 f3, .int .i64 Z8, .int .i64 Z9, .int .i64 Z10, .int .i64 Z11, .int .i64 Z12, .bool Z13, .slice EA4 N4 f4, .slice EA5 N5 f5] 121)
        replace T0 := T0.alloc (.cells #[.int .i64 Z0, .int .i64 Z1, .int .i64 Z2, .slice EA0 N0 f0, .int .i64 Z4, .slice EA1 N1 f1, .slice EA2 N2 f2, .slice EA3 N3 f3, .int .i64 Z8, .int .i64 Z9, .int .i64 Z10, .int .i64 Z11, .int .i64 Z12, .bool Z13, .slice EA4 N4 f4, .slice EA5 N5 f5] 121)
        replace T1 := T1.alloc (.cells #[.int .i64 Z0, .int .i64 Z1, .int .i64 Z2, .slice EA0 N0 f0, .int .i64 Z4, .slice EA1 N1 f1, .slice EA2 N2 f2, .slice EA3 N3 f3, .int .i64 Z8, .int .i64 Z9, .int .i64 Z10, .int .i64 Z11, .int .i64 Z12, .bool Z13, .slice EA4 N4 f4, .slice EA5 N5 f5] 121)
        replace RM := (((okP _ _ _).sep (((okH _ _ _).sep (okR _ _ _)).sep (okB _ _ _))).sep ((okR _ _ _).sep (okR _ _ _))).alloc RM (.cells #[.int .i64 Z0, .int .i64 Z1, .int .i64 Z2, .slice EA0 N0 f0, .int .i64 Z4, .slice EA1 N1 f1, .slice EA2 N2 f2, .slice EA3 N3 f3, .int .i64 Z8, .int .i64 Z9, .int .i64 Z10, .int .i64 Z11, .int .i64 Z12, .bool Z13, .slice EA4 N4 f4, .slice EA5 N5 f5] 121)
        replace R2 := (((okP _ _ _).sep (((okH _ _ _).sep (okR _ _ _)).sep (okB _ _ _))).sep ((okR _ _ _).sep (okR _ _ _))).alloc R2 (.cells #[.int .i64 Z0, .int .i64 Z1, .int .i64 Z2, .slice EA0 N0 f0, .int .i64 Z4, .slice EA1 N1 f1, .slice EA2 N2 f2, .slice EA3 N3 f3, .int .i64 Z8, .int .i64 Z9, .int .i64 Z10, .int .i64 Z11, .int .i64 Z12, .bool Z13, .slice EA4 N4 f4, .slice EA5 N5 f5] 121)
        replace B13 := ab B13 (.cells #[.int .i64 Z0, .int .i64 Z1, .int .i64 Z2, .slice EA0 N0 f0, .int .i64 Z4, .slice EA1 N1 f1, .slice EA2 N2 f2, .slice EA3 N3 f3, .int .i64 Z8, .int .i64 Z9, .int .i64 Z10, .int .i64 Z11, .int .i64 Z12, .bool Z13, .slice EA4 N4 f4, .slice EA5 N5 f5] 121)
        have T2 := Stc.new w13 121 [.int .i64 Z0, .int .i64 Z1, .int .i64 Z2, .slice EA0 N0 f0, .int .i64 Z4, .slice EA1 N1 f1, .slice EA2 N2 f2, .slice EA3 N3 f3, .int .i64 Z8, .int .i64 Z9, .int .i64 Z10, .int .i64 Z11, .int .i64 Z12, .bool Z13, .slice EA4 N4 f4, .slice EA5 N5 f5] _ rfl
        have x0 := T2.cell (i := 0) rfl
        have x1 := T2.cell (i := 1) rfl
        have x2 := T2.cell (i := 2) rfl
        have x3 := T2.cell (i := 3) rfl
        have x4 := T2.cell (i := 4) rfl
        have x5 := T2.cell (i := 5) rfl
        have x6 := T2.cell (i := 6) rfl
        have x7 := T2.cell (i := 7) rfl
        have x8 := T2.cell (i := 8) rfl
        have x9 := T2.cell (i := 9) rfl
        have x10 := T2.cell (i := 10) rfl
        have x11 := T2.cell (i := 11) rfl
        have x12 := T2.cell (i := 12) rfl
        have x13 := T2.cell (i := 13) rfl
        have x14 := T2.cell (i := 14) rfl
        have x15 := T2.cell (i := 15) rfl
        have y0 := T0.cell (i := 0) rfl
        have y1 := T0.cell (i := 1) rfl
        have y2 := T0.cell (i := 2) rfl
        have y3 := T0.cell (i := 3) rfl
        have y4 := T0.cell (i := 4) rfl
        have y5 := T0.cell (i := 5) rfl
        have y6 := T0.cell (i := 6) rfl
        have y7 := T0.cell (i := 7) rfl
        have y8 := T0.cell (i := 8) rfl
        have y9 := T0.cell (i := 9) rfl
        have y10 := T0.cell (i := 10) rfl
        have y11 := T0.cell (i := 11) rfl
        have y12 := T0.cell (i := 12) rfl
        have y13 := T0.cell (i := 13) rfl
        have y14 := T0.cell (i := 14) rfl
        have y15 := T0.cell (i := 15) rfl
        have V := R2
        obtain ⟨_, _, _, _, _, V_0, ⟨_, _, _, _, _, V_1, V_2⟩⟩ := V
        obtain ⟨_, _, _, _, _, V_0_0, ⟨_, _, _, _, _, V_0_1, V_0_2⟩⟩ := V_0
        have V_0_0_0 := V_0_0
        replace V_0_0_0 := Lo.rows V_0_0_0
        obtain ⟨_, _, _, _, _, V_0_1_0, V_0_1_1⟩ := V_0_1
        replace V_0_1_0 := Lo.rows V_0_1_0
        replace V_0_1_1 := Bo.bs V_0_1_1
        replace V_0_2 := Lo.rows V_0_2
        have V_1_0 := V_1
        replace V_1_0 := Bo.bs V_1_0
        replace V_2 := Bo.bs V_2
        have U := R0
        obtain ⟨_, _, _, _, _, U_0, ⟨_, _, _, _, _, U_1, U_2⟩⟩ := U
        obtain ⟨_, _, _, _, _, U_0_0, ⟨_, _, _, _, _, U_0_1, U_0_2⟩⟩ := U_0
        have U_0_0_0 := U_0_0
        replace U_0_0_0 := Lo.rows U_0_0_0
        obtain ⟨_, _, _, _, _, U_0_1_0, U_0_1_1⟩ := U_0_1
        replace U_0_1_0 := Lo.rows U_0_1_0
        replace U_0_1_1 := Bo.bs U_0_1_1
        replace U_0_2 := Lo.rows U_0_2
        have U_1_0 := U_1
        replace U_1_0 := Bo.bs U_1_0
        replace U_2 := Bo.bs U_2
        go_wp2_with fail
        refine (eqEndResult_any Z0 Z1 Z2 Z4 Z8 Z9 Z10 Z11 Z12 Z13 _ _ _ _ _ _ _ _ _ _ _ _ _ _ _ _ _ _ _ _ _ _ _ _ _ _ _ _ _ _ _ _ _ _ _ _ _ V_0_0_0 U_0_0_0 V_0_1_0 U_0_1_0 V_0_1_1 U_0_1_1 V_0_2 U_0_2 V_1_0 U_1_0 V_2 U_2 (by omega) hB0 (by omega) hB1 (by omega) (by omega) hB3 (by omega) (by omega)).mono ?_
        rintro e w14 ⟨rfl, b14⟩
        clear x0 x1 x2 x3 x4 x5 x6 x7 x8 x9 x10 x11 x12 x13 x14 x15
        clear y0 y1 y2 y3 y4 y5 y6 y7 y8 y9 y10 y11 y12 y13 y14 y15
        clear V_0_0_0 V_0_1_0 V_0_1_1 V_0_2 V_1_0 V_2 U_0_0_0 U_0_1_0 U_0_1_1 U_0_2 U_1_0 U_2
        have z14 := b14.size
        simp only [World.size_alloc] at z14
        replace S0 := S0.below b14 S0.lt
        replace R0 := (((okP _ _ _).sep (((okH _ _ _).sep (okR _ _ _)).sep (okB _ _ _))).sep ((okR _ _ _).sep (okR _ _ _))).below R0 b14
        replace T0 := T0.below b14 T0.lt
        replace T1 := T1.below b14 T1.lt
        replace RM := (((okP _ _ _).sep (((okH _ _ _).sep (okR _ _ _)).sep (okB _ _ _))).sep ((okR _ _ _).sep (okR _ _ _))).below RM b14
        replace R2 := (((okP _ _ _).sep (((okH _ _ _).sep (okR _ _ _)).sep (okB _ _ _))).sep ((okR _ _ _).sep (okR _ _ _))).below R2 b14
        replace T2 := T2.below b14 T2.lt
        have B14 := ac B13 b14
        clear b14 B13
        have x0 := T1.cell (i := 0) rfl
        have x1 := T1.cell (i := 1) rfl
        have x2 := T1.cell (i := 2) rfl
        have x3 := T1.cell (i := 3) rfl
        have x4 := T1.cell (i := 4) rfl
        have x5 := T1.cell (i := 5) rfl
        have x6 := T1.cell (i := 6) rfl
        have x7 := T1.cell (i := 7) rfl
        have x8 := T1.cell (i := 8) rfl
        have x9 := T1.cell (i := 9) rfl
        have x10 := T1.cell (i := 10) rfl
        have x11 := T1.cell (i := 11) rfl
        have x12 := T1.cell (i := 12) rfl
        have x13 := T1.cell (i := 13) rfl
        have x14 := T1.cell (i := 14) rfl
        have x15 := T1.cell (i := 15) rfl
        have V := RM
        obtain ⟨_, _, _, _, _, V_0, ⟨_, _, _, _, _, V_1, V_2⟩⟩ := V
        obtain ⟨_, _, _, _, _, V_0_0, ⟨_, _, _, _, _, V_0_1, V_0_2⟩⟩ := V_0
        have V_0_0_0 := V_0_0
        replace V_0_0_0 := Lo.rows V_0_0_0
        obtain ⟨_, _, _, _, _, V_0_1_0, V_0_1_1⟩ := V_0_1
        replace V_0_1_0 := Lo.rows V_0_1_0
        replace V_0_1_1 := Bo.bs V_0_1_1
        replace V_0_2 := Lo.rows V_0_2
        have V_1_0 := V_1
        replace V_1_0 := Bo.bs V_1_0
        replace V_2 := Bo.bs V_2
        go_wp2_with fail
        refine (heldEndResult_any Z0 Z1 Z2 Z4 Z8 Z9 Z10 Z11 Z12 Z13 _ _ _ _ _ _ _ _ _ _ _ _ _ _ _ _ _ _ _ _ _ _ _ V_0_0_0 V_0_1_0 V_0_1_1 V_0_2 V_1_0 V_2 (by omega) (by omega) (by omega) (by omega) (by omega) (by omega) (by omega) (by omega) (by omega) (by omega) (by omega)).mono ?_
        rintro e w15 ⟨rfl, b15⟩
        clear x0 x1 x2 x3 x4 x5 x6 x7 x8 x9 x10 x11 x12 x13 x14 x15
        clear V_0_0_0 V_0_1_0 V_0_1_1 V_0_2 V_1_0 V_2
        have z15 := b15.size
        replace S0 := S0.below b15 S0.lt
        replace R0 := (((okP _ _ _).sep (((okH _ _ _).sep (okR _ _ _)).sep (okB _ _ _))).sep ((okR _ _ _).sep (okR _ _ _))).below R0 b15
        replace T0 := T0.below b15 T0.lt
        replace T1 := T1.below b15 T1.lt
        replace RM := (((okP _ _ _).sep (((okH _ _ _).sep (okR _ _ _)).sep (okB _ _ _))).sep ((okR _ _ _).sep (okR _ _ _))).below RM b15
        replace R2 := (((okP _ _ _).sep (((okH _ _ _).sep (okR _ _ _)).sep (okB _ _ _))).sep ((okR _ _ _).sep (okR _ _ _))).below R2 b15
        replace T2 := T2.below b15 T2.lt
        have B15 := ac B14 b15
        clear b15 B14
        go_wp2
        go_ret
        exact ⟨rfl, B15⟩

theorem exactCellEnd_all (s0_0 : Int) (s0_1 : Int) (s0_3 : Int) (s0_7 : Int) (a0_0 : Option Addr) (n0_0 c0_0 : Nat) (l0_0 : List PartD) (a0_1 : Option Addr) (n0_1 c0_1 : Nat) (l0_1 : List HeldD) (a0_2 : Option Addr) (n0_2 c0_2 : Nat) (l0_2 : List Int) (a0_3 : Option Addr) (n0_3 c0_3 : Nat) (l0_3 : List (List Int)) (w : World) (h0_0 : Lst PartD.cels 4 w a0_0 n0_0 l0_0) (h0_1 : Lst HeldD.cels 3 w a0_1 n0_1 l0_1) (h0_2 : Bs w a0_2 n0_2 l0_2) (h0_3 : Lst bytC 1 w a0_3 n0_3 l0_3) (m0_0 : n0_0 ≤ 9223372036854775807) (mb0_0 : ∀ e ∈ l0_0, e.f0.length ≤ 9223372036854775807) (m0_1 : n0_1 ≤ 9223372036854775807) (mb0_1 : ∀ e ∈ l0_1, e.f1.length ≤ 9223372036854775807) (m0_2 : n0_2 ≤ 9223372036854775807) (m0_3 : n0_3 ≤ 9223372036854775807) (mb0_3 : ∀ e ∈ l0_3, e.length ≤ 9223372036854775807) (hall :  totEnd n0_0 l0_0 n0_1 l0_1 n0_2 n0_3 l0_3 ≤ 1048576 → ∃ (Z0 : Int) (Z1 : Int) (Z2 : Int) (Z4 : Int) (Z8 : Int) (Z9 : Int) (Z10 : Int) (Z11 : Int) (Z12 : Int) (Z13 : Bool) (N0 : Nat) (D0 : List PartD) (N1 : Nat) (D1 : List HeldD) (N2 : Nat) (D2 : List Int) (N3 : Nat) (D3 : List (List Int)) (N4 : Nat) (D4 : List Int) (N5 : Nat) (D5 : List Int), N0 ≤ 2000000 ∧ sumE PartD.wd D0 ≤ 2000000 ∧ (∀ e ∈ D0, e.f0.length ≤ 100000000) ∧ N1 ≤ 2000000 ∧ sumE HeldD.wd D1 ≤ 2000000 ∧ (∀ e ∈ D1, e.f1.length ≤ 100000000) ∧ N2 ≤ 2000000 ∧ N3 ≤ 2000000 ∧ sumE List.length D3 ≤ 2000000 ∧ (∀ e ∈ D3, e.length ≤ 100000000) ∧ N4 ≤ 2000000 ∧ N5 ≤ 2000000 ∧ ∃ (P : World → Prop), P w ∧ (∀ W W' : World, Below W.heap.size W W' → P W → P W') ∧ Shut (∀ (g0_0 g0_1 g0_2 g0_3 : Nat) (W : World) (_ : Lst PartD.cels 4 W (some ⟨g0_0, 0, none⟩) n0_0 l0_0) (_ : Lst HeldD.cels 3 W (some ⟨g0_1, 0, none⟩) n0_1 l0_1) (_ : Bs W (some ⟨g0_2, 0, none⟩) n0_2 l0_2) (_ : Lst bytC 1 W (some ⟨g0_3, 0, none⟩) n0_3 l0_3), Calls Try.prog 73 #[.agg #[.int .i64 s0_0, .int .i64 s0_1, .slice (some ⟨g0_0, 0, none⟩) n0_0 n0_0, .int .i64 s0_3, .slice (some ⟨g0_1, 0, none⟩) n0_1 n0_1, .slice (some ⟨g0_2, 0, none⟩) n0_2 n0_2, .slice (some ⟨g0_3, 0, none⟩) n0_3 n0_3, .int .i64 s0_7]] W (fun e w' => (∃ A0 d0 A1 d1 A2 d2 A3 d3 A4 d4 A5 d5, e = .returned (.agg #[.int .i64 Z0, .int .i64 Z1, .int .i64 Z2, .slice A0 N0 d0, .int .i64 Z4, .slice A1 N1 d1, .slice A2 N2 d2, .slice A3 N3 d3, .int .i64 Z8, .int .i64 Z9, .int .i64 Z10, .int .i64 Z11, .int .i64 Z12, .bool Z13, .slice A4 N4 d4, .slice A5 N5 d5]) ∧ (Thing.sep (Thing.sep (tP A0 N0 D0) (Thing.sep (Thing.sep (tH A1 N1 D1) (tR A2 N2 D2)) (tB A3 N3 D3))) (Thing.sep (tR A4 N4 D4) (tR A5 N5 D5))) w' (rng W.heap.size w'.heap.size)) ∧ Below W.heap.size W w')) ∧ Shut (∀ (g0_0 g0_1 g0_2 g0_3 : Nat) (W : World) (_ : P W) (_ : Lst PartD.cels 4 W (some ⟨g0_0, 0, none⟩) n0_0 l0_0) (_ : Lst HeldD.cels 3 W (some ⟨g0_1, 0, none⟩) n0_1 l0_1) (_ : Bs W (some ⟨g0_2, 0, none⟩) n0_2 l0_2) (_ : Lst bytC 1 W (some ⟨g0_3, 0, none⟩) n0_3 l0_3), Calls Try.prog 75 #[.agg #[.int .i64 s0_0, .int .i64 s0_1, .slice (some ⟨g0_0, 0, none⟩) n0_0 n0_0, .int .i64 s0_3, .slice (some ⟨g0_1, 0, none⟩) n0_1 n0_1, .slice (some ⟨g0_2, 0, none⟩) n0_2 n0_2, .slice (some ⟨g0_3, 0, none⟩) n0_3 n0_3, .int .i64 s0_7]] W (fun e w' => (∃ A0 d0 A1 d1 A2 d2 A3 d3 A4 d4 A5 d5, e = .returned (.agg #[.int .i64 Z0, .int .i64 Z1, .int .i64 Z2, .slice A0 N0 d0, .int .i64 Z4, .slice A1 N1 d1, .slice A2 N2 d2, .slice A3 N3 d3, .int .i64 Z8, .int .i64 Z9, .int .i64 Z10, .int .i64 Z11, .int .i64 Z12, .bool Z13, .slice A4 N4 d4, .slice A5 N5 d5]) ∧ (Thing.sep (Thing.sep (tP A0 N0 D0) (Thing.sep (Thing.sep (tH A1 N1 D1) (tR A2 N2 D2)) (tB A3 N3 D3))) (Thing.sep (tR A4 N4 D4) (tR A5 N5 D5))) w' (rng W.heap.size w'.heap.size)) ∧ Below W.heap.size W w'))) :
    Calls Try.prog 11 #[.agg #[.int .i64 s0_0, .int .i64 s0_1, .slice a0_0 n0_0 c0_0, .int .i64 s0_3, .slice a0_1 n0_1 c0_1, .slice a0_2 n0_2 c0_2, .slice a0_3 n0_3 c0_3, .int .i64 s0_7]] w fun e w' => e = .returned (.bool true) ∧ Below w.heap.size w w' := by
  by_cases hz0 : totEnd n0_0 l0_0 n0_1 l0_1 n0_2 n0_3 l0_3 ≤ 1048576
  rotate_left
  · clear hall
    have hq0 : leftC 1048576 (totEnd n0_0 l0_0 n0_1 l0_1 n0_2 n0_3 l0_3) = -1 := by unfold leftC; rw [if_pos (by omega)]
    have cz0 := fun W (b : Below w.heap.size w W) => szEnd_any s0_0 s0_1 s0_3 s0_7 a0_0 n0_0 c0_0 l0_0 a0_1 n0_1 c0_1 l0_1 a0_2 n0_2 c0_2 l0_2 a0_3 n0_3 c0_3 l0_3 (1048576) W (h0_0.below b) (h0_1.below b) (h0_2.below b) (h0_3.below b) (by omega) (by omega) m0_0 mb0_0 m0_1 mb0_1 m0_2 m0_3 mb0_3
    rw [hq0] at cz0
    clear hq0
    have S0 := Stc.new w 116 [.int .i64 s0_0, .int .i64 s0_1, .slice a0_0 n0_0 c0_0, .int .i64 s0_3, .slice a0_1 n0_1 c0_1, .slice a0_2 n0_2 c0_2, .slice a0_3 n0_3 c0_3, .int .i64 s0_7] _ rfl
    have B0 := (ab (Below.refl _ w) (.cells #[.int .i64 s0_0, .int .i64 s0_1, .slice a0_0 n0_0 c0_0, .int .i64 s0_3, .slice a0_1 n0_1 c0_1, .slice a0_2 n0_2 c0_2, .slice a0_3 n0_3 c0_3, .int .i64 s0_7] 116))
    go_enter Try.func11, Try.ntmps11
    have x0 := S0.cell (i := 0) rfl
    have x1 := S0.cell (i := 1) rfl
    have x2 := S0.cell (i := 2) rfl
    have x3 := S0.cell (i := 3) rfl
    have x4 := S0.cell (i := 4) rfl
    have x5 := S0.cell (i := 5) rfl
    have x6 := S0.cell (i := 6) rfl
    have x7 := S0.cell (i := 7) rfl
    go_wp2_with fail
    refine (cz0 _ B0).mono ?_
    rintro e w1 ⟨rfl, b1⟩
    clear x0 x1 x2 x3 x4 x5 x6 x7
    replace S0 := S0.below b1 S0.lt
    have B1_ := ac B0 b1
    go_wp2
    go_ret
    exact ⟨rfl, B1_⟩
  obtain ⟨Z0, Z1, Z2, Z4, Z8, Z9, Z10, Z11, Z12, Z13, N0, D0, N1, D1, N2, D2, N3, D3, N4, D4, N5, D5, hN0, hS0, hB0, hN1, hS1, hB1, hN2, hN3, hS3, hB3, hN4, hN5, P, hP, hkeep, Gs, Gi⟩ := hall hz0
  exact exactCellEnd_walk s0_0 s0_1 s0_3 s0_7 a0_0 n0_0 c0_0 l0_0 a0_1 n0_1 c0_1 l0_1 a0_2 n0_2 c0_2 l0_2 a0_3 n0_3 c0_3 l0_3 w h0_0 h0_1 h0_2 h0_3 hz0 Z0 Z1 Z2 Z4 Z8 Z9 Z10 Z11 Z12 Z13 N0 D0 N1 D1 N2 D2 N3 D3 N4 D4 N5 D5 hN0 hS0 hB0 hN1 hS1 hB1 hN2 hN3 hS3 hB3 hN4 hN5 P hP hkeep Gs Gi
end Go.Proofs.Ytgmbofoneeagiaa
