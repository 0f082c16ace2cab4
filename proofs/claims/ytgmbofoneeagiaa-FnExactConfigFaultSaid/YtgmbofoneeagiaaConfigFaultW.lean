/- The walk of the exact law of ConfigFault. -/
import Derived.Test.YtgmbofoneeagiaaEvtS
import Derived.Deep.RegionHeld3
import Derived.Deep.CutRange
namespace Go.Proofs.Ytgmbofoneeagiaa
open Go.RowKit

set_option linter.unusedVariables false in
set_option maxRecDepth 100000 in
set_option maxHeartbeats 4000000 in
theorem exactConfigFault_walk (s0_0 : Bool) (a0_0 : Option Addr) (n0_0 c0_0 : Nat) (l0_0 : List Int) (w : World) (h0_0 : Bs w a0_0 n0_0 l0_0)  (hsz : totConfig n0_0 ≤ 1048576) (Z0 : Int)   (P : World → Prop) (hP : P w) (hkeep : ∀ W W' : World, Below W.heap.size W W' → P W → P W') (Gs : Shut (∀ (g0_0 : Nat) (W : World) (_ : Bs W (some ⟨g0_0, 0, none⟩) n0_0 l0_0), Calls Try.prog 13 #[.agg #[.bool s0_0, .slice (some ⟨g0_0, 0, none⟩) n0_0 n0_0]] W (fun e w' => e = .returned (.int .i64 Z0) ∧ Below W.heap.size W w'))) (Gi : Shut (∀ (g0_0 : Nat) (W : World) (_ : P W) (_ : Bs W (some ⟨g0_0, 0, none⟩) n0_0 l0_0), Calls Try.prog 15 #[.agg #[.bool s0_0, .slice (some ⟨g0_0, 0, none⟩) n0_0 n0_0]] W (fun e w' => e = .returned (.int .i64 Z0) ∧ Below W.heap.size W w'))) :
    Calls Try.prog 3 #[.agg #[.bool s0_0, .slice a0_0 n0_0 c0_0]] w fun e w' => e = .returned (.bool true) ∧ Below w.heap.size w w' := by
  have HSZ : True := trivial
  have ts0 : totConfig n0_0 = n0_0 := rfl
  have f0_0 : n0_0 ≤ 1048576 := by omega
  have G0 := Shut.mk (fun W (b : Below w.heap.size w W) => toConfig_any s0_0 a0_0 n0_0 c0_0 l0_0 W (h0_0.below b) f0_0)
  have hq0 : leftC 1048576 (totConfig n0_0) = 1048576 - (((totConfig n0_0 : Nat) : Int) : Int) := by unfold leftC; rw [if_neg (by omega)]
  have cz0 := fun W (b : Below w.heap.size w W) => szConfig_any s0_0 a0_0 n0_0 c0_0 l0_0 (1048576) W (h0_0.below b) (by omega) (by omega) (by omega)
  rw [hq0] at cz0
  clear hq0
  obtain ⟨lf0, hlf0⟩ : ∃ x, x = 1048576 - ((totConfig n0_0 : Nat) : Int) := ⟨_, rfl⟩
  rw [← hlf0] at cz0
  have lp0 : ¬ lf0 < 0 := by omega
  have lm0 : lf0 ≤ 1048576 := by omega
  clear hlf0 ts0
  clear h0_0
  clear hsz
  have B0 := Below.refl w.heap.size w
  replace B0 := ab B0 (.cells #[.bool s0_0, .slice a0_0 n0_0 c0_0] 24)
  have S0 := Stc.new w 24 [.bool s0_0, .slice a0_0 n0_0 c0_0] _ rfl
  go_enter Try.func3, Try.ntmps3
  have x0 := S0.cell (i := 0) rfl
  have x1 := S0.cell (i := 1) rfl
  go_wp2_with fail
  refine (cz0 _ B0).mono ?_
  rintro e w1 ⟨rfl, b1⟩
  clear x0 x1
  have z1 := b1.size
  simp only [World.size_alloc] at z1
  replace S0 := S0.below b1 S0.lt
  have B1 := ac B0 b1
  clear b1 B0
  have x0 := S0.cell (i := 0) rfl
  have x1 := S0.cell (i := 1) rfl
  go_wp2_with fail
  refine (G0.out _ B1).mono ?_
  rintro e w2 ⟨⟨g2_0, rfl, M0⟩, b2⟩
  clear x0 x1
  have z2 := b2.size
  replace S0 := S0.below b2 S0.lt
  have B2 := ac B1 b2
  clear b2 B1
  have O0 := M0
  have O0_0 := O0
  replace O0_0 := Bo.bs O0_0
  go_wp2_with fail
  refine (Gs.out _ _ O0_0).mono ?_
  rintro e w3 ⟨rfl, b3⟩
  clear O0_0
  clear M0
  have z3 := b3.size
  replace S0 := S0.below b3 S0.lt
  have B3 := ac B2 b3
  clear b3 B2
  have x0 := S0.cell (i := 0) rfl
  have x1 := S0.cell (i := 1) rfl
  go_wp2_with fail
  refine (G0.out _ B3).mono ?_
  rintro e w4 ⟨⟨g4_0, rfl, X0⟩, b4⟩
  clear x0 x1
  have z4 := b4.size
  replace S0 := S0.below b4 S0.lt
  have B4 := ac B3 b4
  clear b4 B3
  replace S0 := S0.alloc (.cells #[.bool s0_0, .slice (some ⟨g4_0, 0, none⟩) n0_0 n0_0] 27)
  replace X0 := (okR _ _ _).alloc X0 (.cells #[.bool s0_0, .slice (some ⟨g4_0, 0, none⟩) n0_0 n0_0] 27)
  replace B4 := ab B4 (.cells #[.bool s0_0, .slice (some ⟨g4_0, 0, none⟩) n0_0 n0_0] 27)
  have XB0 := Stc.new w4 27 [.bool s0_0, .slice (some ⟨g4_0, 0, none⟩) n0_0 n0_0] _ rfl
  have x0_0 := XB0.cell (i := 0) rfl
  have x0_1 := XB0.cell (i := 1) rfl
  have O0 := X0
  have O0_0 := O0
  replace O0_0 := Bo.bs O0_0
  have T1P := hkeep _ _ B4 hP
  go_wp2_with fail
  refine (Gi.out _ _ T1P O0_0).mono ?_
  rintro e w5 ⟨rfl, b5⟩
  clear T1P O0_0
  clear x0_0 x0_1
  have z5 := b5.size
  simp only [World.size_alloc] at z5
  replace S0 := S0.below b5 S0.lt
  replace X0 := (okR _ _ _).below X0 b5
  replace XB0 := XB0.below b5 XB0.lt
  have B5 := ac B4 b5
  clear b5 B4
  have x0 := S0.cell (i := 0) rfl
  have x1 := S0.cell (i := 1) rfl
  have xx0 := XB0.cell (i := 0) rfl
  have xx1 := XB0.cell (i := 1) rfl
  have lS := S0.lt
  have lX := XB0.lt
  have hWW := Below.refl w5.heap.size w5
  have sl0 : w.heap.size < w5.heap.size := by first | assumption | omega
  have sl1 : w4.heap.size < w5.heap.size := by first | assumption | omega
  have GA : Shut (∀ W : World, (W.cell? ⟨w.heap.size, 0, none⟩ = some (.bool s0_0) ∧ W.cell? ⟨w.heap.size, 1, none⟩ = some (.slice a0_0 n0_0 c0_0) ∧ W.cell? ⟨w4.heap.size, 0, none⟩ = some (.bool s0_0) ∧ W.cell? ⟨w4.heap.size, 1, none⟩ = some (.slice (some ⟨g4_0, 0, none⟩) n0_0 n0_0) ∧ Below w5.heap.size w5 W) → Calls Try.prog 14 #[.agg #[.bool s0_0, .slice a0_0 n0_0 c0_0]] W fun e w' => (∃ q0, e = .returned (.agg #[.bool s0_0, .slice (some ⟨q0, 0, none⟩) n0_0 n0_0]) ∧ Bs w' (some ⟨q0, 0, none⟩) n0_0 l0_0) ∧ w'.cell? ⟨w.heap.size, 0, none⟩ = some (.bool s0_0) ∧ w'.cell? ⟨w.heap.size, 1, none⟩ = some (.slice a0_0 n0_0 c0_0) ∧ w'.cell? ⟨w4.heap.size, 0, none⟩ = some (.bool s0_0) ∧ w'.cell? ⟨w4.heap.size, 1, none⟩ = some (.slice (some ⟨g4_0, 0, none⟩) n0_0 n0_0) ∧ Below w5.heap.size w5 w') := by
    refine ⟨fun W ⟨y0, y1, y2, y3, y4⟩ => (G0.out W (ac B5 y4)).mono ?_⟩
    rintro e w' ⟨⟨q0, rfl, R⟩, hb⟩
    have hc := fun (b i : Nat) (h : b < w5.heap.size) => hb.cell (p := ⟨b, i, none⟩) (Nat.lt_of_lt_of_le h y4.size)
    have OR := R
    have OR_0 := OR
    replace OR_0 := Bo.bs OR_0
    exact ⟨⟨q0, rfl, OR_0⟩, (hc (w.heap.size) 0 sl0).trans y0, (hc (w.heap.size) 1 sl0).trans y1, (hc (w4.heap.size) 0 sl1).trans y2, (hc (w4.heap.size) 1 sl1).trans y3, ac y4 hb⟩
  have OX := X0
  have OX_0 := OX
  replace OX_0 := Bo.bs OX_0
  have GB : Shut (∀ (q0 : Nat) (W : World), (W.cell? ⟨w.heap.size, 0, none⟩ = some (.bool s0_0) ∧ W.cell? ⟨w.heap.size, 1, none⟩ = some (.slice a0_0 n0_0 c0_0) ∧ W.cell? ⟨w4.heap.size, 0, none⟩ = some (.bool s0_0) ∧ W.cell? ⟨w4.heap.size, 1, none⟩ = some (.slice (some ⟨g4_0, 0, none⟩) n0_0 n0_0) ∧ Below w5.heap.size w5 W) → Bs W (some ⟨q0, 0, none⟩) n0_0 l0_0 → Calls Try.prog 16 #[.agg #[.bool s0_0, .slice (some ⟨g4_0, 0, none⟩) n0_0 n0_0], .agg #[.bool s0_0, .slice (some ⟨q0, 0, none⟩) n0_0 n0_0]] W fun e w' => e = .returned (.bool true) ∧ w'.cell? ⟨w.heap.size, 0, none⟩ = some (.bool s0_0) ∧ w'.cell? ⟨w.heap.size, 1, none⟩ = some (.slice a0_0 n0_0 c0_0) ∧ w'.cell? ⟨w4.heap.size, 0, none⟩ = some (.bool s0_0) ∧ w'.cell? ⟨w4.heap.size, 1, none⟩ = some (.slice (some ⟨g4_0, 0, none⟩) n0_0 n0_0) ∧ Below w5.heap.size w5 w') := by
    refine ⟨fun q0 W ⟨y0, y1, y2, y3, y4⟩ p0 => (eqConfig_any s0_0 _ _ _ _ _ _ W (OX_0.below y4) p0 (by omega)).mono ?_⟩
    rintro e w' ⟨rfl, hb⟩
    have hc := fun (b i : Nat) (h : b < w5.heap.size) => hb.cell (p := ⟨b, i, none⟩) (Nat.lt_of_lt_of_le h y4.size)
    exact ⟨rfl, (hc (w.heap.size) 0 sl0).trans y0, (hc (w.heap.size) 1 sl0).trans y1, (hc (w4.heap.size) 0 sl1).trans y2, (hc (w4.heap.size) 1 sl1).trans y3, ac y4 hb⟩
  clear OX_0
  go_wp2_with fail
  go_region_held3 (fun W => W.cell? ⟨w.heap.size, 0, none⟩ = some (.bool s0_0) ∧ W.cell? ⟨w.heap.size, 1, none⟩ = some (.slice a0_0 n0_0 c0_0) ∧ W.cell? ⟨w4.heap.size, 0, none⟩ = some (.bool s0_0) ∧ W.cell? ⟨w4.heap.size, 1, none⟩ = some (.slice (some ⟨g4_0, 0, none⟩) n0_0 n0_0) ∧ Below w5.heap.size w5 W)
    (first | (exact ⟨by assumption, by assumption, by assumption, by assumption, by assumption⟩) | (exact ⟨x0, x1, xx0, xx1, hWW.drew⟩) | go_keep)
    (first
      | (go_at_call 14; refine (GA.out _ ?_).mono ?_; (first | assumption | (simp [*]; done)); rintro e w6 ⟨⟨ee0, rfl, pp0⟩, y0, y1, y2, y3, y4⟩)
      | (go_at_call 16; refine (GB.out _ _ ?_ ?_).mono ?_; (first | assumption | (simp [*]; done)); assumption; rintro e w6 ⟨rfl, y0, y1, y2, y3, y4⟩))
  clear GA GB hWW sl0 sl1 lS lX y0 y1 y2 y3
  clear x0 x1
  clear xx0 xx1
  have z6 := y4.size
  replace S0 := S0.below y4 S0.lt
  replace X0 := (okR _ _ _).below X0 y4
  replace XB0 := XB0.below y4 XB0.lt
  have B6 := ac B5 y4
  clear y4 B5
  go_wp2
  go_ret
  exact ⟨rfl, B6⟩

theorem exactConfigFault_all (s0_0 : Bool) (a0_0 : Option Addr) (n0_0 c0_0 : Nat) (l0_0 : List Int) (w : World) (h0_0 : Bs w a0_0 n0_0 l0_0) (m0_0 : n0_0 ≤ 9223372036854775807) (hall :  totConfig n0_0 ≤ 1048576 → ∃ (Z0 : Int) ,  ∃ (P : World → Prop), P w ∧ (∀ W W' : World, Below W.heap.size W W' → P W → P W') ∧ Shut (∀ (g0_0 : Nat) (W : World) (_ : Bs W (some ⟨g0_0, 0, none⟩) n0_0 l0_0), Calls Try.prog 13 #[.agg #[.bool s0_0, .slice (some ⟨g0_0, 0, none⟩) n0_0 n0_0]] W (fun e w' => e = .returned (.int .i64 Z0) ∧ Below W.heap.size W w')) ∧ Shut (∀ (g0_0 : Nat) (W : World) (_ : P W) (_ : Bs W (some ⟨g0_0, 0, none⟩) n0_0 l0_0), Calls Try.prog 15 #[.agg #[.bool s0_0, .slice (some ⟨g0_0, 0, none⟩) n0_0 n0_0]] W (fun e w' => e = .returned (.int .i64 Z0) ∧ Below W.heap.size W w'))) :
    Calls Try.prog 3 #[.agg #[.bool s0_0, .slice a0_0 n0_0 c0_0]] w fun e w' => e = .returned (.bool true) ∧ Below w.heap.size w w' := by
  by_cases hz0 : totConfig n0_0 ≤ 1048576
  rotate_left
  · clear hall
    have hq0 : leftC 1048576 (totConfig n0_0) = -1 := by unfold leftC; rw [if_pos (by omega)]
    have cz0 := fun W (b : Below w.heap.size w W) => szConfig_any s0_0 a0_0 n0_0 c0_0 l0_0 (1048576) W (h0_0.below b) (by omega) (by omega) m0_0
    rw [hq0] at cz0
    clear hq0
    have S0 := Stc.new w 24 [.bool s0_0, .slice a0_0 n0_0 c0_0] _ rfl
    have B0 := (ab (Below.refl _ w) (.cells #[.bool s0_0, .slice a0_0 n0_0 c0_0] 24))
    go_enter Try.func3, Try.ntmps3
    have x0 := S0.cell (i := 0) rfl
    have x1 := S0.cell (i := 1) rfl
    go_wp2_with fail
    refine (cz0 _ B0).mono ?_
    rintro e w1 ⟨rfl, b1⟩
    clear x0 x1
    replace S0 := S0.below b1 S0.lt
    have B1_ := ac B0 b1
    go_wp2
    go_ret
    exact ⟨rfl, B1_⟩
  obtain ⟨Z0, P, hP, hkeep, Gs, Gi⟩ := hall hz0
  exact exactConfigFault_walk s0_0 a0_0 n0_0 c0_0 l0_0 w h0_0 hz0 Z0 P hP hkeep Gs Gi
end Go.Proofs.Ytgmbofoneeagiaa
