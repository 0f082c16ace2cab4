/- The walk of the exact law of SymFault. -/
import Derived.Test.YtknkadmngdaakaaFaultC
import Derived.Deep.RegionHeld3

namespace Go.Proofs.Ytknkadmngdaakaa
open Go.RowKit

/-- what is left when three runs fit -/
theorem leftS_fit {n m q : Nat} (h : n + m + q ≤ 1048576) : leftS n m q = 1048576 - (n : Int) - m - q := by unfold leftS; rw [if_neg (by omega), if_neg (by omega), if_neg (by omega)]
theorem leftS_not {n m q : Nat} (h : ¬ n + m + q ≤ 1048576) : leftS n m q = -1 := by unfold leftS; repeat' split <;> first | rfl | omega

set_option maxHeartbeats 2000000 in
theorem exactSymFault_walk (a0 a1 a2 : Option Addr) (n0 c0 n1 c1 n2 c2 : Nat) (l0 l1 l2 : List Int) (k : Int) (w : World) (h0 : Bs w a0 n0 l0) (h1 : Bs w a1 n1 l1) (h2 : Bs w a2 n2 l2) (hsz : n0 + n1 + n2 ≤ 1048576) :
    Calls Try.prog 3 #[.agg #[.slice a0 n0 c0, .slice a1 n1 c1, .slice a2 n2 c2, .int .i64 k]] w fun e w' => e = .returned (.bool true) ∧ Below w.heap.size w w' := by
  have hL := leftS_fit hsz
  have csz := fun W => szSym_any a0 a1 a2 n0 c0 n1 c1 n2 c2 k W (by omega) (by omega) (by omega)
  obtain ⟨x, hx⟩ : ∃ x, x = leftS n0 n1 n2 := ⟨_, rfl⟩
  rw [← hx] at csz hL
  have hx0 : ¬ x < 0 := by omega
  have Gs := Shut.mk (fun A B C f g i W => spec_SymFault_any A B C n0 f n1 g i n2 k W)
  have Gi := Shut.mk (fun A B C f g i W => impl_SymFault_any A B C n0 f n1 g i n2 k W)
  generalize symC n0 n1 n2 k = Z at *
  have Gt := Shut.mk (fun W (b : Below w.heap.size w W) => toSym_any a0 a1 a2 n0 c0 n1 c1 n2 c2 l0 l1 l2 k W (h0.below b) (h1.below b) (h2.below b) (by omega) (by omega) (by omega))
  have d0 : n0 ≤ 140737488351232 := by omega
  have d1 : n1 ≤ 140737488351232 := by omega
  have d2 : n2 ≤ 140737488351232 := by omega
  clear hL hx hsz h0 h1 h2
  have B0 := ab (Below.refl _ w) (.cells #[.slice a0 n0 c0, .slice a1 n1 c1, .slice a2 n2 c2, .int .i64 k] 24)
  have S0 := Stc.new w 24 [.slice a0 n0 c0, .slice a1 n1 c1, .slice a2 n2 c2, .int .i64 k] _ rfl
  go_enter Try.func3, Try.ntmps3
  go_wp2_with fail
  refine (csz _).mono ?_
  rintro e w1 ⟨rfl, b1⟩
  have B1 := ac B0 b1
  replace S0 := S0.below b1 (by simp)
  clear b1 B0
  have x0 := S0.cell (i := 0) rfl
  have x1 := S0.cell (i := 1) rfl
  have x2 := S0.cell (i := 2) rfl
  have x3 := S0.cell (i := 3) rfl
  go_wp2_with fail
  refine (Gt.out _ B1).mono ?_
  rintro e w2 ⟨⟨g0, g1, g2, rfl, R2⟩, b2⟩
  have B2 := ac B1 b2
  have s1 := S0.lt
  replace S0 := S0.below b2 s1
  clear b2 B1 x0 x1 x2 x3 R2
  have x0 := S0.cell (i := 0) rfl
  have x1 := S0.cell (i := 1) rfl
  have x2 := S0.cell (i := 2) rfl
  have x3 := S0.cell (i := 3) rfl
  go_wp2_with fail
  refine (Gs.out _ _ _ _ _ _ _).mono ?_
  rintro e w3 ⟨rfl, b3⟩
  have B3 := ac B2 b3
  have s2 := S0.lt
  replace S0 := S0.below b3 s2
  clear b3 B2 x0 x1 x2 x3
  have x0 := S0.cell (i := 0) rfl
  have x1 := S0.cell (i := 1) rfl
  have x2 := S0.cell (i := 2) rfl
  have x3 := S0.cell (i := 3) rfl
  go_wp2_with fail
  refine (Gt.out _ B3).mono ?_
  rintro e w4 ⟨⟨g3, g4, g5, rfl, R4⟩, b4⟩
  have B4 := ac B3 b4
  have s3 := S0.lt
  replace S0 := S0.below b4 s3
  clear b4 x0 x1 x2 x3
  have R5 := R4.alloc (.cells #[.slice (some ⟨g3, 0, none⟩) n0 n0, .slice (some ⟨g4, 0, none⟩) n1 n1, .slice (some ⟨g5, 0, none⟩) n2 n2, .int .i64 k] 27)
  have B5 := ab B4 (.cells #[.slice (some ⟨g3, 0, none⟩) n0 n0, .slice (some ⟨g4, 0, none⟩) n1 n1, .slice (some ⟨g5, 0, none⟩) n2 n2, .int .i64 k] 27)
  have S5 := Stc.new w4 27 [.slice (some ⟨g3, 0, none⟩) n0 n0, .slice (some ⟨g4, 0, none⟩) n1 n1, .slice (some ⟨g5, 0, none⟩) n2 n2, .int .i64 k] _ rfl
  have s4 := S0.lt
  replace S0 := S0.alloc (.cells #[.slice (some ⟨g3, 0, none⟩) n0 n0, .slice (some ⟨g4, 0, none⟩) n1 n1, .slice (some ⟨g5, 0, none⟩) n2 n2, .int .i64 k] 27)
  go_wp2_with fail
  refine (Gi.out _ _ _ _ _ _ _).mono ?_
  rintro e w6 ⟨rfl, b6⟩
  have B6 := ac B5 b6
  replace S0 := S0.below b6 (by simp; omega)
  replace S5 := S5.below b6 (by simp)
  replace R5 := R5.below b6 (Nat.le_refl _)
  have x0 := S0.cell (i := 0) rfl
  have x1 := S0.cell (i := 1) rfl
  have x2 := S0.cell (i := 2) rfl
  have x3 := S0.cell (i := 3) rfl
  have y0 := S5.cell (i := 0) rfl
  have y1 := S5.cell (i := 1) rfl
  have y2 := S5.cell (i := 2) rfl
  have y3 := S5.cell (i := 3) rfl
  have s5 := S0.lt
  have s6 := S5.lt
  have hWW := Below.refl w6.heap.size w6
  have sl0 : w.heap.size < w6.heap.size := by first | assumption | omega
  have sl1 : w4.heap.size < w6.heap.size := by first | assumption | omega
  have GA : Shut (∀ W : World, (W.cell? ⟨w.heap.size, 0, none⟩ = some (.slice a0 n0 c0) ∧ W.cell? ⟨w.heap.size, 1, none⟩ = some (.slice a1 n1 c1) ∧ W.cell? ⟨w.heap.size, 2, none⟩ = some (.slice a2 n2 c2) ∧ W.cell? ⟨w.heap.size, 3, none⟩ = some (.int .i64 k) ∧ W.cell? ⟨w4.heap.size, 0, none⟩ = some (.slice (some ⟨g3, 0, none⟩) n0 n0) ∧ W.cell? ⟨w4.heap.size, 1, none⟩ = some (.slice (some ⟨g4, 0, none⟩) n1 n1) ∧ W.cell? ⟨w4.heap.size, 2, none⟩ = some (.slice (some ⟨g5, 0, none⟩) n2 n2) ∧ W.cell? ⟨w4.heap.size, 3, none⟩ = some (.int .i64 k) ∧ Below w6.heap.size w6 W) → Calls Try.prog 7 #[.agg #[.slice a0 n0 c0, .slice a1 n1 c1, .slice a2 n2 c2, .int .i64 k]] W fun e w' => (∃ g0 g1 g2, e = .returned (.agg #[.slice (some ⟨g0, 0, none⟩) n0 n0, .slice (some ⟨g1, 0, none⟩) n1 n1, .slice (some ⟨g2, 0, none⟩) n2 n2, .int .i64 k]) ∧ Bs w' (some ⟨g0, 0, none⟩) n0 l0 ∧ Bs w' (some ⟨g1, 0, none⟩) n1 l1 ∧ Bs w' (some ⟨g2, 0, none⟩) n2 l2) ∧ w'.cell? ⟨w.heap.size, 0, none⟩ = some (.slice a0 n0 c0) ∧ w'.cell? ⟨w.heap.size, 1, none⟩ = some (.slice a1 n1 c1) ∧ w'.cell? ⟨w.heap.size, 2, none⟩ = some (.slice a2 n2 c2) ∧ w'.cell? ⟨w.heap.size, 3, none⟩ = some (.int .i64 k) ∧ w'.cell? ⟨w4.heap.size, 0, none⟩ = some (.slice (some ⟨g3, 0, none⟩) n0 n0) ∧ w'.cell? ⟨w4.heap.size, 1, none⟩ = some (.slice (some ⟨g4, 0, none⟩) n1 n1) ∧ w'.cell? ⟨w4.heap.size, 2, none⟩ = some (.slice (some ⟨g5, 0, none⟩) n2 n2) ∧ w'.cell? ⟨w4.heap.size, 3, none⟩ = some (.int .i64 k) ∧ Below w6.heap.size w6 w') := by
    refine ⟨fun W ⟨z0, z1, z2, z3, z4, z5, z6, z7, z8⟩ => (Gt.out W (ac B6 z8)).mono ?_⟩
    rintro e w' ⟨⟨g0, g1, g2, rfl, R⟩, hb⟩
    have hc := fun (b i : Nat) (h : b < w6.heap.size) => hb.cell (p := ⟨b, i, none⟩) (Nat.lt_of_lt_of_le h z8.size)
    exact ⟨⟨g0, g1, g2, rfl, R.head.bs, R.rest.head.bs, R.rest.rest.head.bs⟩, (hc w.heap.size 0 sl0).trans z0, (hc w.heap.size 1 sl0).trans z1, (hc w.heap.size 2 sl0).trans z2, (hc w.heap.size 3 sl0).trans z3, (hc w4.heap.size 0 sl1).trans z4, (hc w4.heap.size 1 sl1).trans z5, (hc w4.heap.size 2 sl1).trans z6, (hc w4.heap.size 3 sl1).trans z7, ac z8 hb⟩
  have GB : Shut (∀ (g0 g1 g2 : Nat) (W : World), (W.cell? ⟨w.heap.size, 0, none⟩ = some (.slice a0 n0 c0) ∧ W.cell? ⟨w.heap.size, 1, none⟩ = some (.slice a1 n1 c1) ∧ W.cell? ⟨w.heap.size, 2, none⟩ = some (.slice a2 n2 c2) ∧ W.cell? ⟨w.heap.size, 3, none⟩ = some (.int .i64 k) ∧ W.cell? ⟨w4.heap.size, 0, none⟩ = some (.slice (some ⟨g3, 0, none⟩) n0 n0) ∧ W.cell? ⟨w4.heap.size, 1, none⟩ = some (.slice (some ⟨g4, 0, none⟩) n1 n1) ∧ W.cell? ⟨w4.heap.size, 2, none⟩ = some (.slice (some ⟨g5, 0, none⟩) n2 n2) ∧ W.cell? ⟨w4.heap.size, 3, none⟩ = some (.int .i64 k) ∧ Below w6.heap.size w6 W) → Bs W (some ⟨g0, 0, none⟩) n0 l0 → Bs W (some ⟨g1, 0, none⟩) n1 l1 → Bs W (some ⟨g2, 0, none⟩) n2 l2 → Calls Try.prog 9 #[.agg #[.slice (some ⟨g3, 0, none⟩) n0 n0, .slice (some ⟨g4, 0, none⟩) n1 n1, .slice (some ⟨g5, 0, none⟩) n2 n2, .int .i64 k], .agg #[.slice (some ⟨g0, 0, none⟩) n0 n0, .slice (some ⟨g1, 0, none⟩) n1 n1, .slice (some ⟨g2, 0, none⟩) n2 n2, .int .i64 k]] W fun e w' => e = .returned (.bool true) ∧ w'.cell? ⟨w.heap.size, 0, none⟩ = some (.slice a0 n0 c0) ∧ w'.cell? ⟨w.heap.size, 1, none⟩ = some (.slice a1 n1 c1) ∧ w'.cell? ⟨w.heap.size, 2, none⟩ = some (.slice a2 n2 c2) ∧ w'.cell? ⟨w.heap.size, 3, none⟩ = some (.int .i64 k) ∧ w'.cell? ⟨w4.heap.size, 0, none⟩ = some (.slice (some ⟨g3, 0, none⟩) n0 n0) ∧ w'.cell? ⟨w4.heap.size, 1, none⟩ = some (.slice (some ⟨g4, 0, none⟩) n1 n1) ∧ w'.cell? ⟨w4.heap.size, 2, none⟩ = some (.slice (some ⟨g5, 0, none⟩) n2 n2) ∧ w'.cell? ⟨w4.heap.size, 3, none⟩ = some (.int .i64 k) ∧ Below w6.heap.size w6 w') := by
    refine ⟨fun g0 g1 g2 W ⟨z0, z1, z2, z3, z4, z5, z6, z7, z8⟩ p0 p1 p2 => (eqSym_any _ _ _ _ _ _ _ _ _ _ _ _ _ _ _ _ _ _ _ _ (R5.head.bs.below z8) (R5.rest.head.bs.below z8) (R5.rest.rest.head.bs.below z8) p0 p1 p2 d0 d1 d2).mono ?_⟩
    rintro e w' ⟨rfl, hb⟩
    have hc := fun (b i : Nat) (h : b < w6.heap.size) => hb.cell (p := ⟨b, i, none⟩) (Nat.lt_of_lt_of_le h z8.size)
    exact ⟨rfl, (hc w.heap.size 0 sl0).trans z0, (hc w.heap.size 1 sl0).trans z1, (hc w.heap.size 2 sl0).trans z2, (hc w.heap.size 3 sl0).trans z3, (hc w4.heap.size 0 sl1).trans z4, (hc w4.heap.size 1 sl1).trans z5, (hc w4.heap.size 2 sl1).trans z6, (hc w4.heap.size 3 sl1).trans z7, ac z8 hb⟩
  go_wp2_with fail
  go_region_held3 (fun W => W.cell? ⟨w.heap.size, 0, none⟩ = some (.slice a0 n0 c0) ∧ W.cell? ⟨w.heap.size, 1, none⟩ = some (.slice a1 n1 c1) ∧ W.cell? ⟨w.heap.size, 2, none⟩ = some (.slice a2 n2 c2) ∧ W.cell? ⟨w.heap.size, 3, none⟩ = some (.int .i64 k) ∧ W.cell? ⟨w4.heap.size, 0, none⟩ = some (.slice (some ⟨g3, 0, none⟩) n0 n0) ∧ W.cell? ⟨w4.heap.size, 1, none⟩ = some (.slice (some ⟨g4, 0, none⟩) n1 n1) ∧ W.cell? ⟨w4.heap.size, 2, none⟩ = some (.slice (some ⟨g5, 0, none⟩) n2 n2) ∧ W.cell? ⟨w4.heap.size, 3, none⟩ = some (.int .i64 k) ∧ Below w6.heap.size w6 W)
    (first | (exact ⟨by assumption, by assumption, by assumption, by assumption, by assumption, by assumption, by assumption, by assumption, by assumption⟩) | (exact ⟨x0, x1, x2, x3, y0, y1, y2, y3, hWW.drew⟩) | go_keep)
    (first
      | (go_at_call 7; refine (GA.out _ ?_).mono ?_; (first | assumption | (simp [*]; done)); rintro e w' ⟨⟨e0, e1, e2, rfl, p0, p1, p2⟩, z0, z1, z2, z3, z4, z5, z6, z7, z8⟩)
      | (go_at_call 9; refine (GB.out _ _ _ _ ?_ ?_ ?_ ?_).mono ?_; (first | assumption | (simp [*]; done)); assumption; assumption; assumption; rintro e w' ⟨rfl, z0, z1, z2, z3, z4, z5, z6, z7, z8⟩))
  go_wp2
  go_ret
  exact ⟨rfl, ac B6 z8⟩

theorem exactSymFault_all (a0 a1 a2 : Option Addr) (n0 c0 n1 c1 n2 c2 : Nat) (l0 l1 l2 : List Int) (k : Int) (w : World) (h0 : Bs w a0 n0 l0) (h1 : Bs w a1 n1 l1) (h2 : Bs w a2 n2 l2) (d0 : n0 ≤ 9223372036854775807) (d1 : n1 ≤ 9223372036854775807) (d2 : n2 ≤ 9223372036854775807) :
    Calls Try.prog 3 #[.agg #[.slice a0 n0 c0, .slice a1 n1 c1, .slice a2 n2 c2, .int .i64 k]] w fun e w' => e = .returned (.bool true) ∧ Below w.heap.size w w' := by
  by_cases hsz : n0 + n1 + n2 ≤ 1048576
  · exact exactSymFault_walk a0 a1 a2 n0 c0 n1 c1 n2 c2 l0 l1 l2 k w h0 h1 h2 hsz
  · have hL := leftS_not hsz
    have csz := fun W => szSym_any a0 a1 a2 n0 c0 n1 c1 n2 c2 k W d0 d1 d2
    rw [hL] at csz
    go_enter Try.func3, Try.ntmps3
    go_wp2_with fail
    refine (csz _).mono ?_
    rintro e w1 ⟨rfl, b1⟩
    go_wp2
    go_ret
    exact ⟨rfl, ac (ab (Below.refl _ w) _) b1⟩
end Go.Proofs.Ytknkadmngdaakaa
