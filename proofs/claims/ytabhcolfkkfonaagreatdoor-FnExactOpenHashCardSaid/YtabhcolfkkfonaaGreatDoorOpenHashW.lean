/- The walk of the exact law of OpenHash. -/
import Derived.Test.YtabhcolfkkfonaaGreatDoorSymB
import Derived.Deep.RegionHeld3
namespace Go.Proofs.YtabhcolfkkfonaaGreatDoor
open Go.RowKit

set_option maxHeartbeats 4000000 in
theorem exactOpenHash_walk (a0 a1 a2 : Option Addr) (n0 c0 n1 c1 n2 c2 : Nat) (l0 l1 l2 : List Int) (k : Int) (a3 : Option Addr) (n3 c3 : Nat) (l3 : List Int) (w : World) (h0 : Bs w a0 n0 l0) (h1 : Bs w a1 n1 l1) (h2 : Bs w a2 n2 l2) (h3 : Bs w a3 n3 l3) (hd3 : n3 ≤ 1048576) (hsz : n0 + n1 + n2 ≤ 1048576) (C : Int) (K : Int) (N0 N1 N2 N3 : Nat) (L0 L1 L2 L3 : List Int) (hN0 : N0 ≤ 2000000) (hN1 : N1 ≤ 2000000) (hN2 : N2 ≤ 2000000) (hN3 : N3 ≤ 2000000) (P : World → Prop) (hP : P w) (hkeep : ∀ W W' : World, Below W.heap.size W W' → P W → P W') (Gs : Shut (∀ (g0 g1 g2 gd : Nat) (W : World) (_ : Bs W (some ⟨g0, 0, none⟩) n0 l0) (_ : Bs W (some ⟨g1, 0, none⟩) n1 l1) (_ : Bs W (some ⟨g2, 0, none⟩) n2 l2) (_ : Bs W (some ⟨gd, 0, none⟩) n3 l3), Calls Tryz.prog 22 #[.agg #[.slice (some ⟨g0, 0, none⟩) n0 n0, .slice (some ⟨g1, 0, none⟩) n1 n1, .slice (some ⟨g2, 0, none⟩) n2 n2, .int .i64 k], .slice (some ⟨gd, 0, none⟩) n3 n3] W (SymAns C N0 N1 N2 N3 L0 L1 L2 L3 K W))) (Gi : Shut (∀ (g0 g1 g2 gd : Nat) (W : World) (_ : P W) (_ : Bs W (some ⟨g0, 0, none⟩) n0 l0) (_ : Bs W (some ⟨g1, 0, none⟩) n1 l1) (_ : Bs W (some ⟨g2, 0, none⟩) n2 l2) (_ : Bs W (some ⟨gd, 0, none⟩) n3 l3), Calls Tryz.prog 14 #[.agg #[.slice (some ⟨g0, 0, none⟩) n0 n0, .slice (some ⟨g1, 0, none⟩) n1 n1, .slice (some ⟨g2, 0, none⟩) n2 n2, .int .i64 k], .slice (some ⟨gd, 0, none⟩) n3 n3] W (SymAns C N0 N1 N2 N3 L0 L1 L2 L3 K W))) :
    Calls Tryz.prog 7 #[.agg #[.slice a0 n0 c0, .slice a1 n1 c1, .slice a2 n2 c2, .int .i64 k], .slice a3 n3 c3] w fun e w' => e = .returned (.bool true) ∧ Below w.heap.size w w' := by
  have hL := leftS_fit hsz
  have csz := fun W => szSym_any a0 a1 a2 n0 c0 n1 c1 n2 c2 k W (by omega) (by omega) (by omega)
  obtain ⟨x, hx⟩ : ∃ x, x = leftS n0 n1 n2 := ⟨_, rfl⟩
  rw [← hx] at csz hL
  have hx0 : ¬ x < 0 := by omega
  have Gt := Shut.mk (fun W (b : Below w.heap.size w W) => toSym_any a0 a1 a2 n0 c0 n1 c1 n2 c2 l0 l1 l2 k W (h0.below b) (h1.below b) (h2.below b) (by omega) (by omega) (by omega))
  have Gb := Shut.mk (fun W (b : Below w.heap.size w W) => toByteS_any a3 n3 c3 l3 W (h3.below b) (by omega))
  have e3 := h3.byte
  have Y3 := Shut.mk h3.len
  have d0 : n0 ≤ 1048576 := by omega
  have d1 : n1 ≤ 1048576 := by omega
  have d2 : n2 ≤ 1048576 := by omega
  clear hL hx hsz h0 h1 h2 h3
  have f0 := d0
  have f1 := d1
  have f2 := d2
  replace d0 : n0 ≤ 140737488351232 := by omega
  replace d1 : n1 ≤ 140737488351232 := by omega
  replace d2 : n2 ≤ 140737488351232 := by omega
  have B0 := ab (Below.refl _ w) (.cells #[.slice a0 n0 c0, .slice a1 n1 c1, .slice a2 n2 c2, .int .i64 k] 64)
  have S0 := Stc.new w 64 [.slice a0 n0 c0, .slice a1 n1 c1, .slice a2 n2 c2, .int .i64 k] _ rfl
  go_enter Tryz.func7, Tryz.ntmps7
  go_wp2_with fail
  refine (csz _).mono ?_
  rintro e w1 ⟨rfl, b1⟩
  have z101 := b1.size
  replace S0 := S0.below b1 S0.lt
  have B1 := ac B0 b1
  clear b1 B0
  simp only [World.size_alloc] at z101
  have x0 := S0.cell (i := 0) rfl
  have x1 := S0.cell (i := 1) rfl
  have x2 := S0.cell (i := 2) rfl
  have x3 := S0.cell (i := 3) rfl
  go_wp2_with fail
  refine (Gt.out _ B1).mono ?_
  rintro e w2 ⟨⟨g0, g1, g2, rfl, R2⟩, b2⟩
  clear x0 x1 x2 x3
  have z102 := b2.size
  replace S0 := S0.below b2 S0.lt
  have B2 := ac B1 b2
  clear b2 B1
  go_wp2_with fail
  refine (Gb.out _ B2).mono ?_
  rintro e w3 ⟨rfl, k3, b3⟩
  replace R2 := R2.below b3 (Nat.le_refl _)
  have z103 := b3.size
  replace S0 := S0.below b3 S0.lt
  have B3 := ac B2 b3
  clear b3 B2
  go_wp2_with fail
  refine (Gs.out _ _ _ _ _ R2.head.bs R2.rest.head.bs R2.rest.rest.head.bs (k3.bsn e3 Y3.out)).mono ?_
  rintro e w4 ⟨⟨A0, u0, A1, u1, A2, u2, A3, u3, rfl, G0, _⟩, b4⟩
  clear R2 k3
  have z104 := b4.size
  replace S0 := S0.below b4 S0.lt
  have B4 := ac B3 b4
  clear b4 B3
  have tG0 := G0.tops
  replace S0 := S0.alloc (.cells #[.int .i64 C, .slice A0 N0 u0, .slice A1 N1 u1, .slice A2 N2 u2, .int .i64 K, .slice A3 N3 u3] 29)
  replace B4 := ab B4 (.cells #[.int .i64 C, .slice A0 N0 u0, .slice A1 N1 u1, .slice A2 N2 u2, .int .i64 K, .slice A3 N3 u3] 29)
  replace G0 := G0.alloc (.cells #[.int .i64 C, .slice A0 N0 u0, .slice A1 N1 u1, .slice A2 N2 u2, .int .i64 K, .slice A3 N3 u3] 29)
  have T0 := Stc.new w4 29 [.int .i64 C, .slice A0 N0 u0, .slice A1 N1 u1, .slice A2 N2 u2, .int .i64 K, .slice A3 N3 u3] _ rfl
  have x0 := S0.cell (i := 0) rfl
  have x1 := S0.cell (i := 1) rfl
  have x2 := S0.cell (i := 2) rfl
  have x3 := S0.cell (i := 3) rfl
  go_wp2_with fail
  refine (Gt.out _ B4).mono ?_
  rintro e w5 ⟨⟨g3, g4, g5, rfl, RX⟩, b5⟩
  clear x0 x1 x2 x3
  simp only [World.size_alloc] at RX
  have z105 := b5.size
  replace S0 := S0.below b5 S0.lt
  replace G0 := G0.below b5 (Nat.le_refl _)
  replace T0 := T0.below b5 T0.lt
  have B5 := ac B4 b5
  clear b5 B4
  have tRX := RX.tops
  have bRX := RX.bases
  simp only [World.size_alloc] at z105
  replace S0 := S0.alloc (.cells #[.slice (some ⟨g3, 0, none⟩) n0 n0, .slice (some ⟨g4, 0, none⟩) n1 n1, .slice (some ⟨g5, 0, none⟩) n2 n2, .int .i64 k] 25)
  replace G0 := G0.alloc (.cells #[.slice (some ⟨g3, 0, none⟩) n0 n0, .slice (some ⟨g4, 0, none⟩) n1 n1, .slice (some ⟨g5, 0, none⟩) n2 n2, .int .i64 k] 25)
  replace T0 := T0.alloc (.cells #[.slice (some ⟨g3, 0, none⟩) n0 n0, .slice (some ⟨g4, 0, none⟩) n1 n1, .slice (some ⟨g5, 0, none⟩) n2 n2, .int .i64 k] 25)
  replace B5 := ab B5 (.cells #[.slice (some ⟨g3, 0, none⟩) n0 n0, .slice (some ⟨g4, 0, none⟩) n1 n1, .slice (some ⟨g5, 0, none⟩) n2 n2, .int .i64 k] 25)
  replace RX := RX.alloc (.cells #[.slice (some ⟨g3, 0, none⟩) n0 n0, .slice (some ⟨g4, 0, none⟩) n1 n1, .slice (some ⟨g5, 0, none⟩) n2 n2, .int .i64 k] 25)
  have X0 := Stc.new w5 25 [.slice (some ⟨g3, 0, none⟩) n0 n0, .slice (some ⟨g4, 0, none⟩) n1 n1, .slice (some ⟨g5, 0, none⟩) n2 n2, .int .i64 k] _ rfl
  go_wp2_with fail
  refine (Gb.out _ B5).mono ?_
  rintro e w6 ⟨rfl, k6, b6⟩
  simp only [World.size_alloc] at k6 ⊢
  have z106 := b6.size
  replace S0 := S0.below b6 S0.lt
  replace G0 := G0.below b6 (Nat.le_refl _)
  replace T0 := T0.below b6 T0.lt
  replace RX := RX.below b6 (Nat.le_refl _)
  replace X0 := X0.below b6 X0.lt
  have B6 := ac B5 b6
  clear b6 B5
  simp only [World.size_alloc] at z106
  have R1 : Rs w6 (w5.heap.size + 1) [(some ⟨w5.heap.size + 1, 0, none⟩, n3, l3)] := Rs.cons (k6.own e3 Y3.out) (fun y hy => by cases hy) (Rs.nil _ _)
  have tR1 := R1.tops
  have bR1 := R1.bases
  clear k6
  have x0 := X0.cell (i := 0) rfl
  have x1 := X0.cell (i := 1) rfl
  have x2 := X0.cell (i := 2) rfl
  have x3 := X0.cell (i := 3) rfl
  have T1P := hkeep _ _ B6 hP
  go_wp2_with fail
  refine (Gi.out _ _ _ _ _ T1P RX.head.bs RX.rest.head.bs RX.rest.rest.head.bs R1.head.bs).mono ?_
  rintro e w7 ⟨⟨D0, v0, D1, v1, D2, v2, D3, v3, rfl, G1, _⟩, b7⟩
  clear T1P
  clear x0 x1 x2 x3
  have z107 := b7.size
  replace S0 := S0.below b7 S0.lt
  replace G0 := G0.below b7 (Nat.le_refl _)
  replace T0 := T0.below b7 T0.lt
  replace RX := RX.below b7 (Nat.le_refl _)
  replace X0 := X0.below b7 X0.lt
  replace R1 := R1.below b7 (Nat.le_refl _)
  have B7 := ac B6 b7
  clear b7 B6
  have tG1 := G1.tops
  have bG1 := G1.bases
  replace S0 := S0.alloc (.cells #[.int .i64 C, .slice D0 N0 v0, .slice D1 N1 v1, .slice D2 N2 v2, .int .i64 K, .slice D3 N3 v3] 29)
  replace G0 := G0.alloc (.cells #[.int .i64 C, .slice D0 N0 v0, .slice D1 N1 v1, .slice D2 N2 v2, .int .i64 K, .slice D3 N3 v3] 29)
  replace T0 := T0.alloc (.cells #[.int .i64 C, .slice D0 N0 v0, .slice D1 N1 v1, .slice D2 N2 v2, .int .i64 K, .slice D3 N3 v3] 29)
  replace RX := RX.alloc (.cells #[.int .i64 C, .slice D0 N0 v0, .slice D1 N1 v1, .slice D2 N2 v2, .int .i64 K, .slice D3 N3 v3] 29)
  replace X0 := X0.alloc (.cells #[.int .i64 C, .slice D0 N0 v0, .slice D1 N1 v1, .slice D2 N2 v2, .int .i64 K, .slice D3 N3 v3] 29)
  replace R1 := R1.alloc (.cells #[.int .i64 C, .slice D0 N0 v0, .slice D1 N1 v1, .slice D2 N2 v2, .int .i64 K, .slice D3 N3 v3] 29)
  replace B7 := ab B7 (.cells #[.int .i64 C, .slice D0 N0 v0, .slice D1 N1 v1, .slice D2 N2 v2, .int .i64 K, .slice D3 N3 v3] 29)
  replace G1 := G1.alloc (.cells #[.int .i64 C, .slice D0 N0 v0, .slice D1 N1 v1, .slice D2 N2 v2, .int .i64 K, .slice D3 N3 v3] 29)
  have T1 := Stc.new w7 29 [.int .i64 C, .slice D0 N0 v0, .slice D1 N1 v1, .slice D2 N2 v2, .int .i64 K, .slice D3 N3 v3] _ rfl
  have x0 := T1.cell (i := 0) rfl
  have x1 := T1.cell (i := 1) rfl
  have x2 := T1.cell (i := 2) rfl
  have x3 := T1.cell (i := 3) rfl
  have x4 := T1.cell (i := 4) rfl
  have x5 := T1.cell (i := 5) rfl
  have y0 := T0.cell (i := 0) rfl
  have y1 := T0.cell (i := 1) rfl
  have y2 := T0.cell (i := 2) rfl
  have y3 := T0.cell (i := 3) rfl
  have y4 := T0.cell (i := 4) rfl
  have y5 := T0.cell (i := 5) rfl
  go_wp2_with fail
  refine (eqSymResult_any _ _ _ _ _ _ _ _ _ _ _ _ _ _ _ _ _ _ _ _ _ _ _ _ _ _ _ G1.head.bs G1.rest.head.bs G1.rest.rest.head.bs G1.rest.rest.rest.head.bs G0.head.bs G0.rest.head.bs G0.rest.rest.head.bs G0.rest.rest.rest.head.bs (by omega) (by omega) (by omega) (by omega)).mono ?_
  rintro e w8 ⟨rfl, b8⟩
  clear x0 x1 x2 x3 x4 x5
  clear y0 y1 y2 y3 y4 y5
  have z108 := b8.size
  replace S0 := S0.below b8 S0.lt
  replace G0 := G0.below b8 (Nat.le_refl _)
  replace T0 := T0.below b8 T0.lt
  replace RX := RX.below b8 (Nat.le_refl _)
  replace X0 := X0.below b8 X0.lt
  replace R1 := R1.below b8 (Nat.le_refl _)
  replace G1 := G1.below b8 (Nat.le_refl _)
  replace T1 := T1.below b8 T1.lt
  have B8 := ac B7 b8
  clear b8 B7
  simp only [World.size_alloc] at z108
  have x0 := S0.cell (i := 0) rfl
  have x1 := S0.cell (i := 1) rfl
  have x2 := S0.cell (i := 2) rfl
  have x3 := S0.cell (i := 3) rfl
  have y0 := X0.cell (i := 0) rfl
  have y1 := X0.cell (i := 1) rfl
  have y2 := X0.cell (i := 2) rfl
  have y3 := X0.cell (i := 3) rfl
  have sS := S0.lt
  have sX := X0.lt
  have hWW := Below.refl w8.heap.size w8
  have sl0 : w.heap.size < w8.heap.size := by first | assumption | omega
  have sl1 : w5.heap.size < w8.heap.size := by first | assumption | omega
  have GA : Shut (∀ W : World, (W.cell? ⟨w.heap.size, 0, none⟩ = some (.slice a0 n0 c0) ∧ W.cell? ⟨w.heap.size, 1, none⟩ = some (.slice a1 n1 c1) ∧ W.cell? ⟨w.heap.size, 2, none⟩ = some (.slice a2 n2 c2) ∧ W.cell? ⟨w.heap.size, 3, none⟩ = some (.int .i64 k) ∧ W.cell? ⟨w5.heap.size, 0, none⟩ = some (.slice (some ⟨g3, 0, none⟩) n0 n0) ∧ W.cell? ⟨w5.heap.size, 1, none⟩ = some (.slice (some ⟨g4, 0, none⟩) n1 n1) ∧ W.cell? ⟨w5.heap.size, 2, none⟩ = some (.slice (some ⟨g5, 0, none⟩) n2 n2) ∧ W.cell? ⟨w5.heap.size, 3, none⟩ = some (.int .i64 k) ∧ Below w8.heap.size w8 W) → Calls Tryz.prog 48 #[.agg #[.slice a0 n0 c0, .slice a1 n1 c1, .slice a2 n2 c2, .int .i64 k]] W fun e w' => (∃ g0 g1 g2, e = .returned (.agg #[.slice (some ⟨g0, 0, none⟩) n0 n0, .slice (some ⟨g1, 0, none⟩) n1 n1, .slice (some ⟨g2, 0, none⟩) n2 n2, .int .i64 k]) ∧ Bs w' (some ⟨g0, 0, none⟩) n0 l0 ∧ Bs w' (some ⟨g1, 0, none⟩) n1 l1 ∧ Bs w' (some ⟨g2, 0, none⟩) n2 l2) ∧ w'.cell? ⟨w.heap.size, 0, none⟩ = some (.slice a0 n0 c0) ∧ w'.cell? ⟨w.heap.size, 1, none⟩ = some (.slice a1 n1 c1) ∧ w'.cell? ⟨w.heap.size, 2, none⟩ = some (.slice a2 n2 c2) ∧ w'.cell? ⟨w.heap.size, 3, none⟩ = some (.int .i64 k) ∧ w'.cell? ⟨w5.heap.size, 0, none⟩ = some (.slice (some ⟨g3, 0, none⟩) n0 n0) ∧ w'.cell? ⟨w5.heap.size, 1, none⟩ = some (.slice (some ⟨g4, 0, none⟩) n1 n1) ∧ w'.cell? ⟨w5.heap.size, 2, none⟩ = some (.slice (some ⟨g5, 0, none⟩) n2 n2) ∧ w'.cell? ⟨w5.heap.size, 3, none⟩ = some (.int .i64 k) ∧ Below w8.heap.size w8 w') := by
    refine ⟨fun W ⟨z0, z1, z2, z3, z4, z5, z6, z7, z8⟩ => (Gt.out W (ac B8 z8)).mono ?_⟩
    rintro e w' ⟨⟨g0, g1, g2, rfl, R⟩, hb⟩
    have hc := fun (b i : Nat) (h : b < w8.heap.size) => hb.cell (p := ⟨b, i, none⟩) (Nat.lt_of_lt_of_le h z8.size)
    exact ⟨⟨g0, g1, g2, rfl, R.head.bs, R.rest.head.bs, R.rest.rest.head.bs⟩, (hc w.heap.size 0 sl0).trans z0, (hc w.heap.size 1 sl0).trans z1, (hc w.heap.size 2 sl0).trans z2, (hc w.heap.size 3 sl0).trans z3, (hc w5.heap.size 0 sl1).trans z4, (hc w5.heap.size 1 sl1).trans z5, (hc w5.heap.size 2 sl1).trans z6, (hc w5.heap.size 3 sl1).trans z7, ac z8 hb⟩
  have GB : Shut (∀ (g0 g1 g2 : Nat) (W : World), (W.cell? ⟨w.heap.size, 0, none⟩ = some (.slice a0 n0 c0) ∧ W.cell? ⟨w.heap.size, 1, none⟩ = some (.slice a1 n1 c1) ∧ W.cell? ⟨w.heap.size, 2, none⟩ = some (.slice a2 n2 c2) ∧ W.cell? ⟨w.heap.size, 3, none⟩ = some (.int .i64 k) ∧ W.cell? ⟨w5.heap.size, 0, none⟩ = some (.slice (some ⟨g3, 0, none⟩) n0 n0) ∧ W.cell? ⟨w5.heap.size, 1, none⟩ = some (.slice (some ⟨g4, 0, none⟩) n1 n1) ∧ W.cell? ⟨w5.heap.size, 2, none⟩ = some (.slice (some ⟨g5, 0, none⟩) n2 n2) ∧ W.cell? ⟨w5.heap.size, 3, none⟩ = some (.int .i64 k) ∧ Below w8.heap.size w8 W) → Bs W (some ⟨g0, 0, none⟩) n0 l0 → Bs W (some ⟨g1, 0, none⟩) n1 l1 → Bs W (some ⟨g2, 0, none⟩) n2 l2 → Calls Tryz.prog 51 #[.agg #[.slice (some ⟨g3, 0, none⟩) n0 n0, .slice (some ⟨g4, 0, none⟩) n1 n1, .slice (some ⟨g5, 0, none⟩) n2 n2, .int .i64 k], .agg #[.slice (some ⟨g0, 0, none⟩) n0 n0, .slice (some ⟨g1, 0, none⟩) n1 n1, .slice (some ⟨g2, 0, none⟩) n2 n2, .int .i64 k]] W fun e w' => e = .returned (.bool true) ∧ w'.cell? ⟨w.heap.size, 0, none⟩ = some (.slice a0 n0 c0) ∧ w'.cell? ⟨w.heap.size, 1, none⟩ = some (.slice a1 n1 c1) ∧ w'.cell? ⟨w.heap.size, 2, none⟩ = some (.slice a2 n2 c2) ∧ w'.cell? ⟨w.heap.size, 3, none⟩ = some (.int .i64 k) ∧ w'.cell? ⟨w5.heap.size, 0, none⟩ = some (.slice (some ⟨g3, 0, none⟩) n0 n0) ∧ w'.cell? ⟨w5.heap.size, 1, none⟩ = some (.slice (some ⟨g4, 0, none⟩) n1 n1) ∧ w'.cell? ⟨w5.heap.size, 2, none⟩ = some (.slice (some ⟨g5, 0, none⟩) n2 n2) ∧ w'.cell? ⟨w5.heap.size, 3, none⟩ = some (.int .i64 k) ∧ Below w8.heap.size w8 w') := by
    refine ⟨fun g0 g1 g2 W ⟨z0, z1, z2, z3, z4, z5, z6, z7, z8⟩ p0 p1 p2 => (eqSym_any _ _ _ _ _ _ _ _ _ _ _ _ _ _ _ _ _ _ _ _ (RX.head.bs.below z8) (RX.rest.head.bs.below z8) (RX.rest.rest.head.bs.below z8) p0 p1 p2 d0 d1 d2).mono ?_⟩
    rintro e w' ⟨rfl, hb⟩
    have hc := fun (b i : Nat) (h : b < w8.heap.size) => hb.cell (p := ⟨b, i, none⟩) (Nat.lt_of_lt_of_le h z8.size)
    exact ⟨rfl, (hc w.heap.size 0 sl0).trans z0, (hc w.heap.size 1 sl0).trans z1, (hc w.heap.size 2 sl0).trans z2, (hc w.heap.size 3 sl0).trans z3, (hc w5.heap.size 0 sl1).trans z4, (hc w5.heap.size 1 sl1).trans z5, (hc w5.heap.size 2 sl1).trans z6, (hc w5.heap.size 3 sl1).trans z7, ac z8 hb⟩
  go_wp2_with fail
  go_region_held3 (fun W => W.cell? ⟨w.heap.size, 0, none⟩ = some (.slice a0 n0 c0) ∧ W.cell? ⟨w.heap.size, 1, none⟩ = some (.slice a1 n1 c1) ∧ W.cell? ⟨w.heap.size, 2, none⟩ = some (.slice a2 n2 c2) ∧ W.cell? ⟨w.heap.size, 3, none⟩ = some (.int .i64 k) ∧ W.cell? ⟨w5.heap.size, 0, none⟩ = some (.slice (some ⟨g3, 0, none⟩) n0 n0) ∧ W.cell? ⟨w5.heap.size, 1, none⟩ = some (.slice (some ⟨g4, 0, none⟩) n1 n1) ∧ W.cell? ⟨w5.heap.size, 2, none⟩ = some (.slice (some ⟨g5, 0, none⟩) n2 n2) ∧ W.cell? ⟨w5.heap.size, 3, none⟩ = some (.int .i64 k) ∧ Below w8.heap.size w8 W)
    (first | (exact ⟨by assumption, by assumption, by assumption, by assumption, by assumption, by assumption, by assumption, by assumption, by assumption⟩) | (exact ⟨x0, x1, x2, x3, y0, y1, y2, y3, hWW.drew⟩) | go_keep)
    (first
      | (go_at_call 48; refine (GA.out _ ?_).mono ?_; (first | assumption | (simp [*]; done)); rintro e w' ⟨⟨e0, e1, e2, rfl, p0, p1, p2⟩, z0, z1, z2, z3, z4, z5, z6, z7, z8⟩)
      | (go_at_call 51; refine (GB.out _ _ _ _ ?_ ?_ ?_ ?_).mono ?_; (first | assumption | (simp [*]; done)); assumption; assumption; assumption; rintro e w' ⟨rfl, z0, z1, z2, z3, z4, z5, z6, z7, z8⟩))
  clear x0 x1 x2 x3
  clear y0 y1 y2 y3
  clear GA GB z0 z1 z2 z3 z4 z5 z6 z7 hWW sl0 sl1 sS sX
  have z109 := z8.size
  replace S0 := S0.below z8 S0.lt
  replace G0 := G0.below z8 (Nat.le_refl _)
  replace T0 := T0.below z8 T0.lt
  replace RX := RX.below z8 (Nat.le_refl _)
  replace X0 := X0.below z8 X0.lt
  replace R1 := R1.below z8 (Nat.le_refl _)
  replace G1 := G1.below z8 (Nat.le_refl _)
  replace T1 := T1.below z8 T1.lt
  have B9 := ac B8 z8
  clear z8 B8
  go_wp2_with fail
  refine (Gb.out _ B9).mono ?_
  rintro e w10 ⟨rfl, k10, b10⟩
  have z110 := b10.size
  replace S0 := S0.below b10 S0.lt
  replace G0 := G0.below b10 (Nat.le_refl _)
  replace T0 := T0.below b10 T0.lt
  replace RX := RX.below b10 (Nat.le_refl _)
  replace X0 := X0.below b10 X0.lt
  replace R1 := R1.below b10 (Nat.le_refl _)
  replace G1 := G1.below b10 (Nat.le_refl _)
  replace T1 := T1.below b10 T1.lt
  have B10 := ac B9 b10
  clear b10 B9
  go_wp2_with fail
  refine (eqByteS_any _ _ _ _ _ _ _ _ _ R1.head.bs (k10.bsn e3 Y3.out) (by omega) (by omega)).mono ?_
  rintro e u10 ⟨rfl, q10, rfl⟩
  replace S0 := S0.drewN q10
  replace G0 := G0.drewN q10
  replace T0 := T0.drewN q10
  replace RX := RX.drewN q10
  replace X0 := X0.drewN q10
  replace R1 := R1.drewN q10
  replace G1 := G1.drewN q10
  replace T1 := T1.drewN q10
  replace B10 := ad B10 q10
  clear k10
  have zu : (w10.drewN q10).heap.size = w10.heap.size := rfl
  generalize w10.drewN q10 = u10 at *
  replace zu : w10.heap.size ≤ u10.heap.size := by omega
  have x0 := X0.cell (i := 0) rfl
  have x1 := X0.cell (i := 1) rfl
  have x2 := X0.cell (i := 2) rfl
  have x3 := X0.cell (i := 3) rfl
  go_wp2_with fail
  refine (markSym_any _ _ _ _ _ _ _ _ _ _ _ _ _ _ _ _ RX (by omega) (by omega) (by omega) (by omega) (by omega)).mono ?_
  rintro e w11 ⟨rfl, _, t11⟩
  clear x0 x1 x2 x3
  have z111 := t11.size
  have l0 := S0.lt
  have l1 := T0.lt
  have l2 := X0.lt
  have tb := t11.below (C := w4.heap.size + 1) (by omega) bRX
  replace S0 := S0.below tb (by omega)
  replace T0 := T0.below tb (by omega)
  replace G0 := G0.under tb (tG0.mono (by omega))
  replace X0 := X0.touch t11 (fun y hy h0 a ha => Nat.ne_of_lt (tRX y hy h0 a ha))
  replace T1 := T1.touch t11 (fun y hy h0 a ha => by have := tRX y hy h0 a ha; omega)
  replace G1 := G1.touch t11 (tRX.mono (by omega))
  replace R1 := R1.touch t11 (tRX.mono (by omega))
  have B11 := B10.trans (tb.mono (by omega))
  clear B10 tb t11 l0 l1 l2 RX
  go_wp2_with fail
  refine (markByteS_any _ _ _ _ _ _ _ R1.head (by omega) (by omega) (by omega)).mono ?_
  rintro e w12 ⟨rfl, _, on12⟩
  have t12 : Touch [(some ⟨w5.heap.size + 1, 0, none⟩, n3, l3)] w11 w12 := Touch.ofOnly (l := l3) on12 (by simp)
  have z112 := t12.size
  have l0 := S0.lt
  have l1 := T0.lt
  have l2 := X0.lt
  have tb := t12.below (C := w5.heap.size + 1) (by omega) bR1
  replace S0 := S0.below tb (by omega)
  replace T0 := T0.below tb (by omega)
  replace X0 := X0.below tb (by omega)
  replace G0 := G0.under tb (tG0.mono (by omega))
  replace T1 := T1.touch t12 (fun y hy h0 a ha => by have := tR1 y hy h0 a ha; omega)
  replace G1 := G1.touch t12 (tR1.mono (by omega))
  have B12 := B11.trans (tb.mono (by omega))
  clear B11 tb t12 on12 l0 l1 l2 R1
  have x0 := T1.cell (i := 0) rfl
  have x1 := T1.cell (i := 1) rfl
  have x2 := T1.cell (i := 2) rfl
  have x3 := T1.cell (i := 3) rfl
  have x4 := T1.cell (i := 4) rfl
  have x5 := T1.cell (i := 5) rfl
  have y0 := T0.cell (i := 0) rfl
  have y1 := T0.cell (i := 1) rfl
  have y2 := T0.cell (i := 2) rfl
  have y3 := T0.cell (i := 3) rfl
  have y4 := T0.cell (i := 4) rfl
  have y5 := T0.cell (i := 5) rfl
  go_wp2_with fail
  refine (eqSymResult_any _ _ _ _ _ _ _ _ _ _ _ _ _ _ _ _ _ _ _ _ _ _ _ _ _ _ _ G1.head.bs G1.rest.head.bs G1.rest.rest.head.bs G1.rest.rest.rest.head.bs G0.head.bs G0.rest.head.bs G0.rest.rest.head.bs G0.rest.rest.rest.head.bs (by omega) (by omega) (by omega) (by omega)).mono ?_
  rintro e w13 ⟨rfl, b13⟩
  clear x0 x1 x2 x3 x4 x5
  clear y0 y1 y2 y3 y4 y5
  have z113 := b13.size
  replace S0 := S0.below b13 S0.lt
  replace G0 := G0.below b13 (Nat.le_refl _)
  replace T0 := T0.below b13 T0.lt
  replace X0 := X0.below b13 X0.lt
  replace G1 := G1.below b13 (Nat.le_refl _)
  replace T1 := T1.below b13 T1.lt
  have B13 := ac B12 b13
  clear b13 B12
  have x0 := T1.cell (i := 0) rfl
  have x1 := T1.cell (i := 1) rfl
  have x2 := T1.cell (i := 2) rfl
  have x3 := T1.cell (i := 3) rfl
  have x4 := T1.cell (i := 4) rfl
  have x5 := T1.cell (i := 5) rfl
  go_wp2_with fail
  refine (markSymResult_any _ _ _ _ _ _ _ _ _ _ _ _ _ _ _ _ _ _ _ _ _ G1 (by omega) (by omega) (by omega) (by omega) (by omega) (by omega)).mono ?_
  rintro e w14 ⟨rfl, GM, t14⟩
  clear x0 x1 x2 x3 x4 x5
  have z114 := t14.size
  have l0 := S0.lt
  have l1 := T0.lt
  have l2 := X0.lt
  have tb := t14.below (C := w6.heap.size) (by omega) bG1
  replace S0 := S0.below tb (by omega)
  replace T0 := T0.below tb (by omega)
  replace X0 := X0.below tb (by omega)
  replace G0 := G0.under tb (tG0.mono (by omega))
  replace T1 := T1.touch t14 (fun y hy h0 a ha => by have := tG1 y hy h0 a ha; omega)
  have B14 := B13.trans (tb.mono (by omega))
  clear B13 tb t14 l0 l1 l2 G1
  have x0 := T1.cell (i := 0) rfl
  have x1 := T1.cell (i := 1) rfl
  have x2 := T1.cell (i := 2) rfl
  have x3 := T1.cell (i := 3) rfl
  have x4 := T1.cell (i := 4) rfl
  have x5 := T1.cell (i := 5) rfl
  go_wp2_with fail
  refine (heldSymResult_any _ _ _ _ _ _ _ _ _ _ _ _ _ _ _ _ GM.head.bs GM.rest.head.bs GM.rest.rest.head.bs GM.rest.rest.rest.head.bs (by omega) (by omega) (by omega) (by omega) (by omega) (by omega)).mono ?_
  rintro e w15 ⟨rfl, b15⟩
  clear x0 x1 x2 x3 x4 x5
  have z115 := b15.size
  replace S0 := S0.below b15 S0.lt
  replace G0 := G0.below b15 (Nat.le_refl _)
  replace T0 := T0.below b15 T0.lt
  replace X0 := X0.below b15 X0.lt
  replace T1 := T1.below b15 T1.lt
  replace GM := GM.below b15 (Nat.le_refl _)
  have B15 := ac B14 b15
  clear b15 B14
  have x0 := S0.cell (i := 0) rfl
  have x1 := S0.cell (i := 1) rfl
  have x2 := S0.cell (i := 2) rfl
  have x3 := S0.cell (i := 3) rfl
  go_wp2_with fail
  refine (Gt.out _ B15).mono ?_
  rintro e w16 ⟨⟨g6, g7, g8, rfl, R16⟩, b16⟩
  clear x0 x1 x2 x3
  have z116 := b16.size
  replace S0 := S0.below b16 S0.lt
  replace G0 := G0.below b16 (Nat.le_refl _)
  replace T0 := T0.below b16 T0.lt
  replace X0 := X0.below b16 X0.lt
  replace T1 := T1.below b16 T1.lt
  replace GM := GM.below b16 (Nat.le_refl _)
  have B16 := ac B15 b16
  clear b16 B15
  go_wp2_with fail
  refine (Gb.out _ B16).mono ?_
  rintro e w17 ⟨rfl, k17, b17⟩
  replace R16 := R16.below b17 (Nat.le_refl _)
  have z117 := b17.size
  replace S0 := S0.below b17 S0.lt
  replace G0 := G0.below b17 (Nat.le_refl _)
  replace T0 := T0.below b17 T0.lt
  replace X0 := X0.below b17 X0.lt
  replace T1 := T1.below b17 T1.lt
  replace GM := GM.below b17 (Nat.le_refl _)
  have B17 := ac B16 b17
  clear b17 B16
  have T1P := hkeep _ _ B17 hP
  go_wp2_with fail
  refine (Gi.out _ _ _ _ _ T1P R16.head.bs R16.rest.head.bs R16.rest.rest.head.bs (k17.bsn e3 Y3.out)).mono ?_
  rintro e w18 ⟨⟨E0, f0, E1, f1, E2, f2, E3, f3, rfl, G2, _⟩, b18⟩
  clear T1P R16 k17
  have z118 := b18.size
  replace S0 := S0.below b18 S0.lt
  replace G0 := G0.below b18 (Nat.le_refl _)
  replace T0 := T0.below b18 T0.lt
  replace X0 := X0.below b18 X0.lt
  replace T1 := T1.below b18 T1.lt
  replace GM := GM.below b18 (Nat.le_refl _)
  have B18 := ac B17 b18
  clear b18 B17
  replace S0 := S0.alloc (.cells #[.int .i64 C, .slice E0 N0 f0, .slice E1 N1 f1, .slice E2 N2 f2, .int .i64 K, .slice E3 N3 f3] 29)
  replace G0 := G0.alloc (.cells #[.int .i64 C, .slice E0 N0 f0, .slice E1 N1 f1, .slice E2 N2 f2, .int .i64 K, .slice E3 N3 f3] 29)
  replace T0 := T0.alloc (.cells #[.int .i64 C, .slice E0 N0 f0, .slice E1 N1 f1, .slice E2 N2 f2, .int .i64 K, .slice E3 N3 f3] 29)
  replace X0 := X0.alloc (.cells #[.int .i64 C, .slice E0 N0 f0, .slice E1 N1 f1, .slice E2 N2 f2, .int .i64 K, .slice E3 N3 f3] 29)
  replace T1 := T1.alloc (.cells #[.int .i64 C, .slice E0 N0 f0, .slice E1 N1 f1, .slice E2 N2 f2, .int .i64 K, .slice E3 N3 f3] 29)
  replace GM := GM.alloc (.cells #[.int .i64 C, .slice E0 N0 f0, .slice E1 N1 f1, .slice E2 N2 f2, .int .i64 K, .slice E3 N3 f3] 29)
  replace B18 := ab B18 (.cells #[.int .i64 C, .slice E0 N0 f0, .slice E1 N1 f1, .slice E2 N2 f2, .int .i64 K, .slice E3 N3 f3] 29)
  replace G2 := G2.alloc (.cells #[.int .i64 C, .slice E0 N0 f0, .slice E1 N1 f1, .slice E2 N2 f2, .int .i64 K, .slice E3 N3 f3] 29)
  have T2 := Stc.new w18 29 [.int .i64 C, .slice E0 N0 f0, .slice E1 N1 f1, .slice E2 N2 f2, .int .i64 K, .slice E3 N3 f3] _ rfl
  have x0 := T2.cell (i := 0) rfl
  have x1 := T2.cell (i := 1) rfl
  have x2 := T2.cell (i := 2) rfl
  have x3 := T2.cell (i := 3) rfl
  have x4 := T2.cell (i := 4) rfl
  have x5 := T2.cell (i := 5) rfl
  have y0 := T0.cell (i := 0) rfl
  have y1 := T0.cell (i := 1) rfl
  have y2 := T0.cell (i := 2) rfl
  have y3 := T0.cell (i := 3) rfl
  have y4 := T0.cell (i := 4) rfl
  have y5 := T0.cell (i := 5) rfl
  go_wp2_with fail
  refine (eqSymResult_any _ _ _ _ _ _ _ _ _ _ _ _ _ _ _ _ _ _ _ _ _ _ _ _ _ _ _ G2.head.bs G2.rest.head.bs G2.rest.rest.head.bs G2.rest.rest.rest.head.bs G0.head.bs G0.rest.head.bs G0.rest.rest.head.bs G0.rest.rest.rest.head.bs (by omega) (by omega) (by omega) (by omega)).mono ?_
  rintro e w19 ⟨rfl, b19⟩
  clear x0 x1 x2 x3 x4 x5
  clear y0 y1 y2 y3 y4 y5
  have z119 := b19.size
  replace S0 := S0.below b19 S0.lt
  replace G0 := G0.below b19 (Nat.le_refl _)
  replace T0 := T0.below b19 T0.lt
  replace X0 := X0.below b19 X0.lt
  replace T1 := T1.below b19 T1.lt
  replace GM := GM.below b19 (Nat.le_refl _)
  replace G2 := G2.below b19 (Nat.le_refl _)
  replace T2 := T2.below b19 T2.lt
  have B19 := ac B18 b19
  clear b19 B18
  have x0 := T1.cell (i := 0) rfl
  have x1 := T1.cell (i := 1) rfl
  have x2 := T1.cell (i := 2) rfl
  have x3 := T1.cell (i := 3) rfl
  have x4 := T1.cell (i := 4) rfl
  have x5 := T1.cell (i := 5) rfl
  go_wp2_with fail
  refine (heldSymResult_any _ _ _ _ _ _ _ _ _ _ _ _ _ _ _ _ GM.head.bs GM.rest.head.bs GM.rest.rest.head.bs GM.rest.rest.rest.head.bs (by omega) (by omega) (by omega) (by omega) (by omega) (by omega)).mono ?_
  rintro e w20 ⟨rfl, b20⟩
  clear x0 x1 x2 x3 x4 x5
  have z120 := b20.size
  replace S0 := S0.below b20 S0.lt
  replace G0 := G0.below b20 (Nat.le_refl _)
  replace T0 := T0.below b20 T0.lt
  replace X0 := X0.below b20 X0.lt
  replace T1 := T1.below b20 T1.lt
  replace GM := GM.below b20 (Nat.le_refl _)
  replace G2 := G2.below b20 (Nat.le_refl _)
  replace T2 := T2.below b20 T2.lt
  have B20 := ac B19 b20
  clear b20 B19
  go_wp2
  go_ret
  exact ⟨rfl, B20⟩

theorem exactOpenHash_all (a0 a1 a2 : Option Addr) (n0 c0 n1 c1 n2 c2 : Nat) (l0 l1 l2 : List Int) (k : Int) (a3 : Option Addr) (n3 c3 : Nat) (l3 : List Int) (w : World) (h0 : Bs w a0 n0 l0) (h1 : Bs w a1 n1 l1) (h2 : Bs w a2 n2 l2) (h3 : Bs w a3 n3 l3) (d0 : n0 ≤ 9223372036854775807) (d1 : n1 ≤ 9223372036854775807) (d2 : n2 ≤ 9223372036854775807) (hall : n0 + n1 + n2 ≤ 1048576 → n3 ≤ 1048576 → ∃ (C : Int) (K : Int) (N0 N1 N2 N3 : Nat) (L0 L1 L2 L3 : List Int), (N0 ≤ 2000000 ∧ N1 ≤ 2000000 ∧ N2 ≤ 2000000 ∧ N3 ≤ 2000000) ∧ ∃ (P : World → Prop), P w ∧ (∀ W W' : World, Below W.heap.size W W' → P W → P W') ∧ Shut (∀ (g0 g1 g2 gd : Nat) (W : World) (_ : Bs W (some ⟨g0, 0, none⟩) n0 l0) (_ : Bs W (some ⟨g1, 0, none⟩) n1 l1) (_ : Bs W (some ⟨g2, 0, none⟩) n2 l2) (_ : Bs W (some ⟨gd, 0, none⟩) n3 l3), Calls Tryz.prog 22 #[.agg #[.slice (some ⟨g0, 0, none⟩) n0 n0, .slice (some ⟨g1, 0, none⟩) n1 n1, .slice (some ⟨g2, 0, none⟩) n2 n2, .int .i64 k], .slice (some ⟨gd, 0, none⟩) n3 n3] W (SymAns C N0 N1 N2 N3 L0 L1 L2 L3 K W)) ∧ Shut (∀ (g0 g1 g2 gd : Nat) (W : World) (_ : P W) (_ : Bs W (some ⟨g0, 0, none⟩) n0 l0) (_ : Bs W (some ⟨g1, 0, none⟩) n1 l1) (_ : Bs W (some ⟨g2, 0, none⟩) n2 l2) (_ : Bs W (some ⟨gd, 0, none⟩) n3 l3), Calls Tryz.prog 14 #[.agg #[.slice (some ⟨g0, 0, none⟩) n0 n0, .slice (some ⟨g1, 0, none⟩) n1 n1, .slice (some ⟨g2, 0, none⟩) n2 n2, .int .i64 k], .slice (some ⟨gd, 0, none⟩) n3 n3] W (SymAns C N0 N1 N2 N3 L0 L1 L2 L3 K W))) :
    Calls Tryz.prog 7 #[.agg #[.slice a0 n0 c0, .slice a1 n1 c1, .slice a2 n2 c2, .int .i64 k], .slice a3 n3 c3] w fun e w' => e = .returned (.bool true) ∧ Below w.heap.size w w' := by
  by_cases hd3 : n3 ≤ 1048576
  · by_cases hsz : n0 + n1 + n2 ≤ 1048576
    · obtain ⟨C, K, N0, N1, N2, N3, L0, L1, L2, L3, ⟨hN0, hN1, hN2, hN3⟩, P, hP, hkeep, Gs, Gi⟩ := hall hsz hd3
      exact exactOpenHash_walk a0 a1 a2 n0 c0 n1 c1 n2 c2 l0 l1 l2 k a3 n3 c3 l3 w h0 h1 h2 h3 hd3 hsz C K N0 N1 N2 N3 L0 L1 L2 L3 hN0 hN1 hN2 hN3 P hP hkeep Gs Gi
    · have hL := leftS_not hsz
      have csz := fun W => szSym_any a0 a1 a2 n0 c0 n1 c1 n2 c2 k W d0 d1 d2
      rw [hL] at csz
      clear hall
      go_enter Tryz.func7, Tryz.ntmps7
      go_wp2_with fail
      refine (csz _).mono ?_
      rintro e w1 ⟨rfl, b1⟩
      go_wp2
      go_ret
      exact ⟨rfl, ac (ab (Below.refl _ w) _) b1⟩
  · clear hall
    go_enter Tryz.func7, Tryz.ntmps7
    go_wp2
    go_ret
    exact ⟨rfl, ab (Below.refl _ w) _⟩
end Go.Proofs.YtabhcolfkkfonaaGreatDoor
