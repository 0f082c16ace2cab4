/- The walk of the exact law of HearData. -/
import Derived.Test.YtpaemmoopjkppaaHdtS
import Derived.Test.YtpaemmoopjkppaaCelT
import Derived.Test.YtpaemmoopjkppaaSymB
import Derived.Deep.RegionHeld3
import Derived.Deep.CutRange
namespace Go.Proofs.Ytpaemmoopjkppaa
open Go.RowKit

theorem boxBHearData {T : Thing} (ok : T.Ok) {wk v9 : World} {b lo : Nat} {RT : TypeId} {y0 y1 y2 y3 y4 : Value} (hT : Stc v9 b [y0, y1, y2, y3, y4] RT) (o : T v9 (rng lo v9.heap.size)) (hb : b < lo) (hwb : wk.heap.size ≤ b) (y : Below wk.heap.size wk v9) (z0 z1 z2 z3 z4 : Value) :
    Stc (((((v9.setCell ⟨b, 0, none⟩ z0).setCell ⟨b, 1, none⟩ z1).setCell ⟨b, 2, none⟩ z2).setCell ⟨b, 3, none⟩ z3).setCell ⟨b, 4, none⟩ z4) b [z0, z1, z2, z3, z4] RT ∧ T (((((v9.setCell ⟨b, 0, none⟩ z0).setCell ⟨b, 1, none⟩ z1).setCell ⟨b, 2, none⟩ z2).setCell ⟨b, 3, none⟩ z3).setCell ⟨b, 4, none⟩ z4) (rng lo v9.heap.size) ∧ v9.heap.size ≤ (((((v9.setCell ⟨b, 0, none⟩ z0).setCell ⟨b, 1, none⟩ z1).setCell ⟨b, 2, none⟩ z2).setCell ⟨b, 3, none⟩ z3).setCell ⟨b, 4, none⟩ z4).heap.size ∧ Below wk.heap.size wk (((((v9.setCell ⟨b, 0, none⟩ z0).setCell ⟨b, 1, none⟩ z1).setCell ⟨b, 2, none⟩ z2).setCell ⟨b, 3, none⟩ z3).setCell ⟨b, 4, none⟩ z4) := by
  have t := ((((((Tu.refl (fun q => q = b) v9).set_ (p := ⟨b, 0, none⟩) rfl z0).set_ (p := ⟨b, 1, none⟩) rfl z1).set_ (p := ⟨b, 2, none⟩) rfl z2).set_ (p := ⟨b, 3, none⟩) rfl z3).set_ (p := ⟨b, 4, none⟩) rfl z4)
  exact ⟨(((((hT.set_ (i := 0) z0).set_ (i := 1) z1).set_ (i := 2) z2).set_ (i := 3) z3).set_ (i := 4) z4), ok.tu o t (fun q hq h => by have h1 := hq.1; have h2 : q = b := h; omega), t.size, (((((y.setCell (p := ⟨b, 0, none⟩) hwb z0).setCell (p := ⟨b, 1, none⟩) hwb z1).setCell (p := ⟨b, 2, none⟩) hwb z2).setCell (p := ⟨b, 3, none⟩) hwb z3).setCell (p := ⟨b, 4, none⟩) hwb z4)⟩
theorem boxAHearData {T : Thing} (ok : T.Ok) {wk v9 : World} {lo : Nat} {RT : TypeId} (o : T v9 (rng lo v9.heap.size)) (y : Below wk.heap.size wk v9) (z0 z1 z2 z3 z4 : Value) :
    Stc (v9.alloc (.cells #[z0, z1, z2, z3, z4] RT)) v9.heap.size [z0, z1, z2, z3, z4] RT ∧ T (v9.alloc (.cells #[z0, z1, z2, z3, z4] RT)) (rng lo v9.heap.size) ∧ v9.heap.size ≤ (v9.alloc (.cells #[z0, z1, z2, z3, z4] RT)).heap.size ∧ Below wk.heap.size wk (v9.alloc (.cells #[z0, z1, z2, z3, z4] RT)) :=
  ⟨Stc.new v9 _ _ _ rfl, ok.alloc o _, by rw [World.size_alloc]; exact Nat.le_succ _, ab y _⟩

set_option linter.unusedVariables false in
set_option linter.unusedSimpArgs false in
set_option maxRecDepth 100000 in
set_option maxHeartbeats 40000000 in
theorem exactHearData_walk (s0_0 : Int) (s1_0 : Int) (s1_1 : Int) (s1_2 : Int) (s1_3 : Int) (s1_4 : Bool) (a0_0 : Option Addr) (n0_0 c0_0 : Nat) (l0_0 : List HeldD) (a0_1 : Option Addr) (n0_1 c0_1 : Nat) (l0_1 : List Int) (a1_0 : Option Addr) (n1_0 c1_0 : Nat) (l1_0 : List Int) (w : World) (h0_0 : Lst HeldD.cels 3 w a0_0 n0_0 l0_0) (h0_1 : Bs w a0_1 n0_1 l0_1) (h1_0 : Bs w a1_0 n1_0 l1_0)  (hsz : totReceiver n0_0 l0_0 n0_1 + totCell n1_0 ≤ 1048576) (Z0 : Int) (Z1 : Int) (N0 : Nat) (D0 : List HeldD) (N1 : Nat) (D1 : List Int) (N2 : Nat) (D2 : List (List Int)) (hN0 : N0 ≤ 2000000) (hS0 : sumE HeldD.wd D0 ≤ 2000000) (hB0 : ∀ e ∈ D0, e.f1.length ≤ 100000000) (hN1 : N1 ≤ 2000000) (hN2 : N2 ≤ 2000000) (hS2 : sumE List.length D2 ≤ 2000000) (hB2 : ∀ e ∈ D2, e.length ≤ 100000000) (P : World → Prop) (hP : P w) (hkeep : ∀ W W' : World, Below W.heap.size W W' → P W → P W') (Gs : Shut (∀ (g0_0 g0_1 g1_0 : Nat) (W : World) (_ : Lst HeldD.cels 3 W (some ⟨g0_0, 0, none⟩) n0_0 l0_0) (_ : Bs W (some ⟨g0_1, 0, none⟩) n0_1 l0_1) (_ : Bs W (some ⟨g1_0, 0, none⟩) n1_0 l1_0), Calls Try.prog 8 #[.agg #[.int .i64 s0_0, .slice (some ⟨g0_0, 0, none⟩) n0_0 n0_0, .slice (some ⟨g0_1, 0, none⟩) n0_1 n0_1], .agg #[.int .i64 s1_0, .int .i64 s1_1, .int .i64 s1_2, .int .i64 s1_3, .bool s1_4, .slice (some ⟨g1_0, 0, none⟩) n1_0 n1_0]] W (fun e w' => (∃ A0 d0 A1 d1 A2 d2, e = .returned (.agg #[.int .i64 Z0, .int .i64 Z1, .slice A0 N0 d0, .slice A1 N1 d1, .slice A2 N2 d2]) ∧ (Thing.sep (Thing.sep (tH A0 N0 D0) (tR A1 N1 D1)) (tB A2 N2 D2)) w' (rng W.heap.size w'.heap.size)) ∧ Below W.heap.size W w'))) (Gi : Shut (∀ (g0_0 g0_1 g1_0 : Nat) (W : World) (_ : P W) (_ : Lst HeldD.cels 3 W (some ⟨g0_0, 0, none⟩) n0_0 l0_0) (_ : Bs W (some ⟨g0_1, 0, none⟩) n0_1 l0_1) (_ : Bs W (some ⟨g1_0, 0, none⟩) n1_0 l1_0), Calls Try.prog 11 #[.agg #[.int .i64 s0_0, .slice (some ⟨g0_0, 0, none⟩) n0_0 n0_0, .slice (some ⟨g0_1, 0, none⟩) n0_1 n0_1], .agg #[.int .i64 s1_0, .int .i64 s1_1, .int .i64 s1_2, .int .i64 s1_3, .bool s1_4, .slice (some ⟨g1_0, 0, none⟩) n1_0 n1_0]] W (fun e w' => (∃ A0 d0 A1 d1 A2 d2, e = .returned (.agg #[.int .i64 Z0, .int .i64 Z1, .slice A0 N0 d0, .slice A1 N1 d1, .slice A2 N2 d2]) ∧ (Thing.sep (Thing.sep (tH A0 N0 D0) (tR A1 N1 D1)) (tB A2 N2 D2)) w' (rng W.heap.size w'.heap.size)) ∧ Below W.heap.size W w'))) :
    Calls Try.prog 3 #[.agg #[.int .i64 s0_0, .slice a0_0 n0_0 c0_0, .slice a0_1 n0_1 c0_1], .agg #[.int .i64 s1_0, .int .i64 s1_1, .int .i64 s1_2, .int .i64 s1_3, .bool s1_4, .slice a1_0 n1_0 c1_0]] w fun e w' => e = .returned (.bool true) ∧ Below w.heap.size w w' := by
  have HSZ : True := trivial
  have ts0 : totReceiver n0_0 l0_0 n0_1 = n0_0 + sumE HeldD.len l0_0 + n0_1 := rfl
  have ts1 : totCell n1_0 = n1_0 := rfl
  have f0_0 : n0_0 ≤ 1048576 := by omega
  have b0_0 : ∀ e ∈ l0_0, e.f1.length ≤ 1048576 := fun e he => by have h1 : e.f1.length ≤ sumE HeldD.len l0_0 := sumE_mem HeldD.len he; omega
  have q0_0 : sumE HeldD.wd l0_0 ≤ 3200000 := by have h1 := sumHeldD_wd l0_0; have h2 := h0_0.len; omega
  have f0_1 : n0_1 ≤ 1048576 := by omega
  have f1_0 : n1_0 ≤ 1048576 := by omega
  have G0 := Shut.mk (fun W (b : Below w.heap.size w W) => toReceiver_any s0_0 a0_0 n0_0 c0_0 l0_0 a0_1 n0_1 c0_1 l0_1 W (h0_0.below b) (h0_1.below b) f0_0 b0_0 f0_1)
  have G1 := Shut.mk (fun W (b : Below w.heap.size w W) => toCellT_any s1_0 s1_1 s1_2 s1_3 s1_4 a1_0 n1_0 c1_0 l1_0 W (h1_0.below b) f1_0)
  have hq0 : leftC 1048576 (totReceiver n0_0 l0_0 n0_1) = 1048576 - (((totReceiver n0_0 l0_0 n0_1 : Nat) : Int) : Int) := by unfold leftC; rw [if_neg (by omega)]
  have cz0 := fun W (b : Below w.heap.size w W) => szReceiver_any s0_0 a0_0 n0_0 c0_0 l0_0 a0_1 n0_1 c0_1 l0_1 (1048576) W (h0_0.below b) (h0_1.below b) (by omega) (by omega) (by omega) (fun e he => by have := b0_0 e he; omega) (by omega)
  rw [hq0] at cz0
  clear hq0
  obtain ⟨lf0, hlf0⟩ : ∃ x, x = 1048576 - ((totReceiver n0_0 l0_0 n0_1 : Nat) : Int) := ⟨_, rfl⟩
  rw [← hlf0] at cz0
  have lp0 : ¬ lf0 < 0 := by omega
  have lm0 : lf0 ≤ 1048576 := by omega
  have hq1 : leftC lf0 (totCell n1_0) = lf0 - (((totCell n1_0 : Nat) : Int) : Int) := by unfold leftC; rw [if_neg (by omega)]
  have cz1 := fun W (b : Below w.heap.size w W) => szCellT_any s1_0 s1_1 s1_2 s1_3 s1_4 a1_0 n1_0 c1_0 l1_0 (lf0) W (h1_0.below b) (by omega) (by omega) (by omega)
  rw [hq1] at cz1
  clear hq1
  obtain ⟨lf1, hlf1⟩ : ∃ x, x = lf0 - ((totCell n1_0 : Nat) : Int) := ⟨_, rfl⟩
  rw [← hlf1] at cz1
  have lp1 : ¬ lf1 < 0 := by omega
  have lm1 : lf1 ≤ 1048576 := by omega
  clear hlf0 ts0
  clear hlf1 ts1
  clear h0_0 h0_1 h1_0
  clear hsz
  have B0 := Below.refl w.heap.size w
  replace B0 := ab B0 (.cells #[.int .i64 s0_0, .slice a0_0 n0_0 c0_0, .slice a0_1 n0_1 c0_1] 25)
  have S0 := Stc.new w 25 [.int .i64 s0_0, .slice a0_0 n0_0 c0_0, .slice a0_1 n0_1 c0_1] _ rfl
  replace S0 := S0.alloc (.cells #[.int .i64 s1_0, .int .i64 s1_1, .int .i64 s1_2, .int .i64 s1_3, .bool s1_4, .slice a1_0 n1_0 c1_0] 27)
  replace B0 := ab B0 (.cells #[.int .i64 s1_0, .int .i64 s1_1, .int .i64 s1_2, .int .i64 s1_3, .bool s1_4, .slice a1_0 n1_0 c1_0] 27)
  have S1 := Stc.new (w.alloc (.cells #[.int .i64 s0_0, .slice a0_0 n0_0 c0_0, .slice a0_1 n0_1 c0_1] 25)) 27 [.int .i64 s1_0, .int .i64 s1_1, .int .i64 s1_2, .int .i64 s1_3, .bool s1_4, .slice a1_0 n1_0 c1_0] _ rfl
  simp only [World.size_alloc] at S1
  go_enter Try.func3, Try.ntmps3
  have x0 := S0.cell (i := 0) rfl
  have x1 := S0.cell (i := 1) rfl
  have x2 := S0.cell (i := 2) rfl
  go_wp2_with fail
  refine (cz0 _ B0).mono ?_
  rintro e w1 ⟨rfl, b1⟩
  clear x0 x1 x2
  have z1 := b1.size
  simp only [World.size_alloc] at z1
  replace S0 := S0.below b1 S0.lt
  replace S1 := S1.below b1 S1.lt
  have B1 := ac B0 b1
  clear b1 B0
  have x0 := S1.cell (i := 0) rfl
  have x1 := S1.cell (i := 1) rfl
  have x2 := S1.cell (i := 2) rfl
  have x3 := S1.cell (i := 3) rfl
  have x4 := S1.cell (i := 4) rfl
  have x5 := S1.cell (i := 5) rfl
  go_wp2_with fail
  refine (cz1 _ B1).mono ?_
  rintro e w2 ⟨rfl, b2⟩
  clear x0 x1 x2 x3 x4 x5
  have z2 := b2.size
  replace S0 := S0.below b2 S0.lt
  replace S1 := S1.below b2 S1.lt
  have B2 := ac B1 b2
  clear b2 B1
  have x0_0 := S0.cell (i := 0) rfl
  have x0_1 := S0.cell (i := 1) rfl
  have x0_2 := S0.cell (i := 2) rfl
  have x1_0 := S1.cell (i := 0) rfl
  have x1_1 := S1.cell (i := 1) rfl
  have x1_2 := S1.cell (i := 2) rfl
  have x1_3 := S1.cell (i := 3) rfl
  have x1_4 := S1.cell (i := 4) rfl
  have x1_5 := S1.cell (i := 5) rfl
  have hWW := Below.refl w2.heap.size w2
  have sl0 : w.heap.size < w2.heap.size := by first | assumption | (have := S0.lt; omega)
  have sl1 : w.heap.size + 1 < w2.heap.size := by first | assumption | (have := S1.lt; omega)
  have GX0 : Shut (∀ W : World, (W.cell? ⟨w.heap.size, 0, none⟩ = some (.int .i64 s0_0) ∧ W.cell? ⟨w.heap.size, 1, none⟩ = some (.slice a0_0 n0_0 c0_0) ∧ W.cell? ⟨w.heap.size, 2, none⟩ = some (.slice a0_1 n0_1 c0_1) ∧ W.cell? ⟨w.heap.size + 1, 0, none⟩ = some (.int .i64 s1_0) ∧ W.cell? ⟨w.heap.size + 1, 1, none⟩ = some (.int .i64 s1_1) ∧ W.cell? ⟨w.heap.size + 1, 2, none⟩ = some (.int .i64 s1_2) ∧ W.cell? ⟨w.heap.size + 1, 3, none⟩ = some (.int .i64 s1_3) ∧ W.cell? ⟨w.heap.size + 1, 4, none⟩ = some (.bool s1_4) ∧ W.cell? ⟨w.heap.size + 1, 5, none⟩ = some (.slice a1_0 n1_0 c1_0) ∧ Below w2.heap.size w2 W) → Calls Try.prog 9 #[.agg #[.int .i64 s0_0, .slice a0_0 n0_0 c0_0, .slice a0_1 n0_1 c0_1]] W fun e w' => (∃ q0 q1 : Nat, e = .returned (.agg #[.int .i64 s0_0, .slice (some ⟨q0, 0, none⟩) n0_0 n0_0, .slice (some ⟨q1, 0, none⟩) n0_1 n0_1]) ∧ Lst HeldD.cels 3 w' (some ⟨q0, 0, none⟩) n0_0 l0_0 ∧ Bs w' (some ⟨q1, 0, none⟩) n0_1 l0_1) ∧ (Below W.heap.size W w' ∧ (∀ (b : Nat) (l : List Value) (t : TypeId), Stc W b l t → Stc w' b l t)) ∧ w'.cell? ⟨w.heap.size, 0, none⟩ = some (.int .i64 s0_0) ∧ w'.cell? ⟨w.heap.size, 1, none⟩ = some (.slice a0_0 n0_0 c0_0) ∧ w'.cell? ⟨w.heap.size, 2, none⟩ = some (.slice a0_1 n0_1 c0_1) ∧ w'.cell? ⟨w.heap.size + 1, 0, none⟩ = some (.int .i64 s1_0) ∧ w'.cell? ⟨w.heap.size + 1, 1, none⟩ = some (.int .i64 s1_1) ∧ w'.cell? ⟨w.heap.size + 1, 2, none⟩ = some (.int .i64 s1_2) ∧ w'.cell? ⟨w.heap.size + 1, 3, none⟩ = some (.int .i64 s1_3) ∧ w'.cell? ⟨w.heap.size + 1, 4, none⟩ = some (.bool s1_4) ∧ w'.cell? ⟨w.heap.size + 1, 5, none⟩ = some (.slice a1_0 n1_0 c1_0) ∧ Below w2.heap.size w2 w') := by
    refine ⟨fun W ⟨y0, y1, y2, y3, y4, y5, y6, y7, y8, y9⟩ => (G0.out W (ac B2 y9)).mono ?_⟩
    rintro e w' ⟨⟨q0, q1, rfl, R⟩, hb⟩
    have OR := R
    obtain ⟨_, _, _, _, _, OR_0, OR_1⟩ := OR
    replace OR_0 := Lo.rows OR_0
    replace OR_1 := Bo.bs OR_1
    have hc := fun (b i : Nat) (h : b < w2.heap.size) => hb.cell (p := ⟨b, i, none⟩) (Nat.lt_of_lt_of_le h y9.size)
    exact ⟨⟨q0, q1, rfl, OR_0, OR_1⟩, ⟨hb, fun b l t hA => hA.below hb hA.lt⟩, (hc (w.heap.size) 0 sl0).trans y0, (hc (w.heap.size) 1 sl0).trans y1, (hc (w.heap.size) 2 sl0).trans y2, (hc (w.heap.size + 1) 0 sl1).trans y3, (hc (w.heap.size + 1) 1 sl1).trans y4, (hc (w.heap.size + 1) 2 sl1).trans y5, (hc (w.heap.size + 1) 3 sl1).trans y6, (hc (w.heap.size + 1) 4 sl1).trans y7, (hc (w.heap.size + 1) 5 sl1).trans y8, ac y9 hb⟩
  have GX1 : Shut (∀ W : World, (W.cell? ⟨w.heap.size, 0, none⟩ = some (.int .i64 s0_0) ∧ W.cell? ⟨w.heap.size, 1, none⟩ = some (.slice a0_0 n0_0 c0_0) ∧ W.cell? ⟨w.heap.size, 2, none⟩ = some (.slice a0_1 n0_1 c0_1) ∧ W.cell? ⟨w.heap.size + 1, 0, none⟩ = some (.int .i64 s1_0) ∧ W.cell? ⟨w.heap.size + 1, 1, none⟩ = some (.int .i64 s1_1) ∧ W.cell? ⟨w.heap.size + 1, 2, none⟩ = some (.int .i64 s1_2) ∧ W.cell? ⟨w.heap.size + 1, 3, none⟩ = some (.int .i64 s1_3) ∧ W.cell? ⟨w.heap.size + 1, 4, none⟩ = some (.bool s1_4) ∧ W.cell? ⟨w.heap.size + 1, 5, none⟩ = some (.slice a1_0 n1_0 c1_0) ∧ Below w2.heap.size w2 W) → Calls Try.prog 10 #[.agg #[.int .i64 s1_0, .int .i64 s1_1, .int .i64 s1_2, .int .i64 s1_3, .bool s1_4, .slice a1_0 n1_0 c1_0]] W fun e w' => (∃ q0 : Nat, e = .returned (.agg #[.int .i64 s1_0, .int .i64 s1_1, .int .i64 s1_2, .int .i64 s1_3, .bool s1_4, .slice (some ⟨q0, 0, none⟩) n1_0 n1_0]) ∧ Bs w' (some ⟨q0, 0, none⟩) n1_0 l1_0) ∧ (Below W.heap.size W w' ∧ (∀ (b : Nat) (l : List Value) (t : TypeId), Stc W b l t → Stc w' b l t)) ∧ w'.cell? ⟨w.heap.size, 0, none⟩ = some (.int .i64 s0_0) ∧ w'.cell? ⟨w.heap.size, 1, none⟩ = some (.slice a0_0 n0_0 c0_0) ∧ w'.cell? ⟨w.heap.size, 2, none⟩ = some (.slice a0_1 n0_1 c0_1) ∧ w'.cell? ⟨w.heap.size + 1, 0, none⟩ = some (.int .i64 s1_0) ∧ w'.cell? ⟨w.heap.size + 1, 1, none⟩ = some (.int .i64 s1_1) ∧ w'.cell? ⟨w.heap.size + 1, 2, none⟩ = some (.int .i64 s1_2) ∧ w'.cell? ⟨w.heap.size + 1, 3, none⟩ = some (.int .i64 s1_3) ∧ w'.cell? ⟨w.heap.size + 1, 4, none⟩ = some (.bool s1_4) ∧ w'.cell? ⟨w.heap.size + 1, 5, none⟩ = some (.slice a1_0 n1_0 c1_0) ∧ Below w2.heap.size w2 w') := by
    refine ⟨fun W ⟨y0, y1, y2, y3, y4, y5, y6, y7, y8, y9⟩ => (G1.out W (ac B2 y9)).mono ?_⟩
    rintro e w' ⟨⟨q0, rfl, R⟩, hb⟩
    have OR := R
    have OR_0 := OR
    replace OR_0 := Bo.bs OR_0
    have hc := fun (b i : Nat) (h : b < w2.heap.size) => hb.cell (p := ⟨b, i, none⟩) (Nat.lt_of_lt_of_le h y9.size)
    exact ⟨⟨q0, rfl, OR_0⟩, ⟨hb, fun b l t hA => hA.below hb hA.lt⟩, (hc (w.heap.size) 0 sl0).trans y0, (hc (w.heap.size) 1 sl0).trans y1, (hc (w.heap.size) 2 sl0).trans y2, (hc (w.heap.size + 1) 0 sl1).trans y3, (hc (w.heap.size + 1) 1 sl1).trans y4, (hc (w.heap.size + 1) 2 sl1).trans y5, (hc (w.heap.size + 1) 3 sl1).trans y6, (hc (w.heap.size + 1) 4 sl1).trans y7, (hc (w.heap.size + 1) 5 sl1).trans y8, ac y9 hb⟩
  have GF : Shut (∀ (g0_0 g0_1 g1_0 : Nat) (W : World), (W.cell? ⟨w.heap.size, 0, none⟩ = some (.int .i64 s0_0) ∧ W.cell? ⟨w.heap.size, 1, none⟩ = some (.slice a0_0 n0_0 c0_0) ∧ W.cell? ⟨w.heap.size, 2, none⟩ = some (.slice a0_1 n0_1 c0_1) ∧ W.cell? ⟨w.heap.size + 1, 0, none⟩ = some (.int .i64 s1_0) ∧ W.cell? ⟨w.heap.size + 1, 1, none⟩ = some (.int .i64 s1_1) ∧ W.cell? ⟨w.heap.size + 1, 2, none⟩ = some (.int .i64 s1_2) ∧ W.cell? ⟨w.heap.size + 1, 3, none⟩ = some (.int .i64 s1_3) ∧ W.cell? ⟨w.heap.size + 1, 4, none⟩ = some (.bool s1_4) ∧ W.cell? ⟨w.heap.size + 1, 5, none⟩ = some (.slice a1_0 n1_0 c1_0) ∧ Below w2.heap.size w2 W) → Lst HeldD.cels 3 W (some ⟨g0_0, 0, none⟩) n0_0 l0_0 → Bs W (some ⟨g0_1, 0, none⟩) n0_1 l0_1 → Bs W (some ⟨g1_0, 0, none⟩) n1_0 l1_0 → Calls Try.prog 8 #[.agg #[.int .i64 s0_0, .slice (some ⟨g0_0, 0, none⟩) n0_0 n0_0, .slice (some ⟨g0_1, 0, none⟩) n0_1 n0_1], .agg #[.int .i64 s1_0, .int .i64 s1_1, .int .i64 s1_2, .int .i64 s1_3, .bool s1_4, .slice (some ⟨g1_0, 0, none⟩) n1_0 n1_0]] W fun e w' => (∃ A0 d0 A1 d1 A2 d2, e = .returned (.agg #[.int .i64 Z0, .int .i64 Z1, .slice A0 N0 d0, .slice A1 N1 d1, .slice A2 N2 d2]) ∧ (Thing.sep (Thing.sep (tH A0 N0 D0) (tR A1 N1 D1)) (tB A2 N2 D2)) w' (rng W.heap.size w'.heap.size) ∧ w2.heap.size ≤ W.heap.size) ∧ (Below W.heap.size W w' ∧ (∀ (b : Nat) (l : List Value) (t : TypeId), Stc W b l t → Stc w' b l t)) ∧ w'.cell? ⟨w.heap.size, 0, none⟩ = some (.int .i64 s0_0) ∧ w'.cell? ⟨w.heap.size, 1, none⟩ = some (.slice a0_0 n0_0 c0_0) ∧ w'.cell? ⟨w.heap.size, 2, none⟩ = some (.slice a0_1 n0_1 c0_1) ∧ w'.cell? ⟨w.heap.size + 1, 0, none⟩ = some (.int .i64 s1_0) ∧ w'.cell? ⟨w.heap.size + 1, 1, none⟩ = some (.int .i64 s1_1) ∧ w'.cell? ⟨w.heap.size + 1, 2, none⟩ = some (.int .i64 s1_2) ∧ w'.cell? ⟨w.heap.size + 1, 3, none⟩ = some (.int .i64 s1_3) ∧ w'.cell? ⟨w.heap.size + 1, 4, none⟩ = some (.bool s1_4) ∧ w'.cell? ⟨w.heap.size + 1, 5, none⟩ = some (.slice a1_0 n1_0 c1_0) ∧ Below w2.heap.size w2 w') := by
    refine ⟨fun g0_0 g0_1 g1_0 W ⟨y0, y1, y2, y3, y4, y5, y6, y7, y8, y9⟩ p0_0 p0_1 p1_0 => (Gs.out g0_0 g0_1 g1_0 W p0_0 p0_1 p1_0).mono ?_⟩
    rintro e w' ⟨⟨A0, d0, A1, d1, A2, d2, rfl, R⟩, hb⟩
    have hc := fun (b i : Nat) (h : b < w2.heap.size) => hb.cell (p := ⟨b, i, none⟩) (Nat.lt_of_lt_of_le h y9.size)
    exact ⟨⟨A0, d0, A1, d1, A2, d2, rfl, R, y9.size⟩, ⟨hb, fun b l t hA => hA.below hb hA.lt⟩, (hc (w.heap.size) 0 sl0).trans y0, (hc (w.heap.size) 1 sl0).trans y1, (hc (w.heap.size) 2 sl0).trans y2, (hc (w.heap.size + 1) 0 sl1).trans y3, (hc (w.heap.size + 1) 1 sl1).trans y4, (hc (w.heap.size + 1) 2 sl1).trans y5, (hc (w.heap.size + 1) 3 sl1).trans y6, (hc (w.heap.size + 1) 4 sl1).trans y7, (hc (w.heap.size + 1) 5 sl1).trans y8, ac y9 hb⟩
  go_wp2_with fail
  go_cut [6] from 24 to 28 (fun q wx => ∃ (bx lo hi : Nat) (A0 : Option Addr) (d0 : Nat) (A1 : Option Addr) (d1 : Nat) (A2 : Option Addr) (d2 : Nat), q = .pointer (some ⟨bx, 0, none⟩) ∧ Stc wx bx [.int .i64 Z0, .int .i64 Z1, .slice A0 N0 d0, .slice A1 N1 d1, .slice A2 N2 d2] 35 ∧ (Thing.sep (Thing.sep (tH A0 N0 D0) (tR A1 N1 D1)) (tB A2 N2 D2)) wx (rng lo hi) ∧ w2.heap.size ≤ bx ∧ w2.heap.size ≤ lo ∧ hi ≤ wx.heap.size ∧ (bx < lo ∨ hi ≤ bx) ∧ Below w2.heap.size w2 wx)
  case first =>
    have nz0 : ¬ w2.heap.size = w.heap.size := by omega
    have nz1 : ¬ w2.heap.size = w.heap.size + 1 := by omega
    go_region_held3 (fun W => W.cell? ⟨w.heap.size, 0, none⟩ = some (.int .i64 s0_0) ∧ W.cell? ⟨w.heap.size, 1, none⟩ = some (.slice a0_0 n0_0 c0_0) ∧ W.cell? ⟨w.heap.size, 2, none⟩ = some (.slice a0_1 n0_1 c0_1) ∧ W.cell? ⟨w.heap.size + 1, 0, none⟩ = some (.int .i64 s1_0) ∧ W.cell? ⟨w.heap.size + 1, 1, none⟩ = some (.int .i64 s1_1) ∧ W.cell? ⟨w.heap.size + 1, 2, none⟩ = some (.int .i64 s1_2) ∧ W.cell? ⟨w.heap.size + 1, 3, none⟩ = some (.int .i64 s1_3) ∧ W.cell? ⟨w.heap.size + 1, 4, none⟩ = some (.bool s1_4) ∧ W.cell? ⟨w.heap.size + 1, 5, none⟩ = some (.slice a1_0 n1_0 c1_0) ∧ Below w2.heap.size w2 W)
      (first | (exact ⟨by with_reducible assumption, by with_reducible assumption, by with_reducible assumption, by with_reducible assumption, by with_reducible assumption, by with_reducible assumption, by with_reducible assumption, by with_reducible assumption, by with_reducible assumption, by with_reducible assumption⟩) | (refine ⟨?_, ?_, ?_, ?_, ?_, ?_, ?_, ?_, ?_, (((((y9.setCell (by first | exact Nat.le_refl _ | exact s0_ | exact s1_) _).setCell (by first | exact Nat.le_refl _ | exact s0_ | exact s1_) _).setCell (by first | exact Nat.le_refl _ | exact s0_ | exact s1_) _).setCell (by first | exact Nat.le_refl _ | exact s0_ | exact s1_) _).setCell (by first | exact Nat.le_refl _ | exact s0_ | exact s1_) _)⟩; (simp only [World.cell?_setCell_far, nz0, nz1, nz0_0, nz0_1, nz1_0, nz1_1, ne_eq, not_false_eq_true, y0]); (simp only [World.cell?_setCell_far, nz0, nz1, nz0_0, nz0_1, nz1_0, nz1_1, ne_eq, not_false_eq_true, y1]); (simp only [World.cell?_setCell_far, nz0, nz1, nz0_0, nz0_1, nz1_0, nz1_1, ne_eq, not_false_eq_true, y2]); (simp only [World.cell?_setCell_far, nz0, nz1, nz0_0, nz0_1, nz1_0, nz1_1, ne_eq, not_false_eq_true, y3]); (simp only [World.cell?_setCell_far, nz0, nz1, nz0_0, nz0_1, nz1_0, nz1_1, ne_eq, not_false_eq_true, y4]); (simp only [World.cell?_setCell_far, nz0, nz1, nz0_0, nz0_1, nz1_0, nz1_1, ne_eq, not_false_eq_true, y5]); (simp only [World.cell?_setCell_far, nz0, nz1, nz0_0, nz0_1, nz1_0, nz1_1, ne_eq, not_false_eq_true, y6]); (simp only [World.cell?_setCell_far, nz0, nz1, nz0_0, nz0_1, nz1_0, nz1_1, ne_eq, not_false_eq_true, y7]); (simp only [World.cell?_setCell_far, nz0, nz1, nz0_0, nz0_1, nz1_0, nz1_1, ne_eq, not_false_eq_true, y8])) | (exact ⟨x0_0, x0_1, x0_2, x1_0, x1_1, x1_2, x1_3, x1_4, x1_5, hWW.drew⟩) | (exact ⟨cell_past _ x0_0, cell_past _ x0_1, cell_past _ x0_2, cell_past _ x1_0, cell_past _ x1_1, cell_past _ x1_2, cell_past _ x1_3, cell_past _ x1_4, cell_past _ x1_5, (ab hWW _).drew⟩) | (exact ⟨cell_past _ (by with_reducible assumption), cell_past _ (by with_reducible assumption), cell_past _ (by with_reducible assumption), cell_past _ (by with_reducible assumption), cell_past _ (by with_reducible assumption), cell_past _ (by with_reducible assumption), cell_past _ (by with_reducible assumption), cell_past _ (by with_reducible assumption), cell_past _ (by with_reducible assumption), ab (by with_reducible assumption) _⟩))
      (first
        | (go_at_call_of 9 a0_0; refine (GX0.out _ ?_).mono ?_; (first | with_reducible assumption | (simp [*]; done)); rintro e v0_ ⟨⟨ee0_0, ee0_1, rfl, pp0_0, pp0_1⟩, hh0, y0, y1, y2, y3, y4, y5, y6, y7, y8, y9⟩; have s0_ := y9.size; have nz0_0 : ¬ v0_.heap.size = w.heap.size := (by omega); have nz1_0 : ¬ v0_.heap.size = w.heap.size + 1 := (by omega); (try (have hT0 := hh0.2 _ _ _ (Stc.new w2 35 [.int .i64 0, .int .i64 0, .slice none 0 0, .slice none 0 0, .slice none 0 0] _ rfl))))
        | (go_at_call_of 10 a1_0; refine (GX1.out _ ?_).mono ?_; (first | with_reducible assumption | (simp [*]; done)); rintro e v1_ ⟨⟨ee1_0, rfl, pp1_0⟩, hh1, y0, y1, y2, y3, y4, y5, y6, y7, y8, y9⟩; have s1_ := y9.size; have nz0_1 : ¬ v1_.heap.size = w.heap.size := (by omega); have nz1_1 : ¬ v1_.heap.size = w.heap.size + 1 := (by omega); have pp0_0 : Lst HeldD.cels 3 v1_ (some ⟨ee0_0, 0, none⟩) n0_0 l0_0 := (by first | exact pp0_0.below hh1.1 | exact (pp0_0.below (ab (Below.refl _ _) _)).below hh1.1); have pp0_1 : Bs v1_ (some ⟨ee0_1, 0, none⟩) n0_1 l0_1 := (by first | exact pp0_1.below hh1.1 | exact (pp0_1.below (ab (Below.refl _ _) _)).below hh1.1); (try (have hT1 := hh1.2 _ _ _ hT0)); (try (have hT1 := hh1.2 _ _ _ (Stc.new v0_ 35 [.int .i64 0, .int .i64 0, .slice none 0 0, .slice none 0 0, .slice none 0 0] _ rfl))))
        | (go_at_call 8; refine (GF.out _ _ _ _ ?_ ?_ ?_ ?_).mono ?_; (first | with_reducible assumption | (simp [*]; done)); (first | exact pp0_0 | exact pp0_0.below (ab (Below.refl _ _) _)); (first | exact pp0_1 | exact pp0_1.below (ab (Below.refl _ _) _)); (first | exact pp1_0 | exact pp1_0.below (ab (Below.refl _ _) _)); rintro e v9_ ⟨⟨A0, d0, A1, d1, A2, d2, rfl, o9, s9⟩, hh9, y0, y1, y2, y3, y4, y5, y6, y7, y8, y9⟩; have s9_ := y9.size; (try (have hb9 := hT1.lt)); (try (have hT9 := hh9.2 _ _ _ hT1)); (try (have hb9 := (Stc.new v1_ 35 [.int .i64 0, .int .i64 0, .slice none 0 0, .slice none 0 0, .slice none 0 0] _ rfl).lt; have hT9 := hh9.2 _ _ _ (Stc.new v1_ 35 [.int .i64 0, .int .i64 0, .slice none 0 0, .slice none 0 0, .slice none 0 0] _ rfl))); (try (have t0 := hT9.cell (i := 0) rfl)); (try (have t1 := hT9.cell (i := 1) rfl)); (try (have t2 := hT9.cell (i := 2) rfl)); (try (have t3 := hT9.cell (i := 3) rfl)); (try (have t4 := hT9.cell (i := 4) rfl)); (try (have tf := hT9.frozen))))
    all_goals
      go_wp2_with fail
      go_meet
      first
        | (obtain ⟨m1, m2, m3, m4⟩ := boxBHearData (((okH _ _ _).sep (okR _ _ _)).sep (okB _ _ _)) hT9 o9 hb9 (by first | exact Nat.le_refl _ | exact s0_ | exact s1_) y9 (.int .i64 Z0) (.int .i64 Z1) (.slice A0 N0 d0) (.slice A1 N1 d1) (.slice A2 N2 d2); exact ⟨_, _, _, A0, d0, A1, d1, A2, d2, rfl, m1, m2, (by first | exact Nat.le_refl _ | exact s0_ | exact s1_), s9, m3, .inl hb9, m4⟩)
        | (obtain ⟨m1, m2, m3, m4⟩ := boxAHearData (RT := 35) (((okH _ _ _).sep (okR _ _ _)).sep (okB _ _ _)) o9 y9 (.int .i64 Z0) (.int .i64 Z1) (.slice A0 N0 d0) (.slice A1 N1 d1) (.slice A2 N2 d2); exact ⟨_, _, _, A0, d0, A1, d1, A2, d2, rfl, m1, m2, s9_, s9, m3, .inr (Nat.le_refl _), m4⟩)
  case rest =>
  obtain ⟨A_b, A_l, A_h, A0, u0, A1, u1, A2, u2, rfl, T0, R0, lbT0, lcT0, ldT0, leT0, bb3⟩ := hcut
  obtain ⟨w3, rfl⟩ : ∃ x, x = wc := ⟨_, rfl⟩
  clear GF hWW GX0 GX1 sl0 sl1
  clear x0_0 x0_1 x0_2
  clear x1_0 x1_1 x1_2 x1_3 x1_4 x1_5
  have ltT0 := T0.lt
  have z3 := bb3.size
  replace S0 := S0.below bb3 S0.lt
  replace S1 := S1.below bb3 S1.lt
  have B3 := ac B2 bb3
  clear bb3 B2
  have x0 := S0.cell (i := 0) rfl
  have x1 := S0.cell (i := 1) rfl
  have x2 := S0.cell (i := 2) rfl
  go_wp2_with fail
  refine (G0.out _ B3).mono ?_
  rintro e w4 ⟨⟨g4_0, g4_1, rfl, X0⟩, b4⟩
  clear x0 x1 x2
  have z4 := b4.size
  replace S0 := S0.below b4 S0.lt
  replace S1 := S1.below b4 S1.lt
  replace R0 := (((okH _ _ _).sep (okR _ _ _)).sep (okB _ _ _)).below R0 b4
  replace T0 := T0.below b4 T0.lt
  have B4 := ac B3 b4
  clear b4 B3
  replace S0 := S0.alloc (.cells #[.int .i64 s0_0, .slice (some ⟨g4_0, 0, none⟩) n0_0 n0_0, .slice (some ⟨g4_1, 0, none⟩) n0_1 n0_1] 32)
  replace S1 := S1.alloc (.cells #[.int .i64 s0_0, .slice (some ⟨g4_0, 0, none⟩) n0_0 n0_0, .slice (some ⟨g4_1, 0, none⟩) n0_1 n0_1] 32)
  replace R0 := (((okH _ _ _).sep (okR _ _ _)).sep (okB _ _ _)).alloc R0 (.cells #[.int .i64 s0_0, .slice (some ⟨g4_0, 0, none⟩) n0_0 n0_0, .slice (some ⟨g4_1, 0, none⟩) n0_1 n0_1] 32)
  replace T0 := T0.alloc (.cells #[.int .i64 s0_0, .slice (some ⟨g4_0, 0, none⟩) n0_0 n0_0, .slice (some ⟨g4_1, 0, none⟩) n0_1 n0_1] 32)
  replace X0 := ((okH _ _ _).sep (okR _ _ _)).alloc X0 (.cells #[.int .i64 s0_0, .slice (some ⟨g4_0, 0, none⟩) n0_0 n0_0, .slice (some ⟨g4_1, 0, none⟩) n0_1 n0_1] 32)
  replace B4 := ab B4 (.cells #[.int .i64 s0_0, .slice (some ⟨g4_0, 0, none⟩) n0_0 n0_0, .slice (some ⟨g4_1, 0, none⟩) n0_1 n0_1] 32)
  have XB0 := Stc.new w4 32 [.int .i64 s0_0, .slice (some ⟨g4_0, 0, none⟩) n0_0 n0_0, .slice (some ⟨g4_1, 0, none⟩) n0_1 n0_1] _ rfl
  have x0 := S1.cell (i := 0) rfl
  have x1 := S1.cell (i := 1) rfl
  have x2 := S1.cell (i := 2) rfl
  have x3 := S1.cell (i := 3) rfl
  have x4 := S1.cell (i := 4) rfl
  have x5 := S1.cell (i := 5) rfl
  go_wp2_with fail
  refine (G1.out _ B4).mono ?_
  rintro e w5 ⟨⟨g5_0, rfl, X1⟩, b5⟩
  clear x0 x1 x2 x3 x4 x5
  simp only [World.size_alloc] at X1
  have z5 := b5.size
  simp only [World.size_alloc] at z5
  replace S0 := S0.below b5 S0.lt
  replace S1 := S1.below b5 S1.lt
  replace R0 := (((okH _ _ _).sep (okR _ _ _)).sep (okB _ _ _)).below R0 b5
  replace T0 := T0.below b5 T0.lt
  replace X0 := ((okH _ _ _).sep (okR _ _ _)).below X0 b5
  replace XB0 := XB0.below b5 XB0.lt
  have B5 := ac B4 b5
  clear b5 B4
  replace S0 := S0.alloc (.cells #[.int .i64 s1_0, .int .i64 s1_1, .int .i64 s1_2, .int .i64 s1_3, .bool s1_4, .slice (some ⟨g5_0, 0, none⟩) n1_0 n1_0] 38)
  replace S1 := S1.alloc (.cells #[.int .i64 s1_0, .int .i64 s1_1, .int .i64 s1_2, .int .i64 s1_3, .bool s1_4, .slice (some ⟨g5_0, 0, none⟩) n1_0 n1_0] 38)
  replace R0 := (((okH _ _ _).sep (okR _ _ _)).sep (okB _ _ _)).alloc R0 (.cells #[.int .i64 s1_0, .int .i64 s1_1, .int .i64 s1_2, .int .i64 s1_3, .bool s1_4, .slice (some ⟨g5_0, 0, none⟩) n1_0 n1_0] 38)
  replace T0 := T0.alloc (.cells #[.int .i64 s1_0, .int .i64 s1_1, .int .i64 s1_2, .int .i64 s1_3, .bool s1_4, .slice (some ⟨g5_0, 0, none⟩) n1_0 n1_0] 38)
  replace X0 := ((okH _ _ _).sep (okR _ _ _)).alloc X0 (.cells #[.int .i64 s1_0, .int .i64 s1_1, .int .i64 s1_2, .int .i64 s1_3, .bool s1_4, .slice (some ⟨g5_0, 0, none⟩) n1_0 n1_0] 38)
  replace XB0 := XB0.alloc (.cells #[.int .i64 s1_0, .int .i64 s1_1, .int .i64 s1_2, .int .i64 s1_3, .bool s1_4, .slice (some ⟨g5_0, 0, none⟩) n1_0 n1_0] 38)
  replace X1 := (okR _ _ _).alloc X1 (.cells #[.int .i64 s1_0, .int .i64 s1_1, .int .i64 s1_2, .int .i64 s1_3, .bool s1_4, .slice (some ⟨g5_0, 0, none⟩) n1_0 n1_0] 38)
  replace B5 := ab B5 (.cells #[.int .i64 s1_0, .int .i64 s1_1, .int .i64 s1_2, .int .i64 s1_3, .bool s1_4, .slice (some ⟨g5_0, 0, none⟩) n1_0 n1_0] 38)
  have XB1 := Stc.new w5 38 [.int .i64 s1_0, .int .i64 s1_1, .int .i64 s1_2, .int .i64 s1_3, .bool s1_4, .slice (some ⟨g5_0, 0, none⟩) n1_0 n1_0] _ rfl
  have x0_0 := XB0.cell (i := 0) rfl
  have x0_1 := XB0.cell (i := 1) rfl
  have x0_2 := XB0.cell (i := 2) rfl
  have x1_0 := XB1.cell (i := 0) rfl
  have x1_1 := XB1.cell (i := 1) rfl
  have x1_2 := XB1.cell (i := 2) rfl
  have x1_3 := XB1.cell (i := 3) rfl
  have x1_4 := XB1.cell (i := 4) rfl
  have x1_5 := XB1.cell (i := 5) rfl
  have O0 := X0
  obtain ⟨_, _, _, _, _, O0_0, O0_1⟩ := O0
  replace O0_0 := Lo.rows O0_0
  replace O0_1 := Bo.bs O0_1
  have O1 := X1
  have O1_0 := O1
  replace O1_0 := Bo.bs O1_0
  have T1P := hkeep _ _ B5 hP
  go_wp2_with fail
  refine (Gi.out _ _ _ _ T1P O0_0 O0_1 O1_0).mono ?_
  rintro e w6 ⟨⟨DA0, v0, DA1, v1, DA2, v2, rfl, R1⟩, b6⟩
  clear T1P O0_0 O0_1 O1_0
  clear x0_0 x0_1 x0_2
  clear x1_0 x1_1 x1_2 x1_3 x1_4 x1_5
  simp only [World.size_alloc] at R1
  have z6 := b6.size
  simp only [World.size_alloc] at z6
  replace S0 := S0.below b6 S0.lt
  replace S1 := S1.below b6 S1.lt
  replace R0 := (((okH _ _ _).sep (okR _ _ _)).sep (okB _ _ _)).below R0 b6
  replace T0 := T0.below b6 T0.lt
  replace X0 := ((okH _ _ _).sep (okR _ _ _)).below X0 b6
  replace XB0 := XB0.below b6 XB0.lt
  replace X1 := (okR _ _ _).below X1 b6
  replace XB1 := XB1.below b6 XB1.lt
  have B6 := ac B5 b6
  clear b6 B5
  replace S0 := S0.alloc (.cells #[.int .i64 Z0, .int .i64 Z1, .slice DA0 N0 v0, .slice DA1 N1 v1, .slice DA2 N2 v2] 35)
  replace S1 := S1.alloc (.cells #[.int .i64 Z0, .int .i64 Z1, .slice DA0 N0 v0, .slice DA1 N1 v1, .slice DA2 N2 v2] 35)
  replace R0 := (((okH _ _ _).sep (okR _ _ _)).sep (okB _ _ _)).alloc R0 (.cells #[.int .i64 Z0, .int .i64 Z1, .slice DA0 N0 v0, .slice DA1 N1 v1, .slice DA2 N2 v2] 35)
  replace T0 := T0.alloc (.cells #[.int .i64 Z0, .int .i64 Z1, .slice DA0 N0 v0, .slice DA1 N1 v1, .slice DA2 N2 v2] 35)
  replace X0 := ((okH _ _ _).sep (okR _ _ _)).alloc X0 (.cells #[.int .i64 Z0, .int .i64 Z1, .slice DA0 N0 v0, .slice DA1 N1 v1, .slice DA2 N2 v2] 35)
  replace XB0 := XB0.alloc (.cells #[.int .i64 Z0, .int .i64 Z1, .slice DA0 N0 v0, .slice DA1 N1 v1, .slice DA2 N2 v2] 35)
  replace X1 := (okR _ _ _).alloc X1 (.cells #[.int .i64 Z0, .int .i64 Z1, .slice DA0 N0 v0, .slice DA1 N1 v1, .slice DA2 N2 v2] 35)
  replace XB1 := XB1.alloc (.cells #[.int .i64 Z0, .int .i64 Z1, .slice DA0 N0 v0, .slice DA1 N1 v1, .slice DA2 N2 v2] 35)
  replace R1 := (((okH _ _ _).sep (okR _ _ _)).sep (okB _ _ _)).alloc R1 (.cells #[.int .i64 Z0, .int .i64 Z1, .slice DA0 N0 v0, .slice DA1 N1 v1, .slice DA2 N2 v2] 35)
  replace B6 := ab B6 (.cells #[.int .i64 Z0, .int .i64 Z1, .slice DA0 N0 v0, .slice DA1 N1 v1, .slice DA2 N2 v2] 35)
  have T1 := Stc.new w6 35 [.int .i64 Z0, .int .i64 Z1, .slice DA0 N0 v0, .slice DA1 N1 v1, .slice DA2 N2 v2] _ rfl
  have x0 := T1.cell (i := 0) rfl
  have x1 := T1.cell (i := 1) rfl
  have x2 := T1.cell (i := 2) rfl
  have x3 := T1.cell (i := 3) rfl
  have x4 := T1.cell (i := 4) rfl
  have y0 := T0.cell (i := 0) rfl
  have y1 := T0.cell (i := 1) rfl
  have y2 := T0.cell (i := 2) rfl
  have y3 := T0.cell (i := 3) rfl
  have y4 := T0.cell (i := 4) rfl
  have V := R1
  obtain ⟨_, _, _, _, _, V_0, V_1⟩ := V
  obtain ⟨_, _, _, _, _, V_0_0, V_0_1⟩ := V_0
  replace V_0_0 := Lo.rows V_0_0
  replace V_0_1 := Bo.bs V_0_1
  replace V_1 := Lo.rows V_1
  have U := R0
  obtain ⟨_, _, _, _, _, U_0, U_1⟩ := U
  obtain ⟨_, _, _, _, _, U_0_0, U_0_1⟩ := U_0
  replace U_0_0 := Lo.rows U_0_0
  replace U_0_1 := Bo.bs U_0_1
  replace U_1 := Lo.rows U_1
  go_wp2_with fail
  refine (eqReceiverResult_any Z0 Z1 _ _ _ _ _ _ _ _ _ _ _ _ _ _ _ _ _ _ _ V_0_0 U_0_0 V_0_1 U_0_1 V_1 U_1 (by omega) hB0 (by omega) (by omega) hB2).mono ?_
  rintro e w7 ⟨rfl, b7⟩
  clear x0 x1 x2 x3 x4
  clear y0 y1 y2 y3 y4
  clear V_0_0 V_0_1 V_1 U_0_0 U_0_1 U_1
  have z7 := b7.size
  simp only [World.size_alloc] at z7
  replace S0 := S0.below b7 S0.lt
  replace S1 := S1.below b7 S1.lt
  replace R0 := (((okH _ _ _).sep (okR _ _ _)).sep (okB _ _ _)).below R0 b7
  replace T0 := T0.below b7 T0.lt
  replace X0 := ((okH _ _ _).sep (okR _ _ _)).below X0 b7
  replace XB0 := XB0.below b7 XB0.lt
  replace X1 := (okR _ _ _).below X1 b7
  replace XB1 := XB1.below b7 XB1.lt
  replace R1 := (((okH _ _ _).sep (okR _ _ _)).sep (okB _ _ _)).below R1 b7
  replace T1 := T1.below b7 T1.lt
  have B7 := ac B6 b7
  clear b7 B6
  have x0 := S0.cell (i := 0) rfl
  have x1 := S0.cell (i := 1) rfl
  have x2 := S0.cell (i := 2) rfl
  have xx0 := XB0.cell (i := 0) rfl
  have xx1 := XB0.cell (i := 1) rfl
  have xx2 := XB0.cell (i := 2) rfl
  have lS := S0.lt
  have lX := XB0.lt
  have hWW := Below.refl w7.heap.size w7
  have sl0 : w.heap.size < w7.heap.size := by first | assumption | omega
  have sl1 : w4.heap.size < w7.heap.size := by first | assumption | omega
  have GA : Shut (∀ W : World, (W.cell? ⟨w.heap.size, 0, none⟩ = some (.int .i64 s0_0) ∧ W.cell? ⟨w.heap.size, 1, none⟩ = some (.slice a0_0 n0_0 c0_0) ∧ W.cell? ⟨w.heap.size, 2, none⟩ = some (.slice a0_1 n0_1 c0_1) ∧ W.cell? ⟨w4.heap.size, 0, none⟩ = some (.int .i64 s0_0) ∧ W.cell? ⟨w4.heap.size, 1, none⟩ = some (.slice (some ⟨g4_0, 0, none⟩) n0_0 n0_0) ∧ W.cell? ⟨w4.heap.size, 2, none⟩ = some (.slice (some ⟨g4_1, 0, none⟩) n0_1 n0_1) ∧ Below w7.heap.size w7 W) → Calls Try.prog 9 #[.agg #[.int .i64 s0_0, .slice a0_0 n0_0 c0_0, .slice a0_1 n0_1 c0_1]] W fun e w' => (∃ q0 q1, e = .returned (.agg #[.int .i64 s0_0, .slice (some ⟨q0, 0, none⟩) n0_0 n0_0, .slice (some ⟨q1, 0, none⟩) n0_1 n0_1]) ∧ Lst HeldD.cels 3 w' (some ⟨q0, 0, none⟩) n0_0 l0_0 ∧ Bs w' (some ⟨q1, 0, none⟩) n0_1 l0_1) ∧ w'.cell? ⟨w.heap.size, 0, none⟩ = some (.int .i64 s0_0) ∧ w'.cell? ⟨w.heap.size, 1, none⟩ = some (.slice a0_0 n0_0 c0_0) ∧ w'.cell? ⟨w.heap.size, 2, none⟩ = some (.slice a0_1 n0_1 c0_1) ∧ w'.cell? ⟨w4.heap.size, 0, none⟩ = some (.int .i64 s0_0) ∧ w'.cell? ⟨w4.heap.size, 1, none⟩ = some (.slice (some ⟨g4_0, 0, none⟩) n0_0 n0_0) ∧ w'.cell? ⟨w4.heap.size, 2, none⟩ = some (.slice (some ⟨g4_1, 0, none⟩) n0_1 n0_1) ∧ Below w7.heap.size w7 w') := by
    refine ⟨fun W ⟨y0, y1, y2, y3, y4, y5, y6⟩ => (G0.out W (ac B7 y6)).mono ?_⟩
    rintro e w' ⟨⟨q0, q1, rfl, R⟩, hb⟩
    have hc := fun (b i : Nat) (h : b < w7.heap.size) => hb.cell (p := ⟨b, i, none⟩) (Nat.lt_of_lt_of_le h y6.size)
    have OR := R
    obtain ⟨_, _, _, _, _, OR_0, OR_1⟩ := OR
    replace OR_0 := Lo.rows OR_0
    replace OR_1 := Bo.bs OR_1
    exact ⟨⟨q0, q1, rfl, OR_0, OR_1⟩, (hc (w.heap.size) 0 sl0).trans y0, (hc (w.heap.size) 1 sl0).trans y1, (hc (w.heap.size) 2 sl0).trans y2, (hc (w4.heap.size) 0 sl1).trans y3, (hc (w4.heap.size) 1 sl1).trans y4, (hc (w4.heap.size) 2 sl1).trans y5, ac y6 hb⟩
  have OX := X0
  obtain ⟨_, _, _, _, _, OX_0, OX_1⟩ := OX
  replace OX_0 := Lo.rows OX_0
  replace OX_1 := Bo.bs OX_1
  have GB : Shut (∀ (q0 q1 : Nat) (W : World), (W.cell? ⟨w.heap.size, 0, none⟩ = some (.int .i64 s0_0) ∧ W.cell? ⟨w.heap.size, 1, none⟩ = some (.slice a0_0 n0_0 c0_0) ∧ W.cell? ⟨w.heap.size, 2, none⟩ = some (.slice a0_1 n0_1 c0_1) ∧ W.cell? ⟨w4.heap.size, 0, none⟩ = some (.int .i64 s0_0) ∧ W.cell? ⟨w4.heap.size, 1, none⟩ = some (.slice (some ⟨g4_0, 0, none⟩) n0_0 n0_0) ∧ W.cell? ⟨w4.heap.size, 2, none⟩ = some (.slice (some ⟨g4_1, 0, none⟩) n0_1 n0_1) ∧ Below w7.heap.size w7 W) → Lst HeldD.cels 3 W (some ⟨q0, 0, none⟩) n0_0 l0_0 → Bs W (some ⟨q1, 0, none⟩) n0_1 l0_1 → Calls Try.prog 13 #[.agg #[.int .i64 s0_0, .slice (some ⟨g4_0, 0, none⟩) n0_0 n0_0, .slice (some ⟨g4_1, 0, none⟩) n0_1 n0_1], .agg #[.int .i64 s0_0, .slice (some ⟨q0, 0, none⟩) n0_0 n0_0, .slice (some ⟨q1, 0, none⟩) n0_1 n0_1]] W fun e w' => e = .returned (.bool true) ∧ w'.cell? ⟨w.heap.size, 0, none⟩ = some (.int .i64 s0_0) ∧ w'.cell? ⟨w.heap.size, 1, none⟩ = some (.slice a0_0 n0_0 c0_0) ∧ w'.cell? ⟨w.heap.size, 2, none⟩ = some (.slice a0_1 n0_1 c0_1) ∧ w'.cell? ⟨w4.heap.size, 0, none⟩ = some (.int .i64 s0_0) ∧ w'.cell? ⟨w4.heap.size, 1, none⟩ = some (.slice (some ⟨g4_0, 0, none⟩) n0_0 n0_0) ∧ w'.cell? ⟨w4.heap.size, 2, none⟩ = some (.slice (some ⟨g4_1, 0, none⟩) n0_1 n0_1) ∧ Below w7.heap.size w7 w') := by
    refine ⟨fun q0 q1 W ⟨y0, y1, y2, y3, y4, y5, y6⟩ p0 p1 => (eqReceiver_any s0_0 _ _ _ _ _ _ _ _ _ _ _ _ W (OX_0.below y6) p0 (OX_1.below y6) p1 (by omega) (fun e he => by have := b0_0 e he; omega) (by omega)).mono ?_⟩
    rintro e w' ⟨rfl, hb⟩
    have hc := fun (b i : Nat) (h : b < w7.heap.size) => hb.cell (p := ⟨b, i, none⟩) (Nat.lt_of_lt_of_le h y6.size)
    exact ⟨rfl, (hc (w.heap.size) 0 sl0).trans y0, (hc (w.heap.size) 1 sl0).trans y1, (hc (w.heap.size) 2 sl0).trans y2, (hc (w4.heap.size) 0 sl1).trans y3, (hc (w4.heap.size) 1 sl1).trans y4, (hc (w4.heap.size) 2 sl1).trans y5, ac y6 hb⟩
  clear OX_0 OX_1
  go_wp2_with fail
  go_region_held3 (fun W => W.cell? ⟨w.heap.size, 0, none⟩ = some (.int .i64 s0_0) ∧ W.cell? ⟨w.heap.size, 1, none⟩ = some (.slice a0_0 n0_0 c0_0) ∧ W.cell? ⟨w.heap.size, 2, none⟩ = some (.slice a0_1 n0_1 c0_1) ∧ W.cell? ⟨w4.heap.size, 0, none⟩ = some (.int .i64 s0_0) ∧ W.cell? ⟨w4.heap.size, 1, none⟩ = some (.slice (some ⟨g4_0, 0, none⟩) n0_0 n0_0) ∧ W.cell? ⟨w4.heap.size, 2, none⟩ = some (.slice (some ⟨g4_1, 0, none⟩) n0_1 n0_1) ∧ Below w7.heap.size w7 W)
    (first | (exact ⟨by assumption, by assumption, by assumption, by assumption, by assumption, by assumption, by assumption⟩) | (exact ⟨x0, x1, x2, xx0, xx1, xx2, hWW.drew⟩) | go_keep)
    (first
      | (go_at_call 9; refine (GA.out _ ?_).mono ?_; (first | assumption | (simp [*]; done)); rintro e w8 ⟨⟨ee0, ee1, rfl, pp0, pp1⟩, y0, y1, y2, y3, y4, y5, y6⟩)
      | (go_at_call 13; refine (GB.out _ _ _ ?_ ?_ ?_).mono ?_; (first | assumption | (simp [*]; done)); assumption; assumption; rintro e w8 ⟨rfl, y0, y1, y2, y3, y4, y5, y6⟩))
  clear GA GB hWW sl0 sl1 lS lX y0 y1 y2 y3 y4 y5
  clear x0 x1 x2
  clear xx0 xx1 xx2
  have z8 := y6.size
  replace S0 := S0.below y6 S0.lt
  replace S1 := S1.below y6 S1.lt
  replace R0 := (((okH _ _ _).sep (okR _ _ _)).sep (okB _ _ _)).below R0 y6
  replace T0 := T0.below y6 T0.lt
  replace X0 := ((okH _ _ _).sep (okR _ _ _)).below X0 y6
  replace XB0 := XB0.below y6 XB0.lt
  replace X1 := (okR _ _ _).below X1 y6
  replace XB1 := XB1.below y6 XB1.lt
  replace R1 := (((okH _ _ _).sep (okR _ _ _)).sep (okB _ _ _)).below R1 y6
  replace T1 := T1.below y6 T1.lt
  have B8 := ac B7 y6
  clear y6 B7
  have x0 := S1.cell (i := 0) rfl
  have x1 := S1.cell (i := 1) rfl
  have x2 := S1.cell (i := 2) rfl
  have x3 := S1.cell (i := 3) rfl
  have x4 := S1.cell (i := 4) rfl
  have x5 := S1.cell (i := 5) rfl
  have xx0 := XB1.cell (i := 0) rfl
  have xx1 := XB1.cell (i := 1) rfl
  have xx2 := XB1.cell (i := 2) rfl
  have xx3 := XB1.cell (i := 3) rfl
  have xx4 := XB1.cell (i := 4) rfl
  have xx5 := XB1.cell (i := 5) rfl
  have lS := S1.lt
  have lX := XB1.lt
  have hWW := Below.refl w8.heap.size w8
  have sl0 : w.heap.size + 1 < w8.heap.size := by first | assumption | omega
  have sl1 : w5.heap.size < w8.heap.size := by first | assumption | omega
  have GA : Shut (∀ W : World, (W.cell? ⟨w.heap.size + 1, 0, none⟩ = some (.int .i64 s1_0) ∧ W.cell? ⟨w.heap.size + 1, 1, none⟩ = some (.int .i64 s1_1) ∧ W.cell? ⟨w.heap.size + 1, 2, none⟩ = some (.int .i64 s1_2) ∧ W.cell? ⟨w.heap.size + 1, 3, none⟩ = some (.int .i64 s1_3) ∧ W.cell? ⟨w.heap.size + 1, 4, none⟩ = some (.bool s1_4) ∧ W.cell? ⟨w.heap.size + 1, 5, none⟩ = some (.slice a1_0 n1_0 c1_0) ∧ W.cell? ⟨w5.heap.size, 0, none⟩ = some (.int .i64 s1_0) ∧ W.cell? ⟨w5.heap.size, 1, none⟩ = some (.int .i64 s1_1) ∧ W.cell? ⟨w5.heap.size, 2, none⟩ = some (.int .i64 s1_2) ∧ W.cell? ⟨w5.heap.size, 3, none⟩ = some (.int .i64 s1_3) ∧ W.cell? ⟨w5.heap.size, 4, none⟩ = some (.bool s1_4) ∧ W.cell? ⟨w5.heap.size, 5, none⟩ = some (.slice (some ⟨g5_0, 0, none⟩) n1_0 n1_0) ∧ Below w8.heap.size w8 W) → Calls Try.prog 10 #[.agg #[.int .i64 s1_0, .int .i64 s1_1, .int .i64 s1_2, .int .i64 s1_3, .bool s1_4, .slice a1_0 n1_0 c1_0]] W fun e w' => (∃ q0, e = .returned (.agg #[.int .i64 s1_0, .int .i64 s1_1, .int .i64 s1_2, .int .i64 s1_3, .bool s1_4, .slice (some ⟨q0, 0, none⟩) n1_0 n1_0]) ∧ Bs w' (some ⟨q0, 0, none⟩) n1_0 l1_0) ∧ w'.cell? ⟨w.heap.size + 1, 0, none⟩ = some (.int .i64 s1_0) ∧ w'.cell? ⟨w.heap.size + 1, 1, none⟩ = some (.int .i64 s1_1) ∧ w'.cell? ⟨w.heap.size + 1, 2, none⟩ = some (.int .i64 s1_2) ∧ w'.cell? ⟨w.heap.size + 1, 3, none⟩ = some (.int .i64 s1_3) ∧ w'.cell? ⟨w.heap.size + 1, 4, none⟩ = some (.bool s1_4) ∧ w'.cell? ⟨w.heap.size + 1, 5, none⟩ = some (.slice a1_0 n1_0 c1_0) ∧ w'.cell? ⟨w5.heap.size, 0, none⟩ = some (.int .i64 s1_0) ∧ w'.cell? ⟨w5.heap.size, 1, none⟩ = some (.int .i64 s1_1) ∧ w'.cell? ⟨w5.heap.size, 2, none⟩ = some (.int .i64 s1_2) ∧ w'.cell? ⟨w5.heap.size, 3, none⟩ = some (.int .i64 s1_3) ∧ w'.cell? ⟨w5.heap.size, 4, none⟩ = some (.bool s1_4) ∧ w'.cell? ⟨w5.heap.size, 5, none⟩ = some (.slice (some ⟨g5_0, 0, none⟩) n1_0 n1_0) ∧ Below w8.heap.size w8 w') := by
    refine ⟨fun W ⟨y0, y1, y2, y3, y4, y5, y6, y7, y8, y9, y10, y11, y12⟩ => (G1.out W (ac B8 y12)).mono ?_⟩
    rintro e w' ⟨⟨q0, rfl, R⟩, hb⟩
    have hc := fun (b i : Nat) (h : b < w8.heap.size) => hb.cell (p := ⟨b, i, none⟩) (Nat.lt_of_lt_of_le h y12.size)
    have OR := R
    have OR_0 := OR
    replace OR_0 := Bo.bs OR_0
    exact ⟨⟨q0, rfl, OR_0⟩, (hc (w.heap.size + 1) 0 sl0).trans y0, (hc (w.heap.size + 1) 1 sl0).trans y1, (hc (w.heap.size + 1) 2 sl0).trans y2, (hc (w.heap.size + 1) 3 sl0).trans y3, (hc (w.heap.size + 1) 4 sl0).trans y4, (hc (w.heap.size + 1) 5 sl0).trans y5, (hc (w5.heap.size) 0 sl1).trans y6, (hc (w5.heap.size) 1 sl1).trans y7, (hc (w5.heap.size) 2 sl1).trans y8, (hc (w5.heap.size) 3 sl1).trans y9, (hc (w5.heap.size) 4 sl1).trans y10, (hc (w5.heap.size) 5 sl1).trans y11, ac y12 hb⟩
  have OX := X1
  have OX_0 := OX
  replace OX_0 := Bo.bs OX_0
  have GB : Shut (∀ (q0 : Nat) (W : World), (W.cell? ⟨w.heap.size + 1, 0, none⟩ = some (.int .i64 s1_0) ∧ W.cell? ⟨w.heap.size + 1, 1, none⟩ = some (.int .i64 s1_1) ∧ W.cell? ⟨w.heap.size + 1, 2, none⟩ = some (.int .i64 s1_2) ∧ W.cell? ⟨w.heap.size + 1, 3, none⟩ = some (.int .i64 s1_3) ∧ W.cell? ⟨w.heap.size + 1, 4, none⟩ = some (.bool s1_4) ∧ W.cell? ⟨w.heap.size + 1, 5, none⟩ = some (.slice a1_0 n1_0 c1_0) ∧ W.cell? ⟨w5.heap.size, 0, none⟩ = some (.int .i64 s1_0) ∧ W.cell? ⟨w5.heap.size, 1, none⟩ = some (.int .i64 s1_1) ∧ W.cell? ⟨w5.heap.size, 2, none⟩ = some (.int .i64 s1_2) ∧ W.cell? ⟨w5.heap.size, 3, none⟩ = some (.int .i64 s1_3) ∧ W.cell? ⟨w5.heap.size, 4, none⟩ = some (.bool s1_4) ∧ W.cell? ⟨w5.heap.size, 5, none⟩ = some (.slice (some ⟨g5_0, 0, none⟩) n1_0 n1_0) ∧ Below w8.heap.size w8 W) → Bs W (some ⟨q0, 0, none⟩) n1_0 l1_0 → Calls Try.prog 14 #[.agg #[.int .i64 s1_0, .int .i64 s1_1, .int .i64 s1_2, .int .i64 s1_3, .bool s1_4, .slice (some ⟨g5_0, 0, none⟩) n1_0 n1_0], .agg #[.int .i64 s1_0, .int .i64 s1_1, .int .i64 s1_2, .int .i64 s1_3, .bool s1_4, .slice (some ⟨q0, 0, none⟩) n1_0 n1_0]] W fun e w' => e = .returned (.bool true) ∧ w'.cell? ⟨w.heap.size + 1, 0, none⟩ = some (.int .i64 s1_0) ∧ w'.cell? ⟨w.heap.size + 1, 1, none⟩ = some (.int .i64 s1_1) ∧ w'.cell? ⟨w.heap.size + 1, 2, none⟩ = some (.int .i64 s1_2) ∧ w'.cell? ⟨w.heap.size + 1, 3, none⟩ = some (.int .i64 s1_3) ∧ w'.cell? ⟨w.heap.size + 1, 4, none⟩ = some (.bool s1_4) ∧ w'.cell? ⟨w.heap.size + 1, 5, none⟩ = some (.slice a1_0 n1_0 c1_0) ∧ w'.cell? ⟨w5.heap.size, 0, none⟩ = some (.int .i64 s1_0) ∧ w'.cell? ⟨w5.heap.size, 1, none⟩ = some (.int .i64 s1_1) ∧ w'.cell? ⟨w5.heap.size, 2, none⟩ = some (.int .i64 s1_2) ∧ w'.cell? ⟨w5.heap.size, 3, none⟩ = some (.int .i64 s1_3) ∧ w'.cell? ⟨w5.heap.size, 4, none⟩ = some (.bool s1_4) ∧ w'.cell? ⟨w5.heap.size, 5, none⟩ = some (.slice (some ⟨g5_0, 0, none⟩) n1_0 n1_0) ∧ Below w8.heap.size w8 w') := by
    refine ⟨fun q0 W ⟨y0, y1, y2, y3, y4, y5, y6, y7, y8, y9, y10, y11, y12⟩ p0 => (eqCell_any s1_0 s1_1 s1_2 s1_3 s1_4 _ _ _ _ _ _ W (OX_0.below y12) p0 (by omega)).mono ?_⟩
    rintro e w' ⟨rfl, hb⟩
    have hc := fun (b i : Nat) (h : b < w8.heap.size) => hb.cell (p := ⟨b, i, none⟩) (Nat.lt_of_lt_of_le h y12.size)
    exact ⟨rfl, (hc (w.heap.size + 1) 0 sl0).trans y0, (hc (w.heap.size + 1) 1 sl0).trans y1, (hc (w.heap.size + 1) 2 sl0).trans y2, (hc (w.heap.size + 1) 3 sl0).trans y3, (hc (w.heap.size + 1) 4 sl0).trans y4, (hc (w.heap.size + 1) 5 sl0).trans y5, (hc (w5.heap.size) 0 sl1).trans y6, (hc (w5.heap.size) 1 sl1).trans y7, (hc (w5.heap.size) 2 sl1).trans y8, (hc (w5.heap.size) 3 sl1).trans y9, (hc (w5.heap.size) 4 sl1).trans y10, (hc (w5.heap.size) 5 sl1).trans y11, ac y12 hb⟩
  clear OX_0
  go_wp2_with fail
  go_region_held3 (fun W => W.cell? ⟨w.heap.size + 1, 0, none⟩ = some (.int .i64 s1_0) ∧ W.cell? ⟨w.heap.size + 1, 1, none⟩ = some (.int .i64 s1_1) ∧ W.cell? ⟨w.heap.size + 1, 2, none⟩ = some (.int .i64 s1_2) ∧ W.cell? ⟨w.heap.size + 1, 3, none⟩ = some (.int .i64 s1_3) ∧ W.cell? ⟨w.heap.size + 1, 4, none⟩ = some (.bool s1_4) ∧ W.cell? ⟨w.heap.size + 1, 5, none⟩ = some (.slice a1_0 n1_0 c1_0) ∧ W.cell? ⟨w5.heap.size, 0, none⟩ = some (.int .i64 s1_0) ∧ W.cell? ⟨w5.heap.size, 1, none⟩ = some (.int .i64 s1_1) ∧ W.cell? ⟨w5.heap.size, 2, none⟩ = some (.int .i64 s1_2) ∧ W.cell? ⟨w5.heap.size, 3, none⟩ = some (.int .i64 s1_3) ∧ W.cell? ⟨w5.heap.size, 4, none⟩ = some (.bool s1_4) ∧ W.cell? ⟨w5.heap.size, 5, none⟩ = some (.slice (some ⟨g5_0, 0, none⟩) n1_0 n1_0) ∧ Below w8.heap.size w8 W)
    (first | (exact ⟨by assumption, by assumption, by assumption, by assumption, by assumption, by assumption, by assumption, by assumption, by assumption, by assumption, by assumption, by assumption, by assumption⟩) | (exact ⟨x0, x1, x2, x3, x4, x5, xx0, xx1, xx2, xx3, xx4, xx5, hWW.drew⟩) | go_keep)
    (first
      | (go_at_call 10; refine (GA.out _ ?_).mono ?_; (first | assumption | (simp [*]; done)); rintro e w9 ⟨⟨ee0, rfl, pp0⟩, y0, y1, y2, y3, y4, y5, y6, y7, y8, y9, y10, y11, y12⟩)
      | (go_at_call 14; refine (GB.out _ _ ?_ ?_).mono ?_; (first | assumption | (simp [*]; done)); assumption; rintro e w9 ⟨rfl, y0, y1, y2, y3, y4, y5, y6, y7, y8, y9, y10, y11, y12⟩))
  clear GA GB hWW sl0 sl1 lS lX y0 y1 y2 y3 y4 y5 y6 y7 y8 y9 y10 y11
  clear x0 x1 x2 x3 x4 x5
  clear xx0 xx1 xx2 xx3 xx4 xx5
  have z9 := y12.size
  replace S0 := S0.below y12 S0.lt
  replace S1 := S1.below y12 S1.lt
  replace R0 := (((okH _ _ _).sep (okR _ _ _)).sep (okB _ _ _)).below R0 y12
  replace T0 := T0.below y12 T0.lt
  replace X0 := ((okH _ _ _).sep (okR _ _ _)).below X0 y12
  replace XB0 := XB0.below y12 XB0.lt
  replace X1 := (okR _ _ _).below X1 y12
  replace XB1 := XB1.below y12 XB1.lt
  replace R1 := (((okH _ _ _).sep (okR _ _ _)).sep (okB _ _ _)).below R1 y12
  replace T1 := T1.below y12 T1.lt
  have B9 := ac B8 y12
  clear y12 B8
  have x0 := XB0.cell (i := 0) rfl
  have x1 := XB0.cell (i := 1) rfl
  have x2 := XB0.cell (i := 2) rfl
  go_wp2_with fail
  refine (markReceiver_any s0_0 _ _ _ _ _ _ _ _ _ _ _ X0 (fun b hb => by unfold rng at hb; omega) (by omega) (by omega) (by omega) (Nat.le_trans q0_0 (by decide)) (by omega)).mono ?_
  rintro e w10 ⟨rfl, _, tc10⟩
  clear x0 x1 x2
  have z10 := tc10.size
  have tb := tc10.below (C := w.heap.size) (by have := B9.size; omega) (fun b hb => by unfold rng at hb; have := B9.size; omega)
  replace S0 := S0.tu tc10 (by unfold rng; omega)
  replace S1 := S1.tu tc10 (by unfold rng; omega)
  replace R0 := (((okH _ _ _).sep (okR _ _ _)).sep (okB _ _ _)).tur R0 tc10 (by first | (left; omega) | (right; omega))
  replace T0 := T0.tu tc10 (by unfold rng; omega)
  replace XB0 := XB0.tu tc10 (by unfold rng; omega)
  replace X1 := (okR _ _ _).tur X1 tc10 (by first | (left; omega) | (right; omega))
  replace XB1 := XB1.tu tc10 (by unfold rng; omega)
  replace R1 := (((okH _ _ _).sep (okR _ _ _)).sep (okB _ _ _)).tur R1 tc10 (by first | (left; omega) | (right; omega))
  replace T1 := T1.tu tc10 (by unfold rng; omega)
  have B10 := B9.trans tb
  clear B9 tb tc10
  clear X0
  clear XB0
  have x0 := XB1.cell (i := 0) rfl
  have x1 := XB1.cell (i := 1) rfl
  have x2 := XB1.cell (i := 2) rfl
  have x3 := XB1.cell (i := 3) rfl
  have x4 := XB1.cell (i := 4) rfl
  have x5 := XB1.cell (i := 5) rfl
  go_wp2_with fail
  refine (markCellT_any s1_0 s1_1 s1_2 s1_3 s1_4 _ _ _ _ _ _ _ X1 (by omega) (by omega) (by omega)).mono ?_
  rintro e w11 ⟨rfl, _, tc11⟩
  clear x0 x1 x2 x3 x4 x5
  have z11 := tc11.size
  have tb := tc11.below (C := w.heap.size) (by have := B10.size; omega) (fun b hb => by unfold rng at hb; have := B10.size; omega)
  replace S0 := S0.tu tc11 (by unfold rng; omega)
  replace S1 := S1.tu tc11 (by unfold rng; omega)
  replace R0 := (((okH _ _ _).sep (okR _ _ _)).sep (okB _ _ _)).tur R0 tc11 (by first | (left; omega) | (right; omega))
  replace T0 := T0.tu tc11 (by unfold rng; omega)
  replace XB1 := XB1.tu tc11 (by unfold rng; omega)
  replace R1 := (((okH _ _ _).sep (okR _ _ _)).sep (okB _ _ _)).tur R1 tc11 (by first | (left; omega) | (right; omega))
  replace T1 := T1.tu tc11 (by unfold rng; omega)
  have B11 := B10.trans tb
  clear B10 tb tc11
  clear X1
  clear XB1
  have x0 := T1.cell (i := 0) rfl
  have x1 := T1.cell (i := 1) rfl
  have x2 := T1.cell (i := 2) rfl
  have x3 := T1.cell (i := 3) rfl
  have x4 := T1.cell (i := 4) rfl
  have y0 := T0.cell (i := 0) rfl
  have y1 := T0.cell (i := 1) rfl
  have y2 := T0.cell (i := 2) rfl
  have y3 := T0.cell (i := 3) rfl
  have y4 := T0.cell (i := 4) rfl
  have V := R1
  obtain ⟨_, _, _, _, _, V_0, V_1⟩ := V
  obtain ⟨_, _, _, _, _, V_0_0, V_0_1⟩ := V_0
  replace V_0_0 := Lo.rows V_0_0
  replace V_0_1 := Bo.bs V_0_1
  replace V_1 := Lo.rows V_1
  have U := R0
  obtain ⟨_, _, _, _, _, U_0, U_1⟩ := U
  obtain ⟨_, _, _, _, _, U_0_0, U_0_1⟩ := U_0
  replace U_0_0 := Lo.rows U_0_0
  replace U_0_1 := Bo.bs U_0_1
  replace U_1 := Lo.rows U_1
  go_wp2_with fail
  refine (eqReceiverResult_any Z0 Z1 _ _ _ _ _ _ _ _ _ _ _ _ _ _ _ _ _ _ _ V_0_0 U_0_0 V_0_1 U_0_1 V_1 U_1 (by omega) hB0 (by omega) (by omega) hB2).mono ?_
  rintro e w12 ⟨rfl, b12⟩
  clear x0 x1 x2 x3 x4
  clear y0 y1 y2 y3 y4
  clear V_0_0 V_0_1 V_1 U_0_0 U_0_1 U_1
  have z12 := b12.size
  replace S0 := S0.below b12 S0.lt
  replace S1 := S1.below b12 S1.lt
  replace R0 := (((okH _ _ _).sep (okR _ _ _)).sep (okB _ _ _)).below R0 b12
  replace T0 := T0.below b12 T0.lt
  replace R1 := (((okH _ _ _).sep (okR _ _ _)).sep (okB _ _ _)).below R1 b12
  replace T1 := T1.below b12 T1.lt
  have B12 := ac B11 b12
  clear b12 B11
  have x0 := T1.cell (i := 0) rfl
  have x1 := T1.cell (i := 1) rfl
  have x2 := T1.cell (i := 2) rfl
  have x3 := T1.cell (i := 3) rfl
  have x4 := T1.cell (i := 4) rfl
  go_wp2_with fail
  refine (markReceiverResult_any Z0 Z1 _ _ _ _ _ _ _ _ _ _ _ _ _ _ _ R1 (fun b hb => by unfold rng at hb; omega) (by omega) (by omega) (by omega) (by omega) (by omega) (by omega) (by omega)).mono ?_
  rintro e w13 ⟨rfl, RM, tc13⟩
  clear x0 x1 x2 x3 x4
  have z13 := tc13.size
  have tb := tc13.below (C := w.heap.size) (by have := B12.size; omega) (fun b hb => by unfold rng at hb; have := B12.size; omega)
  replace S0 := S0.tu tc13 (by unfold rng; omega)
  replace S1 := S1.tu tc13 (by unfold rng; omega)
  replace R0 := (((okH _ _ _).sep (okR _ _ _)).sep (okB _ _ _)).tur R0 tc13 (by first | (left; omega) | (right; omega))
  replace T0 := T0.tu tc13 (by unfold rng; omega)
  replace T1 := T1.tu tc13 (by unfold rng; omega)
  have B13 := B12.trans tb
  clear B12 tb tc13
  clear R1
  have x0 := T1.cell (i := 0) rfl
  have x1 := T1.cell (i := 1) rfl
  have x2 := T1.cell (i := 2) rfl
  have x3 := T1.cell (i := 3) rfl
  have x4 := T1.cell (i := 4) rfl
  have V := RM
  obtain ⟨_, _, _, _, _, V_0, V_1⟩ := V
  obtain ⟨_, _, _, _, _, V_0_0, V_0_1⟩ := V_0
  replace V_0_0 := Lo.rows V_0_0
  replace V_0_1 := Bo.bs V_0_1
  replace V_1 := Lo.rows V_1
  go_wp2_with fail
  refine (heldReceiverResult_any Z0 Z1 _ _ _ _ _ _ _ _ _ _ _ _ _ V_0_0 V_0_1 V_1 (by omega) (by omega) (by omega) (by omega) (by omega) (by omega) (by omega)).mono ?_
  rintro e w14 ⟨rfl, b14⟩
  clear x0 x1 x2 x3 x4
  clear V_0_0 V_0_1 V_1
  have z14 := b14.size
  replace S0 := S0.below b14 S0.lt
  replace S1 := S1.below b14 S1.lt
  replace R0 := (((okH _ _ _).sep (okR _ _ _)).sep (okB _ _ _)).below R0 b14
  replace T0 := T0.below b14 T0.lt
  replace T1 := T1.below b14 T1.lt
  replace RM := (((okH _ _ _).sep (okR _ _ _)).sep (okB _ _ _)).below RM b14
  have B14 := ac B13 b14
  clear b14 B13
  have x0_0 := S0.cell (i := 0) rfl
  have x0_1 := S0.cell (i := 1) rfl
  have x0_2 := S0.cell (i := 2) rfl
  have x1_0 := S1.cell (i := 0) rfl
  have x1_1 := S1.cell (i := 1) rfl
  have x1_2 := S1.cell (i := 2) rfl
  have x1_3 := S1.cell (i := 3) rfl
  have x1_4 := S1.cell (i := 4) rfl
  have x1_5 := S1.cell (i := 5) rfl
  have hWW := Below.refl w14.heap.size w14
  have sl0 : w.heap.size < w14.heap.size := by first | assumption | (have := S0.lt; omega)
  have sl1 : w.heap.size + 1 < w14.heap.size := by first | assumption | (have := S1.lt; omega)
  have GX0 : Shut (∀ W : World, (W.cell? ⟨w.heap.size, 0, none⟩ = some (.int .i64 s0_0) ∧ W.cell? ⟨w.heap.size, 1, none⟩ = some (.slice a0_0 n0_0 c0_0) ∧ W.cell? ⟨w.heap.size, 2, none⟩ = some (.slice a0_1 n0_1 c0_1) ∧ W.cell? ⟨w.heap.size + 1, 0, none⟩ = some (.int .i64 s1_0) ∧ W.cell? ⟨w.heap.size + 1, 1, none⟩ = some (.int .i64 s1_1) ∧ W.cell? ⟨w.heap.size + 1, 2, none⟩ = some (.int .i64 s1_2) ∧ W.cell? ⟨w.heap.size + 1, 3, none⟩ = some (.int .i64 s1_3) ∧ W.cell? ⟨w.heap.size + 1, 4, none⟩ = some (.bool s1_4) ∧ W.cell? ⟨w.heap.size + 1, 5, none⟩ = some (.slice a1_0 n1_0 c1_0) ∧ Below w14.heap.size w14 W) → Calls Try.prog 9 #[.agg #[.int .i64 s0_0, .slice a0_0 n0_0 c0_0, .slice a0_1 n0_1 c0_1]] W fun e w' => (∃ q0 q1 : Nat, e = .returned (.agg #[.int .i64 s0_0, .slice (some ⟨q0, 0, none⟩) n0_0 n0_0, .slice (some ⟨q1, 0, none⟩) n0_1 n0_1]) ∧ Lst HeldD.cels 3 w' (some ⟨q0, 0, none⟩) n0_0 l0_0 ∧ Bs w' (some ⟨q1, 0, none⟩) n0_1 l0_1) ∧ (Below W.heap.size W w' ∧ (∀ (b : Nat) (l : List Value) (t : TypeId), Stc W b l t → Stc w' b l t)) ∧ w'.cell? ⟨w.heap.size, 0, none⟩ = some (.int .i64 s0_0) ∧ w'.cell? ⟨w.heap.size, 1, none⟩ = some (.slice a0_0 n0_0 c0_0) ∧ w'.cell? ⟨w.heap.size, 2, none⟩ = some (.slice a0_1 n0_1 c0_1) ∧ w'.cell? ⟨w.heap.size + 1, 0, none⟩ = some (.int .i64 s1_0) ∧ w'.cell? ⟨w.heap.size + 1, 1, none⟩ = some (.int .i64 s1_1) ∧ w'.cell? ⟨w.heap.size + 1, 2, none⟩ = some (.int .i64 s1_2) ∧ w'.cell? ⟨w.heap.size + 1, 3, none⟩ = some (.int .i64 s1_3) ∧ w'.cell? ⟨w.heap.size + 1, 4, none⟩ = some (.bool s1_4) ∧ w'.cell? ⟨w.heap.size + 1, 5, none⟩ = some (.slice a1_0 n1_0 c1_0) ∧ Below w14.heap.size w14 w') := by
    refine ⟨fun W ⟨y0, y1, y2, y3, y4, y5, y6, y7, y8, y9⟩ => (G0.out W (ac B14 y9)).mono ?_⟩
    rintro e w' ⟨⟨q0, q1, rfl, R⟩, hb⟩
    have OR := R
    obtain ⟨_, _, _, _, _, OR_0, OR_1⟩ := OR
    replace OR_0 := Lo.rows OR_0
    replace OR_1 := Bo.bs OR_1
    have hc := fun (b i : Nat) (h : b < w14.heap.size) => hb.cell (p := ⟨b, i, none⟩) (Nat.lt_of_lt_of_le h y9.size)
    exact ⟨⟨q0, q1, rfl, OR_0, OR_1⟩, ⟨hb, fun b l t hA => hA.below hb hA.lt⟩, (hc (w.heap.size) 0 sl0).trans y0, (hc (w.heap.size) 1 sl0).trans y1, (hc (w.heap.size) 2 sl0).trans y2, (hc (w.heap.size + 1) 0 sl1).trans y3, (hc (w.heap.size + 1) 1 sl1).trans y4, (hc (w.heap.size + 1) 2 sl1).trans y5, (hc (w.heap.size + 1) 3 sl1).trans y6, (hc (w.heap.size + 1) 4 sl1).trans y7, (hc (w.heap.size + 1) 5 sl1).trans y8, ac y9 hb⟩
  have GX1 : Shut (∀ W : World, (W.cell? ⟨w.heap.size, 0, none⟩ = some (.int .i64 s0_0) ∧ W.cell? ⟨w.heap.size, 1, none⟩ = some (.slice a0_0 n0_0 c0_0) ∧ W.cell? ⟨w.heap.size, 2, none⟩ = some (.slice a0_1 n0_1 c0_1) ∧ W.cell? ⟨w.heap.size + 1, 0, none⟩ = some (.int .i64 s1_0) ∧ W.cell? ⟨w.heap.size + 1, 1, none⟩ = some (.int .i64 s1_1) ∧ W.cell? ⟨w.heap.size + 1, 2, none⟩ = some (.int .i64 s1_2) ∧ W.cell? ⟨w.heap.size + 1, 3, none⟩ = some (.int .i64 s1_3) ∧ W.cell? ⟨w.heap.size + 1, 4, none⟩ = some (.bool s1_4) ∧ W.cell? ⟨w.heap.size + 1, 5, none⟩ = some (.slice a1_0 n1_0 c1_0) ∧ Below w14.heap.size w14 W) → Calls Try.prog 10 #[.agg #[.int .i64 s1_0, .int .i64 s1_1, .int .i64 s1_2, .int .i64 s1_3, .bool s1_4, .slice a1_0 n1_0 c1_0]] W fun e w' => (∃ q0 : Nat, e = .returned (.agg #[.int .i64 s1_0, .int .i64 s1_1, .int .i64 s1_2, .int .i64 s1_3, .bool s1_4, .slice (some ⟨q0, 0, none⟩) n1_0 n1_0]) ∧ Bs w' (some ⟨q0, 0, none⟩) n1_0 l1_0) ∧ (Below W.heap.size W w' ∧ (∀ (b : Nat) (l : List Value) (t : TypeId), Stc W b l t → Stc w' b l t)) ∧ w'.cell? ⟨w.heap.size, 0, none⟩ = some (.int .i64 s0_0) ∧ w'.cell? ⟨w.heap.size, 1, none⟩ = some (.slice a0_0 n0_0 c0_0) ∧ w'.cell? ⟨w.heap.size, 2, none⟩ = some (.slice a0_1 n0_1 c0_1) ∧ w'.cell? ⟨w.heap.size + 1, 0, none⟩ = some (.int .i64 s1_0) ∧ w'.cell? ⟨w.heap.size + 1, 1, none⟩ = some (.int .i64 s1_1) ∧ w'.cell? ⟨w.heap.size + 1, 2, none⟩ = some (.int .i64 s1_2) ∧ w'.cell? ⟨w.heap.size + 1, 3, none⟩ = some (.int .i64 s1_3) ∧ w'.cell? ⟨w.heap.size + 1, 4, none⟩ = some (.bool s1_4) ∧ w'.cell? ⟨w.heap.size + 1, 5, none⟩ = some (.slice a1_0 n1_0 c1_0) ∧ Below w14.heap.size w14 w') := by
    refine ⟨fun W ⟨y0, y1, y2, y3, y4, y5, y6, y7, y8, y9⟩ => (G1.out W (ac B14 y9)).mono ?_⟩
    rintro e w' ⟨⟨q0, rfl, R⟩, hb⟩
    have OR := R
    have OR_0 := OR
    replace OR_0 := Bo.bs OR_0
    have hc := fun (b i : Nat) (h : b < w14.heap.size) => hb.cell (p := ⟨b, i, none⟩) (Nat.lt_of_lt_of_le h y9.size)
    exact ⟨⟨q0, rfl, OR_0⟩, ⟨hb, fun b l t hA => hA.below hb hA.lt⟩, (hc (w.heap.size) 0 sl0).trans y0, (hc (w.heap.size) 1 sl0).trans y1, (hc (w.heap.size) 2 sl0).trans y2, (hc (w.heap.size + 1) 0 sl1).trans y3, (hc (w.heap.size + 1) 1 sl1).trans y4, (hc (w.heap.size + 1) 2 sl1).trans y5, (hc (w.heap.size + 1) 3 sl1).trans y6, (hc (w.heap.size + 1) 4 sl1).trans y7, (hc (w.heap.size + 1) 5 sl1).trans y8, ac y9 hb⟩
  have GF : Shut (∀ (g0_0 g0_1 g1_0 : Nat) (W : World), (W.cell? ⟨w.heap.size, 0, none⟩ = some (.int .i64 s0_0) ∧ W.cell? ⟨w.heap.size, 1, none⟩ = some (.slice a0_0 n0_0 c0_0) ∧ W.cell? ⟨w.heap.size, 2, none⟩ = some (.slice a0_1 n0_1 c0_1) ∧ W.cell? ⟨w.heap.size + 1, 0, none⟩ = some (.int .i64 s1_0) ∧ W.cell? ⟨w.heap.size + 1, 1, none⟩ = some (.int .i64 s1_1) ∧ W.cell? ⟨w.heap.size + 1, 2, none⟩ = some (.int .i64 s1_2) ∧ W.cell? ⟨w.heap.size + 1, 3, none⟩ = some (.int .i64 s1_3) ∧ W.cell? ⟨w.heap.size + 1, 4, none⟩ = some (.bool s1_4) ∧ W.cell? ⟨w.heap.size + 1, 5, none⟩ = some (.slice a1_0 n1_0 c1_0) ∧ Below w14.heap.size w14 W) → Lst HeldD.cels 3 W (some ⟨g0_0, 0, none⟩) n0_0 l0_0 → Bs W (some ⟨g0_1, 0, none⟩) n0_1 l0_1 → Bs W (some ⟨g1_0, 0, none⟩) n1_0 l1_0 → Calls Try.prog 11 #[.agg #[.int .i64 s0_0, .slice (some ⟨g0_0, 0, none⟩) n0_0 n0_0, .slice (some ⟨g0_1, 0, none⟩) n0_1 n0_1], .agg #[.int .i64 s1_0, .int .i64 s1_1, .int .i64 s1_2, .int .i64 s1_3, .bool s1_4, .slice (some ⟨g1_0, 0, none⟩) n1_0 n1_0]] W fun e w' => (∃ A0 d0 A1 d1 A2 d2, e = .returned (.agg #[.int .i64 Z0, .int .i64 Z1, .slice A0 N0 d0, .slice A1 N1 d1, .slice A2 N2 d2]) ∧ (Thing.sep (Thing.sep (tH A0 N0 D0) (tR A1 N1 D1)) (tB A2 N2 D2)) w' (rng W.heap.size w'.heap.size) ∧ w14.heap.size ≤ W.heap.size) ∧ (Below W.heap.size W w' ∧ (∀ (b : Nat) (l : List Value) (t : TypeId), Stc W b l t → Stc w' b l t)) ∧ w'.cell? ⟨w.heap.size, 0, none⟩ = some (.int .i64 s0_0) ∧ w'.cell? ⟨w.heap.size, 1, none⟩ = some (.slice a0_0 n0_0 c0_0) ∧ w'.cell? ⟨w.heap.size, 2, none⟩ = some (.slice a0_1 n0_1 c0_1) ∧ w'.cell? ⟨w.heap.size + 1, 0, none⟩ = some (.int .i64 s1_0) ∧ w'.cell? ⟨w.heap.size + 1, 1, none⟩ = some (.int .i64 s1_1) ∧ w'.cell? ⟨w.heap.size + 1, 2, none⟩ = some (.int .i64 s1_2) ∧ w'.cell? ⟨w.heap.size + 1, 3, none⟩ = some (.int .i64 s1_3) ∧ w'.cell? ⟨w.heap.size + 1, 4, none⟩ = some (.bool s1_4) ∧ w'.cell? ⟨w.heap.size + 1, 5, none⟩ = some (.slice a1_0 n1_0 c1_0) ∧ Below w14.heap.size w14 w') := by
    refine ⟨fun g0_0 g0_1 g1_0 W ⟨y0, y1, y2, y3, y4, y5, y6, y7, y8, y9⟩ p0_0 p0_1 p1_0 => (Gi.out g0_0 g0_1 g1_0 W (hkeep _ _ (ac B14 y9) hP) p0_0 p0_1 p1_0).mono ?_⟩
    rintro e w' ⟨⟨A0, d0, A1, d1, A2, d2, rfl, R⟩, hb⟩
    have hc := fun (b i : Nat) (h : b < w14.heap.size) => hb.cell (p := ⟨b, i, none⟩) (Nat.lt_of_lt_of_le h y9.size)
    exact ⟨⟨A0, d0, A1, d1, A2, d2, rfl, R, y9.size⟩, ⟨hb, fun b l t hA => hA.below hb hA.lt⟩, (hc (w.heap.size) 0 sl0).trans y0, (hc (w.heap.size) 1 sl0).trans y1, (hc (w.heap.size) 2 sl0).trans y2, (hc (w.heap.size + 1) 0 sl1).trans y3, (hc (w.heap.size + 1) 1 sl1).trans y4, (hc (w.heap.size + 1) 2 sl1).trans y5, (hc (w.heap.size + 1) 3 sl1).trans y6, (hc (w.heap.size + 1) 4 sl1).trans y7, (hc (w.heap.size + 1) 5 sl1).trans y8, ac y9 hb⟩
  go_wp2_with fail
  go_cut [13] from 75 to 79 (fun q wx => ∃ (bx lo hi : Nat) (A0 : Option Addr) (d0 : Nat) (A1 : Option Addr) (d1 : Nat) (A2 : Option Addr) (d2 : Nat), q = .pointer (some ⟨bx, 0, none⟩) ∧ Stc wx bx [.int .i64 Z0, .int .i64 Z1, .slice A0 N0 d0, .slice A1 N1 d1, .slice A2 N2 d2] 35 ∧ (Thing.sep (Thing.sep (tH A0 N0 D0) (tR A1 N1 D1)) (tB A2 N2 D2)) wx (rng lo hi) ∧ w14.heap.size ≤ bx ∧ w14.heap.size ≤ lo ∧ hi ≤ wx.heap.size ∧ (bx < lo ∨ hi ≤ bx) ∧ Below w14.heap.size w14 wx)
  case first =>
    have nz0 : ¬ w14.heap.size = w.heap.size := by omega
    have nz1 : ¬ w14.heap.size = w.heap.size + 1 := by omega
    go_region_held3 (fun W => W.cell? ⟨w.heap.size, 0, none⟩ = some (.int .i64 s0_0) ∧ W.cell? ⟨w.heap.size, 1, none⟩ = some (.slice a0_0 n0_0 c0_0) ∧ W.cell? ⟨w.heap.size, 2, none⟩ = some (.slice a0_1 n0_1 c0_1) ∧ W.cell? ⟨w.heap.size + 1, 0, none⟩ = some (.int .i64 s1_0) ∧ W.cell? ⟨w.heap.size + 1, 1, none⟩ = some (.int .i64 s1_1) ∧ W.cell? ⟨w.heap.size + 1, 2, none⟩ = some (.int .i64 s1_2) ∧ W.cell? ⟨w.heap.size + 1, 3, none⟩ = some (.int .i64 s1_3) ∧ W.cell? ⟨w.heap.size + 1, 4, none⟩ = some (.bool s1_4) ∧ W.cell? ⟨w.heap.size + 1, 5, none⟩ = some (.slice a1_0 n1_0 c1_0) ∧ Below w14.heap.size w14 W)
      (first | (exact ⟨by with_reducible assumption, by with_reducible assumption, by with_reducible assumption, by with_reducible assumption, by with_reducible assumption, by with_reducible assumption, by with_reducible assumption, by with_reducible assumption, by with_reducible assumption, by with_reducible assumption⟩) | (refine ⟨?_, ?_, ?_, ?_, ?_, ?_, ?_, ?_, ?_, (((((y9.setCell (by first | exact Nat.le_refl _ | exact s0_ | exact s1_) _).setCell (by first | exact Nat.le_refl _ | exact s0_ | exact s1_) _).setCell (by first | exact Nat.le_refl _ | exact s0_ | exact s1_) _).setCell (by first | exact Nat.le_refl _ | exact s0_ | exact s1_) _).setCell (by first | exact Nat.le_refl _ | exact s0_ | exact s1_) _)⟩; (simp only [World.cell?_setCell_far, nz0, nz1, nz0_0, nz0_1, nz1_0, nz1_1, ne_eq, not_false_eq_true, y0]); (simp only [World.cell?_setCell_far, nz0, nz1, nz0_0, nz0_1, nz1_0, nz1_1, ne_eq, not_false_eq_true, y1]); (simp only [World.cell?_setCell_far, nz0, nz1, nz0_0, nz0_1, nz1_0, nz1_1, ne_eq, not_false_eq_true, y2]); (simp only [World.cell?_setCell_far, nz0, nz1, nz0_0, nz0_1, nz1_0, nz1_1, ne_eq, not_false_eq_true, y3]); (simp only [World.cell?_setCell_far, nz0, nz1, nz0_0, nz0_1, nz1_0, nz1_1, ne_eq, not_false_eq_true, y4]); (simp only [World.cell?_setCell_far, nz0, nz1, nz0_0, nz0_1, nz1_0, nz1_1, ne_eq, not_false_eq_true, y5]); (simp only [World.cell?_setCell_far, nz0, nz1, nz0_0, nz0_1, nz1_0, nz1_1, ne_eq, not_false_eq_true, y6]); (simp only [World.cell?_setCell_far, nz0, nz1, nz0_0, nz0_1, nz1_0, nz1_1, ne_eq, not_false_eq_true, y7]); (simp only [World.cell?_setCell_far, nz0, nz1, nz0_0, nz0_1, nz1_0, nz1_1, ne_eq, not_false_eq_true, y8])) | (exact ⟨x0_0, x0_1, x0_2, x1_0, x1_1, x1_2, x1_3, x1_4, x1_5, hWW.drew⟩) | (exact ⟨cell_past _ x0_0, cell_past _ x0_1, cell_past _ x0_2, cell_past _ x1_0, cell_past _ x1_1, cell_past _ x1_2, cell_past _ x1_3, cell_past _ x1_4, cell_past _ x1_5, (ab hWW _).drew⟩) | (exact ⟨cell_past _ (by with_reducible assumption), cell_past _ (by with_reducible assumption), cell_past _ (by with_reducible assumption), cell_past _ (by with_reducible assumption), cell_past _ (by with_reducible assumption), cell_past _ (by with_reducible assumption), cell_past _ (by with_reducible assumption), cell_past _ (by with_reducible assumption), cell_past _ (by with_reducible assumption), ab (by with_reducible assumption) _⟩))
      (first
        | (go_at_call_of 9 a0_0; refine (GX0.out _ ?_).mono ?_; (first | with_reducible assumption | (simp [*]; done)); rintro e v0_ ⟨⟨ee0_0, ee0_1, rfl, pp0_0, pp0_1⟩, hh0, y0, y1, y2, y3, y4, y5, y6, y7, y8, y9⟩; have s0_ := y9.size; have nz0_0 : ¬ v0_.heap.size = w.heap.size := (by omega); have nz1_0 : ¬ v0_.heap.size = w.heap.size + 1 := (by omega); (try (have hT0 := hh0.2 _ _ _ (Stc.new w14 35 [.int .i64 0, .int .i64 0, .slice none 0 0, .slice none 0 0, .slice none 0 0] _ rfl))))
        | (go_at_call_of 10 a1_0; refine (GX1.out _ ?_).mono ?_; (first | with_reducible assumption | (simp [*]; done)); rintro e v1_ ⟨⟨ee1_0, rfl, pp1_0⟩, hh1, y0, y1, y2, y3, y4, y5, y6, y7, y8, y9⟩; have s1_ := y9.size; have nz0_1 : ¬ v1_.heap.size = w.heap.size := (by omega); have nz1_1 : ¬ v1_.heap.size = w.heap.size + 1 := (by omega); have pp0_0 : Lst HeldD.cels 3 v1_ (some ⟨ee0_0, 0, none⟩) n0_0 l0_0 := (by first | exact pp0_0.below hh1.1 | exact (pp0_0.below (ab (Below.refl _ _) _)).below hh1.1); have pp0_1 : Bs v1_ (some ⟨ee0_1, 0, none⟩) n0_1 l0_1 := (by first | exact pp0_1.below hh1.1 | exact (pp0_1.below (ab (Below.refl _ _) _)).below hh1.1); (try (have hT1 := hh1.2 _ _ _ hT0)); (try (have hT1 := hh1.2 _ _ _ (Stc.new v0_ 35 [.int .i64 0, .int .i64 0, .slice none 0 0, .slice none 0 0, .slice none 0 0] _ rfl))))
        | (go_at_call 11; refine (GF.out _ _ _ _ ?_ ?_ ?_ ?_).mono ?_; (first | with_reducible assumption | (simp [*]; done)); (first | exact pp0_0 | exact pp0_0.below (ab (Below.refl _ _) _)); (first | exact pp0_1 | exact pp0_1.below (ab (Below.refl _ _) _)); (first | exact pp1_0 | exact pp1_0.below (ab (Below.refl _ _) _)); rintro e v9_ ⟨⟨A0, d0, A1, d1, A2, d2, rfl, o9, s9⟩, hh9, y0, y1, y2, y3, y4, y5, y6, y7, y8, y9⟩; have s9_ := y9.size; (try (have hb9 := hT1.lt)); (try (have hT9 := hh9.2 _ _ _ hT1)); (try (have hb9 := (Stc.new v1_ 35 [.int .i64 0, .int .i64 0, .slice none 0 0, .slice none 0 0, .slice none 0 0] _ rfl).lt; have hT9 := hh9.2 _ _ _ (Stc.new v1_ 35 [.int .i64 0, .int .i64 0, .slice none 0 0, .slice none 0 0, .slice none 0 0] _ rfl))); (try (have t0 := hT9.cell (i := 0) rfl)); (try (have t1 := hT9.cell (i := 1) rfl)); (try (have t2 := hT9.cell (i := 2) rfl)); (try (have t3 := hT9.cell (i := 3) rfl)); (try (have t4 := hT9.cell (i := 4) rfl)); (try (have tf := hT9.frozen))))
    all_goals
      go_wp2_with fail
      go_meet
      first
        | (obtain ⟨m1, m2, m3, m4⟩ := boxBHearData (((okH _ _ _).sep (okR _ _ _)).sep (okB _ _ _)) hT9 o9 hb9 (by first | exact Nat.le_refl _ | exact s0_ | exact s1_) y9 (.int .i64 Z0) (.int .i64 Z1) (.slice A0 N0 d0) (.slice A1 N1 d1) (.slice A2 N2 d2); exact ⟨_, _, _, A0, d0, A1, d1, A2, d2, rfl, m1, m2, (by first | exact Nat.le_refl _ | exact s0_ | exact s1_), s9, m3, .inl hb9, m4⟩)
        | (obtain ⟨m1, m2, m3, m4⟩ := boxAHearData (RT := 35) (((okH _ _ _).sep (okR _ _ _)).sep (okB _ _ _)) o9 y9 (.int .i64 Z0) (.int .i64 Z1) (.slice A0 N0 d0) (.slice A1 N1 d1) (.slice A2 N2 d2); exact ⟨_, _, _, A0, d0, A1, d1, A2, d2, rfl, m1, m2, s9_, s9, m3, .inr (Nat.le_refl _), m4⟩)
  case rest =>
  obtain ⟨EA_b, EA_l, EA_h, EA0, f0, EA1, f1, EA2, f2, rfl, T2, R2, lbT2, lcT2, ldT2, leT2, bb15⟩ := hcut
  obtain ⟨w15, rfl⟩ : ∃ x, x = wc := ⟨_, rfl⟩
  clear GF hWW GX0 GX1 sl0 sl1
  clear x0_0 x0_1 x0_2
  clear x1_0 x1_1 x1_2 x1_3 x1_4 x1_5
  have ltT2 := T2.lt
  have z15 := bb15.size
  replace S0 := S0.below bb15 S0.lt
  replace S1 := S1.below bb15 S1.lt
  replace R0 := (((okH _ _ _).sep (okR _ _ _)).sep (okB _ _ _)).below R0 bb15
  replace T0 := T0.below bb15 T0.lt
  replace T1 := T1.below bb15 T1.lt
  replace RM := (((okH _ _ _).sep (okR _ _ _)).sep (okB _ _ _)).below RM bb15
  have B15 := ac B14 bb15
  clear bb15 B14
  have x0 := T2.cell (i := 0) rfl
  have x1 := T2.cell (i := 1) rfl
  have x2 := T2.cell (i := 2) rfl
  have x3 := T2.cell (i := 3) rfl
  have x4 := T2.cell (i := 4) rfl
  have y0 := T0.cell (i := 0) rfl
  have y1 := T0.cell (i := 1) rfl
  have y2 := T0.cell (i := 2) rfl
  have y3 := T0.cell (i := 3) rfl
  have y4 := T0.cell (i := 4) rfl
  have V := R2
  obtain ⟨_, _, _, _, _, V_0, V_1⟩ := V
  obtain ⟨_, _, _, _, _, V_0_0, V_0_1⟩ := V_0
  replace V_0_0 := Lo.rows V_0_0
  replace V_0_1 := Bo.bs V_0_1
  replace V_1 := Lo.rows V_1
  have U := R0
  obtain ⟨_, _, _, _, _, U_0, U_1⟩ := U
  obtain ⟨_, _, _, _, _, U_0_0, U_0_1⟩ := U_0
  replace U_0_0 := Lo.rows U_0_0
  replace U_0_1 := Bo.bs U_0_1
  replace U_1 := Lo.rows U_1
  go_wp2_with fail
  refine (eqReceiverResult_any Z0 Z1 _ _ _ _ _ _ _ _ _ _ _ _ _ _ _ _ _ _ _ V_0_0 U_0_0 V_0_1 U_0_1 V_1 U_1 (by omega) hB0 (by omega) (by omega) hB2).mono ?_
  rintro e w16 ⟨rfl, b16⟩
  clear x0 x1 x2 x3 x4
  clear y0 y1 y2 y3 y4
  clear V_0_0 V_0_1 V_1 U_0_0 U_0_1 U_1
  have z16 := b16.size
  replace S0 := S0.below b16 S0.lt
  replace S1 := S1.below b16 S1.lt
  replace R0 := (((okH _ _ _).sep (okR _ _ _)).sep (okB _ _ _)).below R0 b16
  replace T0 := T0.below b16 T0.lt
  replace T1 := T1.below b16 T1.lt
  replace RM := (((okH _ _ _).sep (okR _ _ _)).sep (okB _ _ _)).below RM b16
  replace R2 := (((okH _ _ _).sep (okR _ _ _)).sep (okB _ _ _)).below R2 b16
  replace T2 := T2.below b16 T2.lt
  have B16 := ac B15 b16
  clear b16 B15
  have x0 := T1.cell (i := 0) rfl
  have x1 := T1.cell (i := 1) rfl
  have x2 := T1.cell (i := 2) rfl
  have x3 := T1.cell (i := 3) rfl
  have x4 := T1.cell (i := 4) rfl
  have V := RM
  obtain ⟨_, _, _, _, _, V_0, V_1⟩ := V
  obtain ⟨_, _, _, _, _, V_0_0, V_0_1⟩ := V_0
  replace V_0_0 := Lo.rows V_0_0
  replace V_0_1 := Bo.bs V_0_1
  replace V_1 := Lo.rows V_1
  go_wp2_with fail
  refine (heldReceiverResult_any Z0 Z1 _ _ _ _ _ _ _ _ _ _ _ _ _ V_0_0 V_0_1 V_1 (by omega) (by omega) (by omega) (by omega) (by omega) (by omega) (by omega)).mono ?_
  rintro e w17 ⟨rfl, b17⟩
  clear x0 x1 x2 x3 x4
  clear V_0_0 V_0_1 V_1
  have z17 := b17.size
  replace S0 := S0.below b17 S0.lt
  replace S1 := S1.below b17 S1.lt
  replace R0 := (((okH _ _ _).sep (okR _ _ _)).sep (okB _ _ _)).below R0 b17
  replace T0 := T0.below b17 T0.lt
  replace T1 := T1.below b17 T1.lt
  replace RM := (((okH _ _ _).sep (okR _ _ _)).sep (okB _ _ _)).below RM b17
  replace R2 := (((okH _ _ _).sep (okR _ _ _)).sep (okB _ _ _)).below R2 b17
  replace T2 := T2.below b17 T2.lt
  have B17 := ac B16 b17
  clear b17 B16
  go_wp2
  go_ret
  exact ⟨rfl, B17⟩

theorem exactHearData_all (s0_0 : Int) (s1_0 : Int) (s1_1 : Int) (s1_2 : Int) (s1_3 : Int) (s1_4 : Bool) (a0_0 : Option Addr) (n0_0 c0_0 : Nat) (l0_0 : List HeldD) (a0_1 : Option Addr) (n0_1 c0_1 : Nat) (l0_1 : List Int) (a1_0 : Option Addr) (n1_0 c1_0 : Nat) (l1_0 : List Int) (w : World) (h0_0 : Lst HeldD.cels 3 w a0_0 n0_0 l0_0) (h0_1 : Bs w a0_1 n0_1 l0_1) (h1_0 : Bs w a1_0 n1_0 l1_0) (m0_0 : n0_0 ≤ 9223372036854775807) (mb0_0 : ∀ e ∈ l0_0, e.f1.length ≤ 9223372036854775807) (m0_1 : n0_1 ≤ 9223372036854775807) (m1_0 : n1_0 ≤ 9223372036854775807) (hall :  totReceiver n0_0 l0_0 n0_1 + totCell n1_0 ≤ 1048576 → ∃ (Z0 : Int) (Z1 : Int) (N0 : Nat) (D0 : List HeldD) (N1 : Nat) (D1 : List Int) (N2 : Nat) (D2 : List (List Int)), N0 ≤ 2000000 ∧ sumE HeldD.wd D0 ≤ 2000000 ∧ (∀ e ∈ D0, e.f1.length ≤ 100000000) ∧ N1 ≤ 2000000 ∧ N2 ≤ 2000000 ∧ sumE List.length D2 ≤ 2000000 ∧ (∀ e ∈ D2, e.length ≤ 100000000) ∧ ∃ (P : World → Prop), P w ∧ (∀ W W' : World, Below W.heap.size W W' → P W → P W') ∧ Shut (∀ (g0_0 g0_1 g1_0 : Nat) (W : World) (_ : Lst HeldD.cels 3 W (some ⟨g0_0, 0, none⟩) n0_0 l0_0) (_ : Bs W (some ⟨g0_1, 0, none⟩) n0_1 l0_1) (_ : Bs W (some ⟨g1_0, 0, none⟩) n1_0 l1_0), Calls Try.prog 8 #[.agg #[.int .i64 s0_0, .slice (some ⟨g0_0, 0, none⟩) n0_0 n0_0, .slice (some ⟨g0_1, 0, none⟩) n0_1 n0_1], .agg #[.int .i64 s1_0, .int .i64 s1_1, .int .i64 s1_2, .int .i64 s1_3, .bool s1_4, .slice (some ⟨g1_0, 0, none⟩) n1_0 n1_0]] W (fun e w' => (∃ A0 d0 A1 d1 A2 d2, e = .returned (.agg #[.int .i64 Z0, .int .i64 Z1, .slice A0 N0 d0, .slice A1 N1 d1, .slice A2 N2 d2]) ∧ (Thing.sep (Thing.sep (tH A0 N0 D0) (tR A1 N1 D1)) (tB A2 N2 D2)) w' (rng W.heap.size w'.heap.size)) ∧ Below W.heap.size W w')) ∧ Shut (∀ (g0_0 g0_1 g1_0 : Nat) (W : World) (_ : P W) (_ : Lst HeldD.cels 3 W (some ⟨g0_0, 0, none⟩) n0_0 l0_0) (_ : Bs W (some ⟨g0_1, 0, none⟩) n0_1 l0_1) (_ : Bs W (some ⟨g1_0, 0, none⟩) n1_0 l1_0), Calls Try.prog 11 #[.agg #[.int .i64 s0_0, .slice (some ⟨g0_0, 0, none⟩) n0_0 n0_0, .slice (some ⟨g0_1, 0, none⟩) n0_1 n0_1], .agg #[.int .i64 s1_0, .int .i64 s1_1, .int .i64 s1_2, .int .i64 s1_3, .bool s1_4, .slice (some ⟨g1_0, 0, none⟩) n1_0 n1_0]] W (fun e w' => (∃ A0 d0 A1 d1 A2 d2, e = .returned (.agg #[.int .i64 Z0, .int .i64 Z1, .slice A0 N0 d0, .slice A1 N1 d1, .slice A2 N2 d2]) ∧ (Thing.sep (Thing.sep (tH A0 N0 D0) (tR A1 N1 D1)) (tB A2 N2 D2)) w' (rng W.heap.size w'.heap.size)) ∧ Below W.heap.size W w'))) :
    Calls Try.prog 3 #[.agg #[.int .i64 s0_0, .slice a0_0 n0_0 c0_0, .slice a0_1 n0_1 c0_1], .agg #[.int .i64 s1_0, .int .i64 s1_1, .int .i64 s1_2, .int .i64 s1_3, .bool s1_4, .slice a1_0 n1_0 c1_0]] w fun e w' => e = .returned (.bool true) ∧ Below w.heap.size w w' := by
  by_cases hz0 : totReceiver n0_0 l0_0 n0_1 ≤ 1048576
  rotate_left
  · clear hall
    have hq0 : leftC 1048576 (totReceiver n0_0 l0_0 n0_1) = -1 := by unfold leftC; rw [if_pos (by omega)]
    have cz0 := fun W (b : Below w.heap.size w W) => szReceiver_any s0_0 a0_0 n0_0 c0_0 l0_0 a0_1 n0_1 c0_1 l0_1 (1048576) W (h0_0.below b) (h0_1.below b) (by omega) (by omega) m0_0 mb0_0 m0_1
    rw [hq0] at cz0
    clear hq0
    have S0 := Stc.new w 25 [.int .i64 s0_0, .slice a0_0 n0_0 c0_0, .slice a0_1 n0_1 c0_1] _ rfl
    have S1 := Stc.new (w.alloc (.cells #[.int .i64 s0_0, .slice a0_0 n0_0 c0_0, .slice a0_1 n0_1 c0_1] 25)) 27 [.int .i64 s1_0, .int .i64 s1_1, .int .i64 s1_2, .int .i64 s1_3, .bool s1_4, .slice a1_0 n1_0 c1_0] _ rfl
    replace S0 := S0.alloc (.cells #[.int .i64 s1_0, .int .i64 s1_1, .int .i64 s1_2, .int .i64 s1_3, .bool s1_4, .slice a1_0 n1_0 c1_0] 27)
    have B0 := (ab (ab (Below.refl w.heap.size w) (.cells #[.int .i64 s0_0, .slice a0_0 n0_0 c0_0, .slice a0_1 n0_1 c0_1] 25)) (.cells #[.int .i64 s1_0, .int .i64 s1_1, .int .i64 s1_2, .int .i64 s1_3, .bool s1_4, .slice a1_0 n1_0 c1_0] 27))
    simp only [World.size_alloc] at S1
    go_enter Try.func3, Try.ntmps3
    have x0 := S0.cell (i := 0) rfl
    have x1 := S0.cell (i := 1) rfl
    have x2 := S0.cell (i := 2) rfl
    go_wp2_with fail
    refine (cz0 _ B0).mono ?_
    rintro e w1 ⟨rfl, b1⟩
    clear x0 x1 x2
    replace S0 := S0.below b1 S0.lt
    replace S1 := S1.below b1 S1.lt
    have B1_ := ac B0 b1
    go_wp2
    go_ret
    exact ⟨rfl, B1_⟩
  by_cases hz1 : totReceiver n0_0 l0_0 n0_1 + totCell n1_0 ≤ 1048576
  rotate_left
  · clear hall
    have hq0 : leftC 1048576 (totReceiver n0_0 l0_0 n0_1) = 1048576 - ((totReceiver n0_0 l0_0 n0_1 : Nat) : Int) := by unfold leftC; rw [if_neg (by omega)]
    have cz0 := fun W (b : Below w.heap.size w W) => szReceiver_any s0_0 a0_0 n0_0 c0_0 l0_0 a0_1 n0_1 c0_1 l0_1 (1048576) W (h0_0.below b) (h0_1.below b) (by omega) (by omega) m0_0 mb0_0 m0_1
    rw [hq0] at cz0
    clear hq0
    obtain ⟨lf0, hlf0⟩ : ∃ x, x = 1048576 - ((totReceiver n0_0 l0_0 n0_1 : Nat) : Int) := ⟨_, rfl⟩
    rw [← hlf0] at cz0
    have lp0 : ¬ lf0 < 0 := by omega
    have hq1 : leftC lf0 (totCell n1_0) = -1 := by unfold leftC; rw [if_pos (by omega)]
    have cz1 := fun W (b : Below w.heap.size w W) => szCellT_any s1_0 s1_1 s1_2 s1_3 s1_4 a1_0 n1_0 c1_0 l1_0 (lf0) W (h1_0.below b) (by omega) (by omega) m1_0
    rw [hq1] at cz1
    clear hq1
    replace hlf0 := Shut.mk hlf0
    have S0 := Stc.new w 25 [.int .i64 s0_0, .slice a0_0 n0_0 c0_0, .slice a0_1 n0_1 c0_1] _ rfl
    have S1 := Stc.new (w.alloc (.cells #[.int .i64 s0_0, .slice a0_0 n0_0 c0_0, .slice a0_1 n0_1 c0_1] 25)) 27 [.int .i64 s1_0, .int .i64 s1_1, .int .i64 s1_2, .int .i64 s1_3, .bool s1_4, .slice a1_0 n1_0 c1_0] _ rfl
    replace S0 := S0.alloc (.cells #[.int .i64 s1_0, .int .i64 s1_1, .int .i64 s1_2, .int .i64 s1_3, .bool s1_4, .slice a1_0 n1_0 c1_0] 27)
    have B0 := (ab (ab (Below.refl w.heap.size w) (.cells #[.int .i64 s0_0, .slice a0_0 n0_0 c0_0, .slice a0_1 n0_1 c0_1] 25)) (.cells #[.int .i64 s1_0, .int .i64 s1_1, .int .i64 s1_2, .int .i64 s1_3, .bool s1_4, .slice a1_0 n1_0 c1_0] 27))
    simp only [World.size_alloc] at S1
    go_enter Try.func3, Try.ntmps3
    have x0 := S0.cell (i := 0) rfl
    have x1 := S0.cell (i := 1) rfl
    have x2 := S0.cell (i := 2) rfl
    go_wp2_with fail
    refine (cz0 _ B0).mono ?_
    rintro e w1 ⟨rfl, b1⟩
    clear x0 x1 x2
    replace S0 := S0.below b1 S0.lt
    replace S1 := S1.below b1 S1.lt
    have B1_ := ac B0 b1
    have x0 := S1.cell (i := 0) rfl
    have x1 := S1.cell (i := 1) rfl
    have x2 := S1.cell (i := 2) rfl
    have x3 := S1.cell (i := 3) rfl
    have x4 := S1.cell (i := 4) rfl
    have x5 := S1.cell (i := 5) rfl
    go_wp2_with fail
    refine (cz1 _ B1_).mono ?_
    rintro e w2 ⟨rfl, b2⟩
    clear x0 x1 x2 x3 x4 x5
    replace S0 := S0.below b2 S0.lt
    replace S1 := S1.below b2 S1.lt
    have B2_ := ac B1_ b2
    go_wp2
    go_ret
    exact ⟨rfl, B2_⟩
  obtain ⟨Z0, Z1, N0, D0, N1, D1, N2, D2, hN0, hS0, hB0, hN1, hN2, hS2, hB2, P, hP, hkeep, Gs, Gi⟩ := hall hz1
  exact exactHearData_walk s0_0 s1_0 s1_1 s1_2 s1_3 s1_4 a0_0 n0_0 c0_0 l0_0 a0_1 n0_1 c0_1 l0_1 a1_0 n1_0 c1_0 l1_0 w h0_0 h0_1 h1_0 hz1 Z0 Z1 N0 D0 N1 D1 N2 D2 hN0 hS0 hB0 hN1 hN2 hS2 hB2 P hP hkeep Gs Gi
end Go.Proofs.Ytpaemmoopjkppaa
