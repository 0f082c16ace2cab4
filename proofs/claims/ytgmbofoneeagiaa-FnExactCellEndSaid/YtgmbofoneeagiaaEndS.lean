/- The laws' helpers for structs with lists in them. -/
import Derived.Test.YtgmbofoneeagiaaEndT
import Derived.Test.YtgmbofoneeagiaaCelT
namespace Go.Proofs.Ytgmbofoneeagiaa
open Go.RowKit

set_option maxHeartbeats 1000000 in
theorem eqEnd_any (x0 : Int) (x1 : Int) (x3 : Int) (x7 : Int) (A0 A0' : Option Addr) (n0 c0 c0' : Nat) (d0 : List PartD) (A1 A1' : Option Addr) (n1 c1 c1' : Nat) (d1 : List HeldD) (A2 A2' : Option Addr) (n2 c2 c2' : Nat) (d2 : List Int) (A3 A3' : Option Addr) (n3 c3 c3' : Nat) (d3 : List (List Int)) (w : World) (h0 : Lst PartD.cels 4 w A0 n0 d0) (h0' : Lst PartD.cels 4 w A0' n0 d0) (h1 : Lst HeldD.cels 3 w A1 n1 d1) (h1' : Lst HeldD.cels 3 w A1' n1 d1) (h2 : Bs w A2 n2 d2) (h2' : Bs w A2' n2 d2) (h3 : Lst bytC 1 w A3 n3 d3) (h3' : Lst bytC 1 w A3' n3 d3) (hn0 : n0 ≤ 100000000) (hb0 : ∀ e ∈ d0, e.f0.length ≤ 100000000) (hn1 : n1 ≤ 100000000) (hb1 : ∀ e ∈ d1, e.f1.length ≤ 100000000) (hn2 : n2 ≤ 100000000) (hn3 : n3 ≤ 100000000) (hb3 : ∀ e ∈ d3, e.length ≤ 100000000) :
    Calls Try.prog 77 #[.agg #[.int .i64 x0, .int .i64 x1, .slice A0 n0 c0, .int .i64 x3, .slice A1 n1 c1, .slice A2 n2 c2, .slice A3 n3 c3, .int .i64 x7], .agg #[.int .i64 x0, .int .i64 x1, .slice A0' n0 c0', .int .i64 x3, .slice A1' n1 c1', .slice A2' n2 c2', .slice A3' n3 c3', .int .i64 x7]] w fun e w' => e = .returned (.bool true) ∧ Below w.heap.size w w' := by
  have S0 := (Stc.new w 119 [.int .i64 x0, .int .i64 x1, .slice A0 n0 c0, .int .i64 x3, .slice A1 n1 c1, .slice A2 n2 c2, .slice A3 n3 c3, .int .i64 x7] _ rfl).alloc (.cells #[.int .i64 x0, .int .i64 x1, .slice A0' n0 c0', .int .i64 x3, .slice A1' n1 c1', .slice A2' n2 c2', .slice A3' n3 c3', .int .i64 x7] 119)
  have S1 := Stc.new (w.alloc (.cells #[.int .i64 x0, .int .i64 x1, .slice A0 n0 c0, .int .i64 x3, .slice A1 n1 c1, .slice A2 n2 c2, .slice A3 n3 c3, .int .i64 x7] 119)) 119 [.int .i64 x0, .int .i64 x1, .slice A0' n0 c0', .int .i64 x3, .slice A1' n1 c1', .slice A2' n2 c2', .slice A3' n3 c3', .int .i64 x7] _ rfl
  have B0 := ab (ab (Below.refl _ w) (.cells #[.int .i64 x0, .int .i64 x1, .slice A0 n0 c0, .int .i64 x3, .slice A1 n1 c1, .slice A2 n2 c2, .slice A3 n3 c3, .int .i64 x7] 119)) (.cells #[.int .i64 x0, .int .i64 x1, .slice A0' n0 c0', .int .i64 x3, .slice A1' n1 c1', .slice A2' n2 c2', .slice A3' n3 c3', .int .i64 x7] 119)
  simp only [World.size_alloc] at S1
  go_enter Try.func77, Try.ntmps77
  have v0 := S0.cell (i := 0) rfl
  have u0 := S1.cell (i := 0) rfl
  have v1 := S0.cell (i := 1) rfl
  have u1 := S1.cell (i := 1) rfl
  have v2 := S0.cell (i := 2) rfl
  have u2 := S1.cell (i := 2) rfl
  have v3 := S0.cell (i := 3) rfl
  have u3 := S1.cell (i := 3) rfl
  have v4 := S0.cell (i := 4) rfl
  have u4 := S1.cell (i := 4) rfl
  have v5 := S0.cell (i := 5) rfl
  have u5 := S1.cell (i := 5) rfl
  have v6 := S0.cell (i := 6) rfl
  have u6 := S1.cell (i := 6) rfl
  have v7 := S0.cell (i := 7) rfl
  have u7 := S1.cell (i := 7) rfl
  go_wp2_with fail
  refine (eqSender_any _ _ _ _ _ _ _ _ (h0.below B0) (h0'.below B0) hn0 hb0).mono ?_
  rintro e w1 ⟨rfl, b1⟩
  have B1 := ac B0 b1
  clear v0 u0 v1 u1 v2 u2 v3 u3 v4 u4 v5 u5 v6 u6 v7 u7
  replace S0 := S0.below b1 S0.lt
  replace S1 := S1.below b1 S1.lt
  have v0 := S0.cell (i := 0) rfl
  have u0 := S1.cell (i := 0) rfl
  have v1 := S0.cell (i := 1) rfl
  have u1 := S1.cell (i := 1) rfl
  have v2 := S0.cell (i := 2) rfl
  have u2 := S1.cell (i := 2) rfl
  have v3 := S0.cell (i := 3) rfl
  have u3 := S1.cell (i := 3) rfl
  have v4 := S0.cell (i := 4) rfl
  have u4 := S1.cell (i := 4) rfl
  have v5 := S0.cell (i := 5) rfl
  have u5 := S1.cell (i := 5) rfl
  have v6 := S0.cell (i := 6) rfl
  have u6 := S1.cell (i := 6) rfl
  have v7 := S0.cell (i := 7) rfl
  have u7 := S1.cell (i := 7) rfl
  go_wp2_with fail
  refine (eqReceiver_any _ _ _ _ _ _ _ _ _ _ _ _ _ _ (h1.below B1) (h1'.below B1) (h2.below B1) (h2'.below B1) hn1 hb1 hn2).mono ?_
  rintro e w2 ⟨rfl, b2⟩
  have B2 := ac B1 b2
  clear v0 u0 v1 u1 v2 u2 v3 u3 v4 u4 v5 u5 v6 u6 v7 u7
  replace S0 := S0.below b2 S0.lt
  replace S1 := S1.below b2 S1.lt
  have v0 := S0.cell (i := 0) rfl
  have u0 := S1.cell (i := 0) rfl
  have v1 := S0.cell (i := 1) rfl
  have u1 := S1.cell (i := 1) rfl
  have v2 := S0.cell (i := 2) rfl
  have u2 := S1.cell (i := 2) rfl
  have v3 := S0.cell (i := 3) rfl
  have u3 := S1.cell (i := 3) rfl
  have v4 := S0.cell (i := 4) rfl
  have u4 := S1.cell (i := 4) rfl
  have v5 := S0.cell (i := 5) rfl
  have u5 := S1.cell (i := 5) rfl
  have v6 := S0.cell (i := 6) rfl
  have u6 := S1.cell (i := 6) rfl
  have v7 := S0.cell (i := 7) rfl
  have u7 := S1.cell (i := 7) rfl
  go_wp2_with fail
  refine (eqByteSS_any _ _ _ _ _ _ _ (h3.below B2) (h3'.below B2) (by omega) (fun e he => by have := hb3 e he; omega)).mono ?_
  rintro e w3 ⟨rfl, b3⟩
  have B3 := ac B2 b3
  clear v0 u0 v1 u1 v2 u2 v3 u3 v4 u4 v5 u5 v6 u6 v7 u7
  replace S0 := S0.below b3 S0.lt
  replace S1 := S1.below b3 S1.lt
  have v0 := S0.cell (i := 0) rfl
  have u0 := S1.cell (i := 0) rfl
  have v1 := S0.cell (i := 1) rfl
  have u1 := S1.cell (i := 1) rfl
  have v2 := S0.cell (i := 2) rfl
  have u2 := S1.cell (i := 2) rfl
  have v3 := S0.cell (i := 3) rfl
  have u3 := S1.cell (i := 3) rfl
  have v4 := S0.cell (i := 4) rfl
  have u4 := S1.cell (i := 4) rfl
  have v5 := S0.cell (i := 5) rfl
  have u5 := S1.cell (i := 5) rfl
  have v6 := S0.cell (i := 6) rfl
  have u6 := S1.cell (i := 6) rfl
  have v7 := S0.cell (i := 7) rfl
  have u7 := S1.cell (i := 7) rfl
  go_wp2
  go_ret
  exact ⟨rfl, B3⟩

set_option maxHeartbeats 1000000 in
theorem markEnd_any (x0 : Int) (x1 : Int) (x3 : Int) (x7 : Int) (A0 : Option Addr) (n0 c0 : Nat) (d0 : List PartD) (A1 : Option Addr) (n1 c1 : Nat) (d1 : List HeldD) (A2 : Option Addr) (n2 c2 : Nat) (d2 : List Int) (A3 : Option Addr) (n3 c3 : Nat) (d3 : List (List Int)) (F : Nat → Prop) (k : Int) (w : World) (h : (Thing.sep (tP A0 n0 d0) (Thing.sep (Thing.sep (tH A1 n1 d1) (tR A2 n2 d2)) (tB A3 n3 d3))) w F) (hF : ∀ b, F b → b < w.heap.size) (hk0 : 0 ≤ k) (hk1 : k ≤ 100000) (hn0 : n0 ≤ 3200000) (hs0 : sumE PartD.wd d0 ≤ 3200000) (hn1 : n1 ≤ 3200000) (hs1 : sumE HeldD.wd d1 ≤ 3200000) (hn2 : n2 ≤ 3200000) (hn3 : n3 ≤ 3200000) (hs3 : sumE List.length d3 ≤ 3200000) :
    Calls Try.prog 78 #[.agg #[.int .i64 x0, .int .i64 x1, .slice A0 n0 c0, .int .i64 x3, .slice A1 n1 c1, .slice A2 n2 c2, .slice A3 n3 c3, .int .i64 x7], .int .i64 k] w fun e w' => e = .returned (.int .i64 (k + (sumE PartD.wd d0 : Int) + (sumE HeldD.wd d1 : Int) + (n2 : Int) + (sumE List.length d3 : Int))) ∧ (Thing.sep (tP A0 n0 (markE PartD.mk_ PartD.wd (k) d0)) (Thing.sep (Thing.sep (tH A1 n1 (markE HeldD.mk_ HeldD.wd (k + (sumE PartD.wd d0 : Int)) d1)) (tR A2 n2 (marks (k + (sumE PartD.wd d0 : Int) + (sumE HeldD.wd d1 : Int)) n2))) (tB A3 n3 (markE mkB List.length (k + (sumE PartD.wd d0 : Int) + (sumE HeldD.wd d1 : Int) + (n2 : Int)) d3)))) w' F ∧ Tu F w w' := by
  have S0 := Stc.new w 119 [.int .i64 x0, .int .i64 x1, .slice A0 n0 c0, .int .i64 x3, .slice A1 n1 c1, .slice A2 n2 c2, .slice A3 n3 c3, .int .i64 x7] _ rfl
  have B0 := ab (Below.refl _ w) (.cells #[.int .i64 x0, .int .i64 x1, .slice A0 n0 c0, .int .i64 x3, .slice A1 n1 c1, .slice A2 n2 c2, .slice A3 n3 c3, .int .i64 x7] 119)
  replace h := ((okP _ _ _).sep (((okH _ _ _).sep (okR _ _ _)).sep (okB _ _ _))).alloc h (.cells #[.int .i64 x0, .int .i64 x1, .slice A0 n0 c0, .int .i64 x3, .slice A1 n1 c1, .slice A2 n2 c2, .slice A3 n3 c3, .int .i64 x7] 119)
  obtain ⟨G0_h, H0_h, i0_h, j0_h, k0_h, p0, ⟨G1_h, H1_h, i1_h, j1_h, k1_h, p1, p2⟩⟩ := h
  have TU0 := (Tu.ofBelow (F := F) B0)
  have nF : ¬ F w.heap.size := fun hh => by have := hF _ hh; omega
  go_enter Try.func78, Try.ntmps78
  have v0 := S0.cell (i := 0) rfl
  have v1 := S0.cell (i := 1) rfl
  have v2 := S0.cell (i := 2) rfl
  have v3 := S0.cell (i := 3) rfl
  have v4 := S0.cell (i := 4) rfl
  have v5 := S0.cell (i := 5) rfl
  have v6 := S0.cell (i := 6) rfl
  have v7 := S0.cell (i := 7) rfl
  go_wp2_with fail
  refine (markSender_any _ _ _ _ _ _ _ _ p0 (fun b hb => by have := hF b ((fun b hb => (i0_h b hb)) b hb); have := TU0.size; omega) (by omega) (by omega) (by omega) (by omega)).mono ?_
  rintro e w1 ⟨rfl, p0, tt⟩
  clear v0 v1 v2 v3 v4 v5 v6 v7
  replace p1 := Thing.Ok.tu ((okH _ _ _).sep (okR _ _ _)) p1 tt (fun b hj hi => (fun b hi hj => k0_h b hi (i1_h b hj)) b hi hj)
  replace p2 := Thing.Ok.tu (okB _ _ _) p2 tt (fun b hj hi => (fun b hi hj => k0_h b hi (j1_h b hj)) b hi hj)
  have tF := tt.wider (G := F) (fun b hb => (i0_h b hb))
  have TU1 := TU0.trans tF
  replace S0 := S0.tu tF nF
  clear tt tF
  have v0 := S0.cell (i := 0) rfl
  have v1 := S0.cell (i := 1) rfl
  have v2 := S0.cell (i := 2) rfl
  have v3 := S0.cell (i := 3) rfl
  have v4 := S0.cell (i := 4) rfl
  have v5 := S0.cell (i := 5) rfl
  have v6 := S0.cell (i := 6) rfl
  have v7 := S0.cell (i := 7) rfl
  go_wp2_with fail
  refine (markReceiver_any _ _ _ _ _ _ _ _ _ _ _ _ p1 (fun b hb => by have := hF b ((fun b hb => (j0_h b (i1_h b hb))) b hb); have := TU1.size; omega) (by omega) (by omega) (by omega) (by omega) (by omega)).mono ?_
  rintro e w2 ⟨rfl, p1, tt⟩
  clear v0 v1 v2 v3 v4 v5 v6 v7
  replace p0 := Thing.Ok.tu (okP _ _ _) p0 tt (fun b hi hj => (fun b hi hj => k0_h b hi (i1_h b hj)) b hi hj)
  replace p2 := Thing.Ok.tu (okB _ _ _) p2 tt (fun b hj hi => (fun b hi hj => k1_h b hi hj) b hi hj)
  have tF := tt.wider (G := F) (fun b hb => (j0_h b (i1_h b hb)))
  have TU2 := TU1.trans tF
  replace S0 := S0.tu tF nF
  clear tt tF
  have v0 := S0.cell (i := 0) rfl
  have v1 := S0.cell (i := 1) rfl
  have v2 := S0.cell (i := 2) rfl
  have v3 := S0.cell (i := 3) rfl
  have v4 := S0.cell (i := 4) rfl
  have v5 := S0.cell (i := 5) rfl
  have v6 := S0.cell (i := 6) rfl
  have v7 := S0.cell (i := 7) rfl
  go_wp2_with fail
  refine (markByteSS_any _ _ _ _ _ _ _ p2 (by omega) (by omega) (by omega) (by omega)).mono ?_
  rintro e w3 ⟨rfl, p2, tt⟩
  clear v0 v1 v2 v3 v4 v5 v6 v7
  replace p0 := Thing.Ok.tu (okP _ _ _) p0 tt (fun b hi hj => (fun b hi hj => k0_h b hi (j1_h b hj)) b hi hj)
  replace p1 := Thing.Ok.tu ((okH _ _ _).sep (okR _ _ _)) p1 tt (fun b hi hj => (fun b hi hj => k1_h b hi hj) b hi hj)
  have tF := tt.wider (G := F) (fun b hb => (j0_h b (j1_h b hb)))
  have TU3 := TU2.trans tF
  replace S0 := S0.tu tF nF
  clear tt tF
  have v0 := S0.cell (i := 0) rfl
  have v1 := S0.cell (i := 1) rfl
  have v2 := S0.cell (i := 2) rfl
  have v3 := S0.cell (i := 3) rfl
  have v4 := S0.cell (i := 4) rfl
  have v5 := S0.cell (i := 5) rfl
  have v6 := S0.cell (i := 6) rfl
  have v7 := S0.cell (i := 7) rfl
  go_wp2
  go_ret
  exact ⟨rfl, ⟨G0_h, H0_h, i0_h, j0_h, k0_h, p0, ⟨G1_h, H1_h, i1_h, j1_h, k1_h, p1, p2⟩⟩, TU3⟩

set_option maxHeartbeats 1000000 in
theorem heldEnd_any (x0 : Int) (x1 : Int) (x3 : Int) (x7 : Int) (A0 : Option Addr) (n0 c0 : Nat) (d0 : List PartD) (A1 : Option Addr) (n1 c1 : Nat) (d1 : List HeldD) (A2 : Option Addr) (n2 c2 : Nat) (A3 : Option Addr) (n3 c3 : Nat) (d3 : List (List Int)) (k : Int) (w : World) (h0 : Lst PartD.cels 4 w A0 n0 (markE PartD.mk_ PartD.wd (k) d0)) (h1 : Lst HeldD.cels 3 w A1 n1 (markE HeldD.mk_ HeldD.wd (k + (sumE PartD.wd d0 : Int)) d1)) (h2 : Bs w A2 n2 (marks (k + (sumE PartD.wd d0 : Int) + (sumE HeldD.wd d1 : Int)) n2)) (h3 : Lst bytC 1 w A3 n3 (markE mkB List.length (k + (sumE PartD.wd d0 : Int) + (sumE HeldD.wd d1 : Int) + (n2 : Int)) d3)) (hk0 : 0 ≤ k) (hk1 : k ≤ 100000) (hn0 : n0 ≤ 3200000) (hs0 : sumE PartD.wd d0 ≤ 3200000) (hn1 : n1 ≤ 3200000) (hs1 : sumE HeldD.wd d1 ≤ 3200000) (hn2 : n2 ≤ 3200000) (hn3 : n3 ≤ 3200000) (hs3 : sumE List.length d3 ≤ 3200000) :
    Calls Try.prog 176 #[.agg #[.int .i64 x0, .int .i64 x1, .slice A0 n0 c0, .int .i64 x3, .slice A1 n1 c1, .slice A2 n2 c2, .slice A3 n3 c3, .int .i64 x7], .int .i64 k] w fun e w' => e = .returned (.int .i64 (k + (sumE PartD.wd d0 : Int) + (sumE HeldD.wd d1 : Int) + (n2 : Int) + (sumE List.length d3 : Int))) ∧ Below w.heap.size w w' := by
  have S0 := Stc.new w 119 [.int .i64 x0, .int .i64 x1, .slice A0 n0 c0, .int .i64 x3, .slice A1 n1 c1, .slice A2 n2 c2, .slice A3 n3 c3, .int .i64 x7] _ rfl
  have B0 := ab (Below.refl _ w) (.cells #[.int .i64 x0, .int .i64 x1, .slice A0 n0 c0, .int .i64 x3, .slice A1 n1 c1, .slice A2 n2 c2, .slice A3 n3 c3, .int .i64 x7] 119)
  go_enter Try.func176, Try.ntmps176
  have v0 := S0.cell (i := 0) rfl
  have v1 := S0.cell (i := 1) rfl
  have v2 := S0.cell (i := 2) rfl
  have v3 := S0.cell (i := 3) rfl
  have v4 := S0.cell (i := 4) rfl
  have v5 := S0.cell (i := 5) rfl
  have v6 := S0.cell (i := 6) rfl
  have v7 := S0.cell (i := 7) rfl
  have tz : decide (k + (sumE PartD.wd d0 : Int) < 0) = false := by simp; omega
  go_wp2_with fail
  refine (heldSender_any _ _ _ _ _ _ _ (h0.below B0) (by omega) (by omega) (by omega) (by omega)).mono ?_
  rintro e w1 ⟨rfl, b1⟩
  have B1 := ac B0 b1
  clear v0 v1 v2 v3 v4 v5 v6 v7
  replace S0 := S0.below b1 S0.lt
  skip
  have tz1 := tz
  clear tz
  have v0 := S0.cell (i := 0) rfl
  have v1 := S0.cell (i := 1) rfl
  have v2 := S0.cell (i := 2) rfl
  have v3 := S0.cell (i := 3) rfl
  have v4 := S0.cell (i := 4) rfl
  have v5 := S0.cell (i := 5) rfl
  have v6 := S0.cell (i := 6) rfl
  have v7 := S0.cell (i := 7) rfl
  have tz : decide (k + (sumE PartD.wd d0 : Int) + (sumE HeldD.wd d1 : Int) + (n2 : Int) < 0) = false := by simp; omega
  go_wp2_with fail
  refine (heldReceiver_any _ _ _ _ _ _ _ _ _ _ (h1.below B1) (h2.below B1) (by omega) (by omega) (by omega) (by omega) (by omega)).mono ?_
  rintro e w2 ⟨rfl, b2⟩
  have B2 := ac B1 b2
  clear v0 v1 v2 v3 v4 v5 v6 v7
  replace S0 := S0.below b2 S0.lt
  skip
  have tz2 := tz
  clear tz
  have v0 := S0.cell (i := 0) rfl
  have v1 := S0.cell (i := 1) rfl
  have v2 := S0.cell (i := 2) rfl
  have v3 := S0.cell (i := 3) rfl
  have v4 := S0.cell (i := 4) rfl
  have v5 := S0.cell (i := 5) rfl
  have v6 := S0.cell (i := 6) rfl
  have v7 := S0.cell (i := 7) rfl
  have tz : decide (k + (sumE PartD.wd d0 : Int) + (sumE HeldD.wd d1 : Int) + (n2 : Int) + (sumE List.length d3 : Int) < 0) = false := by simp; omega
  go_wp2_with fail
  refine (heldByteSS_any _ _ _ _ _ _ (h3.below B2) (by omega) (by omega) (by omega) (by omega)).mono ?_
  rintro e w3 ⟨rfl, b3⟩
  have B3 := ac B2 b3
  clear v0 v1 v2 v3 v4 v5 v6 v7
  replace S0 := S0.below b3 S0.lt
  skip
  have tz3 := tz
  clear tz
  have v0 := S0.cell (i := 0) rfl
  have v1 := S0.cell (i := 1) rfl
  have v2 := S0.cell (i := 2) rfl
  have v3 := S0.cell (i := 3) rfl
  have v4 := S0.cell (i := 4) rfl
  have v5 := S0.cell (i := 5) rfl
  have v6 := S0.cell (i := 6) rfl
  have v7 := S0.cell (i := 7) rfl
  go_wp2
  go_ret
  exact ⟨rfl, B3⟩

set_option maxHeartbeats 1000000 in
theorem eqEndResult_any (x0 : Int) (x1 : Int) (x2 : Int) (x4 : Int) (x8 : Int) (x9 : Int) (x10 : Int) (x11 : Int) (x12 : Int) (x13 : Bool) (A0 A0' : Option Addr) (n0 c0 c0' : Nat) (d0 : List PartD) (A1 A1' : Option Addr) (n1 c1 c1' : Nat) (d1 : List HeldD) (A2 A2' : Option Addr) (n2 c2 c2' : Nat) (d2 : List Int) (A3 A3' : Option Addr) (n3 c3 c3' : Nat) (d3 : List (List Int)) (A4 A4' : Option Addr) (n4 c4 c4' : Nat) (d4 : List Int) (A5 A5' : Option Addr) (n5 c5 c5' : Nat) (d5 : List Int) (w : World) (h0 : Lst PartD.cels 4 w A0 n0 d0) (h0' : Lst PartD.cels 4 w A0' n0 d0) (h1 : Lst HeldD.cels 3 w A1 n1 d1) (h1' : Lst HeldD.cels 3 w A1' n1 d1) (h2 : Bs w A2 n2 d2) (h2' : Bs w A2' n2 d2) (h3 : Lst bytC 1 w A3 n3 d3) (h3' : Lst bytC 1 w A3' n3 d3) (h4 : Bs w A4 n4 d4) (h4' : Bs w A4' n4 d4) (h5 : Bs w A5 n5 d5) (h5' : Bs w A5' n5 d5) (hn0 : n0 ≤ 100000000) (hb0 : ∀ e ∈ d0, e.f0.length ≤ 100000000) (hn1 : n1 ≤ 100000000) (hb1 : ∀ e ∈ d1, e.f1.length ≤ 100000000) (hn2 : n2 ≤ 100000000) (hn3 : n3 ≤ 100000000) (hb3 : ∀ e ∈ d3, e.length ≤ 100000000) (hn4 : n4 ≤ 100000000) (hn5 : n5 ≤ 100000000) :
    Calls Try.prog 76 #[.agg #[.int .i64 x0, .int .i64 x1, .int .i64 x2, .slice A0 n0 c0, .int .i64 x4, .slice A1 n1 c1, .slice A2 n2 c2, .slice A3 n3 c3, .int .i64 x8, .int .i64 x9, .int .i64 x10, .int .i64 x11, .int .i64 x12, .bool x13, .slice A4 n4 c4, .slice A5 n5 c5], .agg #[.int .i64 x0, .int .i64 x1, .int .i64 x2, .slice A0' n0 c0', .int .i64 x4, .slice A1' n1 c1', .slice A2' n2 c2', .slice A3' n3 c3', .int .i64 x8, .int .i64 x9, .int .i64 x10, .int .i64 x11, .int .i64 x12, .bool x13, .slice A4' n4 c4', .slice A5' n5 c5']] w fun e w' => e = .returned (.bool true) ∧ Below w.heap.size w w' := by
  have S0 := (Stc.new w 121 [.int .i64 x0, .int .i64 x1, .int .i64 x2, .slice A0 n0 c0, .int .i64 x4, .slice A1 n1 c1, .slice A2 n2 c2, .slice A3 n3 c3, .int .i64 x8, .int .i64 x9, .int .i64 x10, .int .i64 x11, .int .i64 x12, .bool x13, .slice A4 n4 c4, .slice A5 n5 c5] _ rfl).alloc (.cells #[.int .i64 x0, .int .i64 x1, .int .i64 x2, .slice A0' n0 c0', .int .i64 x4, .slice A1' n1 c1', .slice A2' n2 c2', .slice A3' n3 c3', .int .i64 x8, .int .i64 x9, .int .i64 x10, .int .i64 x11, .int .i64 x12, .bool x13, .slice A4' n4 c4', .slice A5' n5 c5'] 121)
  have S1 := Stc.new (w.alloc (.cells #[.int .i64 x0, .int .i64 x1, .int .i64 x2, .slice A0 n0 c0, .int .i64 x4, .slice A1 n1 c1, .slice A2 n2 c2, .slice A3 n3 c3, .int .i64 x8, .int .i64 x9, .int .i64 x10, .int .i64 x11, .int .i64 x12, .bool x13, .slice A4 n4 c4, .slice A5 n5 c5] 121)) 121 [.int .i64 x0, .int .i64 x1, .int .i64 x2, .slice A0' n0 c0', .int .i64 x4, .slice A1' n1 c1', .slice A2' n2 c2', .slice A3' n3 c3', .int .i64 x8, .int .i64 x9, .int .i64 x10, .int .i64 x11, .int .i64 x12, .bool x13, .slice A4' n4 c4', .slice A5' n5 c5'] _ rfl
  have B0 := ab (ab (Below.refl _ w) (.cells #[.int .i64 x0, .int .i64 x1, .int .i64 x2, .slice A0 n0 c0, .int .i64 x4, .slice A1 n1 c1, .slice A2 n2 c2, .slice A3 n3 c3, .int .i64 x8, .int .i64 x9, .int .i64 x10, .int .i64 x11, .int .i64 x12, .bool x13, .slice A4 n4 c4, .slice A5 n5 c5] 121)) (.cells #[.int .i64 x0, .int .i64 x1, .int .i64 x2, .slice A0' n0 c0', .int .i64 x4, .slice A1' n1 c1', .slice A2' n2 c2', .slice A3' n3 c3', .int .i64 x8, .int .i64 x9, .int .i64 x10, .int .i64 x11, .int .i64 x12, .bool x13, .slice A4' n4 c4', .slice A5' n5 c5'] 121)
  simp only [World.size_alloc] at S1
  go_enter Try.func76, Try.ntmps76
  have v0 := S0.cell (i := 0) rfl
  have u0 := S1.cell (i := 0) rfl
  have v1 := S0.cell (i := 1) rfl
  have u1 := S1.cell (i := 1) rfl
  have v2 := S0.cell (i := 2) rfl
  have u2 := S1.cell (i := 2) rfl
  have v3 := S0.cell (i := 3) rfl
  have u3 := S1.cell (i := 3) rfl
  have v4 := S0.cell (i := 4) rfl
  have u4 := S1.cell (i := 4) rfl
  have v5 := S0.cell (i := 5) rfl
  have u5 := S1.cell (i := 5) rfl
  have v6 := S0.cell (i := 6) rfl
  have u6 := S1.cell (i := 6) rfl
  have v7 := S0.cell (i := 7) rfl
  have u7 := S1.cell (i := 7) rfl
  have v8 := S0.cell (i := 8) rfl
  have u8 := S1.cell (i := 8) rfl
  have v9 := S0.cell (i := 9) rfl
  have u9 := S1.cell (i := 9) rfl
  have v10 := S0.cell (i := 10) rfl
  have u10 := S1.cell (i := 10) rfl
  have v11 := S0.cell (i := 11) rfl
  have u11 := S1.cell (i := 11) rfl
  have v12 := S0.cell (i := 12) rfl
  have u12 := S1.cell (i := 12) rfl
  have v13 := S0.cell (i := 13) rfl
  have u13 := S1.cell (i := 13) rfl
  have v14 := S0.cell (i := 14) rfl
  have u14 := S1.cell (i := 14) rfl
  have v15 := S0.cell (i := 15) rfl
  have u15 := S1.cell (i := 15) rfl
  go_wp2_with fail
  refine (eqEnd_any _ _ _ _ _ _ _ _ _ _ _ _ _ _ _ _ _ _ _ _ _ _ _ _ _ _ _ _ _ (h0.below B0) (h0'.below B0) (h1.below B0) (h1'.below B0) (h2.below B0) (h2'.below B0) (h3.below B0) (h3'.below B0) hn0 hb0 hn1 hb1 hn2 hn3 hb3).mono ?_
  rintro e w1 ⟨rfl, b1⟩
  have B1 := ac B0 b1
  clear v0 u0 v1 u1 v2 u2 v3 u3 v4 u4 v5 u5 v6 u6 v7 u7 v8 u8 v9 u9 v10 u10 v11 u11 v12 u12 v13 u13 v14 u14 v15 u15
  replace S0 := S0.below b1 S0.lt
  replace S1 := S1.below b1 S1.lt
  have v0 := S0.cell (i := 0) rfl
  have u0 := S1.cell (i := 0) rfl
  have v1 := S0.cell (i := 1) rfl
  have u1 := S1.cell (i := 1) rfl
  have v2 := S0.cell (i := 2) rfl
  have u2 := S1.cell (i := 2) rfl
  have v3 := S0.cell (i := 3) rfl
  have u3 := S1.cell (i := 3) rfl
  have v4 := S0.cell (i := 4) rfl
  have u4 := S1.cell (i := 4) rfl
  have v5 := S0.cell (i := 5) rfl
  have u5 := S1.cell (i := 5) rfl
  have v6 := S0.cell (i := 6) rfl
  have u6 := S1.cell (i := 6) rfl
  have v7 := S0.cell (i := 7) rfl
  have u7 := S1.cell (i := 7) rfl
  have v8 := S0.cell (i := 8) rfl
  have u8 := S1.cell (i := 8) rfl
  have v9 := S0.cell (i := 9) rfl
  have u9 := S1.cell (i := 9) rfl
  have v10 := S0.cell (i := 10) rfl
  have u10 := S1.cell (i := 10) rfl
  have v11 := S0.cell (i := 11) rfl
  have u11 := S1.cell (i := 11) rfl
  have v12 := S0.cell (i := 12) rfl
  have u12 := S1.cell (i := 12) rfl
  have v13 := S0.cell (i := 13) rfl
  have u13 := S1.cell (i := 13) rfl
  have v14 := S0.cell (i := 14) rfl
  have u14 := S1.cell (i := 14) rfl
  have v15 := S0.cell (i := 15) rfl
  have u15 := S1.cell (i := 15) rfl
  go_wp2_with fail
  refine (eqCell_any _ _ _ _ _ _ _ _ _ _ _ _ (h4.below B1) (h4'.below B1) (by omega)).mono ?_
  rintro e w2 ⟨rfl, b2⟩
  have B2 := ac B1 b2
  clear v0 u0 v1 u1 v2 u2 v3 u3 v4 u4 v5 u5 v6 u6 v7 u7 v8 u8 v9 u9 v10 u10 v11 u11 v12 u12 v13 u13 v14 u14 v15 u15
  replace S0 := S0.below b2 S0.lt
  replace S1 := S1.below b2 S1.lt
  have v0 := S0.cell (i := 0) rfl
  have u0 := S1.cell (i := 0) rfl
  have v1 := S0.cell (i := 1) rfl
  have u1 := S1.cell (i := 1) rfl
  have v2 := S0.cell (i := 2) rfl
  have u2 := S1.cell (i := 2) rfl
  have v3 := S0.cell (i := 3) rfl
  have u3 := S1.cell (i := 3) rfl
  have v4 := S0.cell (i := 4) rfl
  have u4 := S1.cell (i := 4) rfl
  have v5 := S0.cell (i := 5) rfl
  have u5 := S1.cell (i := 5) rfl
  have v6 := S0.cell (i := 6) rfl
  have u6 := S1.cell (i := 6) rfl
  have v7 := S0.cell (i := 7) rfl
  have u7 := S1.cell (i := 7) rfl
  have v8 := S0.cell (i := 8) rfl
  have u8 := S1.cell (i := 8) rfl
  have v9 := S0.cell (i := 9) rfl
  have u9 := S1.cell (i := 9) rfl
  have v10 := S0.cell (i := 10) rfl
  have u10 := S1.cell (i := 10) rfl
  have v11 := S0.cell (i := 11) rfl
  have u11 := S1.cell (i := 11) rfl
  have v12 := S0.cell (i := 12) rfl
  have u12 := S1.cell (i := 12) rfl
  have v13 := S0.cell (i := 13) rfl
  have u13 := S1.cell (i := 13) rfl
  have v14 := S0.cell (i := 14) rfl
  have u14 := S1.cell (i := 14) rfl
  have v15 := S0.cell (i := 15) rfl
  have u15 := S1.cell (i := 15) rfl
  go_wp2_with fail
  refine (eqByteS_any _ _ _ _ _ _ _ _ _ (h5.below B2) (h5'.below B2) (by omega) (by omega)).mono ?_
  rintro e w3 ⟨rfl, q3, rfl⟩
  simp only [decide_true]
  have B3 := ad B2 q3
  clear v0 u0 v1 u1 v2 u2 v3 u3 v4 u4 v5 u5 v6 u6 v7 u7 v8 u8 v9 u9 v10 u10 v11 u11 v12 u12 v13 u13 v14 u14 v15 u15
  replace S0 := S0.drewN q3
  replace S1 := S1.drewN q3
  have v0 := S0.cell (i := 0) rfl
  have u0 := S1.cell (i := 0) rfl
  have v1 := S0.cell (i := 1) rfl
  have u1 := S1.cell (i := 1) rfl
  have v2 := S0.cell (i := 2) rfl
  have u2 := S1.cell (i := 2) rfl
  have v3 := S0.cell (i := 3) rfl
  have u3 := S1.cell (i := 3) rfl
  have v4 := S0.cell (i := 4) rfl
  have u4 := S1.cell (i := 4) rfl
  have v5 := S0.cell (i := 5) rfl
  have u5 := S1.cell (i := 5) rfl
  have v6 := S0.cell (i := 6) rfl
  have u6 := S1.cell (i := 6) rfl
  have v7 := S0.cell (i := 7) rfl
  have u7 := S1.cell (i := 7) rfl
  have v8 := S0.cell (i := 8) rfl
  have u8 := S1.cell (i := 8) rfl
  have v9 := S0.cell (i := 9) rfl
  have u9 := S1.cell (i := 9) rfl
  have v10 := S0.cell (i := 10) rfl
  have u10 := S1.cell (i := 10) rfl
  have v11 := S0.cell (i := 11) rfl
  have u11 := S1.cell (i := 11) rfl
  have v12 := S0.cell (i := 12) rfl
  have u12 := S1.cell (i := 12) rfl
  have v13 := S0.cell (i := 13) rfl
  have u13 := S1.cell (i := 13) rfl
  have v14 := S0.cell (i := 14) rfl
  have u14 := S1.cell (i := 14) rfl
  have v15 := S0.cell (i := 15) rfl
  have u15 := S1.cell (i := 15) rfl
  go_wp2
  go_ret
  exact ⟨rfl, B3⟩

set_option maxHeartbeats 1000000 in
theorem markEndResult_any (x0 : Int) (x1 : Int) (x2 : Int) (x4 : Int) (x8 : Int) (x9 : Int) (x10 : Int) (x11 : Int) (x12 : Int) (x13 : Bool) (A0 : Option Addr) (n0 c0 : Nat) (d0 : List PartD) (A1 : Option Addr) (n1 c1 : Nat) (d1 : List HeldD) (A2 : Option Addr) (n2 c2 : Nat) (d2 : List Int) (A3 : Option Addr) (n3 c3 : Nat) (d3 : List (List Int)) (A4 : Option Addr) (n4 c4 : Nat) (d4 : List Int) (A5 : Option Addr) (n5 c5 : Nat) (d5 : List Int) (F : Nat → Prop) (k : Int) (w : World) (h : (Thing.sep (Thing.sep (tP A0 n0 d0) (Thing.sep (Thing.sep (tH A1 n1 d1) (tR A2 n2 d2)) (tB A3 n3 d3))) (Thing.sep (tR A4 n4 d4) (tR A5 n5 d5))) w F) (hF : ∀ b, F b → b < w.heap.size) (hk0 : 0 ≤ k) (hk1 : k ≤ 1000) (hn0 : n0 ≤ 2000000) (hs0 : sumE PartD.wd d0 ≤ 2000000) (hn1 : n1 ≤ 2000000) (hs1 : sumE HeldD.wd d1 ≤ 2000000) (hn2 : n2 ≤ 2000000) (hn3 : n3 ≤ 2000000) (hs3 : sumE List.length d3 ≤ 2000000) (hn4 : n4 ≤ 2000000) (hn5 : n5 ≤ 2000000) :
    Calls Try.prog 79 #[.agg #[.int .i64 x0, .int .i64 x1, .int .i64 x2, .slice A0 n0 c0, .int .i64 x4, .slice A1 n1 c1, .slice A2 n2 c2, .slice A3 n3 c3, .int .i64 x8, .int .i64 x9, .int .i64 x10, .int .i64 x11, .int .i64 x12, .bool x13, .slice A4 n4 c4, .slice A5 n5 c5], .int .i64 k] w fun e w' => e = .returned (.int .i64 (k + (sumE PartD.wd d0 : Int) + (sumE HeldD.wd d1 : Int) + (n2 : Int) + (sumE List.length d3 : Int) + (n4 : Int) + (n5 : Int))) ∧ (Thing.sep (Thing.sep (tP A0 n0 (markE PartD.mk_ PartD.wd (k) d0)) (Thing.sep (Thing.sep (tH A1 n1 (markE HeldD.mk_ HeldD.wd (k + (sumE PartD.wd d0 : Int)) d1)) (tR A2 n2 (marks (k + (sumE PartD.wd d0 : Int) + (sumE HeldD.wd d1 : Int)) n2))) (tB A3 n3 (markE mkB List.length (k + (sumE PartD.wd d0 : Int) + (sumE HeldD.wd d1 : Int) + (n2 : Int)) d3)))) (Thing.sep (tR A4 n4 (marks (k + (sumE PartD.wd d0 : Int) + (sumE HeldD.wd d1 : Int) + (n2 : Int) + (sumE List.length d3 : Int)) n4)) (tR A5 n5 (marks (k + (sumE PartD.wd d0 : Int) + (sumE HeldD.wd d1 : Int) + (n2 : Int) + (sumE List.length d3 : Int) + (n4 : Int)) n5)))) w' F ∧ Tu F w w' := by
  have S0 := Stc.new w 121 [.int .i64 x0, .int .i64 x1, .int .i64 x2, .slice A0 n0 c0, .int .i64 x4, .slice A1 n1 c1, .slice A2 n2 c2, .slice A3 n3 c3, .int .i64 x8, .int .i64 x9, .int .i64 x10, .int .i64 x11, .int .i64 x12, .bool x13, .slice A4 n4 c4, .slice A5 n5 c5] _ rfl
  have B0 := ab (Below.refl _ w) (.cells #[.int .i64 x0, .int .i64 x1, .int .i64 x2, .slice A0 n0 c0, .int .i64 x4, .slice A1 n1 c1, .slice A2 n2 c2, .slice A3 n3 c3, .int .i64 x8, .int .i64 x9, .int .i64 x10, .int .i64 x11, .int .i64 x12, .bool x13, .slice A4 n4 c4, .slice A5 n5 c5] 121)
  replace h := (((okP _ _ _).sep (((okH _ _ _).sep (okR _ _ _)).sep (okB _ _ _))).sep ((okR _ _ _).sep (okR _ _ _))).alloc h (.cells #[.int .i64 x0, .int .i64 x1, .int .i64 x2, .slice A0 n0 c0, .int .i64 x4, .slice A1 n1 c1, .slice A2 n2 c2, .slice A3 n3 c3, .int .i64 x8, .int .i64 x9, .int .i64 x10, .int .i64 x11, .int .i64 x12, .bool x13, .slice A4 n4 c4, .slice A5 n5 c5] 121)
  obtain ⟨G0_h, H0_h, i0_h, j0_h, k0_h, p0, ⟨G1_h, H1_h, i1_h, j1_h, k1_h, p1, p2⟩⟩ := h
  have TU0 := (Tu.ofBelow (F := F) B0)
  have nF : ¬ F w.heap.size := fun hh => by have := hF _ hh; omega
  go_enter Try.func79, Try.ntmps79
  have v0 := S0.cell (i := 0) rfl
  have v1 := S0.cell (i := 1) rfl
  have v2 := S0.cell (i := 2) rfl
  have v3 := S0.cell (i := 3) rfl
  have v4 := S0.cell (i := 4) rfl
  have v5 := S0.cell (i := 5) rfl
  have v6 := S0.cell (i := 6) rfl
  have v7 := S0.cell (i := 7) rfl
  have v8 := S0.cell (i := 8) rfl
  have v9 := S0.cell (i := 9) rfl
  have v10 := S0.cell (i := 10) rfl
  have v11 := S0.cell (i := 11) rfl
  have v12 := S0.cell (i := 12) rfl
  have v13 := S0.cell (i := 13) rfl
  have v14 := S0.cell (i := 14) rfl
  have v15 := S0.cell (i := 15) rfl
  go_wp2_with fail
  refine (markEnd_any _ _ _ _ _ _ _ _ _ _ _ _ _ _ _ _ _ _ _ _ _ _ _ p0 (fun b hb => by have := hF b ((fun b hb => (i0_h b hb)) b hb); have := TU0.size; omega) (by omega) (by omega) (by omega) (by omega) (by omega) (by omega) (by omega) (by omega) (by omega)).mono ?_
  rintro e w1 ⟨rfl, p0, tt⟩
  clear v0 v1 v2 v3 v4 v5 v6 v7 v8 v9 v10 v11 v12 v13 v14 v15
  replace p1 := Thing.Ok.tu (okR _ _ _) p1 tt (fun b hj hi => (fun b hi hj => k0_h b hi (i1_h b hj)) b hi hj)
  replace p2 := Thing.Ok.tu (okR _ _ _) p2 tt (fun b hj hi => (fun b hi hj => k0_h b hi (j1_h b hj)) b hi hj)
  have tF := tt.wider (G := F) (fun b hb => (i0_h b hb))
  have TU1 := TU0.trans tF
  replace S0 := S0.tu tF nF
  clear tt tF
  have v0 := S0.cell (i := 0) rfl
  have v1 := S0.cell (i := 1) rfl
  have v2 := S0.cell (i := 2) rfl
  have v3 := S0.cell (i := 3) rfl
  have v4 := S0.cell (i := 4) rfl
  have v5 := S0.cell (i := 5) rfl
  have v6 := S0.cell (i := 6) rfl
  have v7 := S0.cell (i := 7) rfl
  have v8 := S0.cell (i := 8) rfl
  have v9 := S0.cell (i := 9) rfl
  have v10 := S0.cell (i := 10) rfl
  have v11 := S0.cell (i := 11) rfl
  have v12 := S0.cell (i := 12) rfl
  have v13 := S0.cell (i := 13) rfl
  have v14 := S0.cell (i := 14) rfl
  have v15 := S0.cell (i := 15) rfl
  go_wp2_with fail
  refine (markCellT_any _ _ _ _ _ _ _ _ _ _ _ _ p1 (by omega) (by omega) (by omega)).mono ?_
  rintro e w2 ⟨rfl, p1, tt⟩
  clear v0 v1 v2 v3 v4 v5 v6 v7 v8 v9 v10 v11 v12 v13 v14 v15
  replace p0 := Thing.Ok.tu ((okP _ _ _).sep (((okH _ _ _).sep (okR _ _ _)).sep (okB _ _ _))) p0 tt (fun b hi hj => (fun b hi hj => k0_h b hi (i1_h b hj)) b hi hj)
  replace p2 := Thing.Ok.tu (okR _ _ _) p2 tt (fun b hj hi => (fun b hi hj => k1_h b hi hj) b hi hj)
  have tF := tt.wider (G := F) (fun b hb => (j0_h b (i1_h b hb)))
  have TU2 := TU1.trans tF
  replace S0 := S0.tu tF nF
  clear tt tF
  have v0 := S0.cell (i := 0) rfl
  have v1 := S0.cell (i := 1) rfl
  have v2 := S0.cell (i := 2) rfl
  have v3 := S0.cell (i := 3) rfl
  have v4 := S0.cell (i := 4) rfl
  have v5 := S0.cell (i := 5) rfl
  have v6 := S0.cell (i := 6) rfl
  have v7 := S0.cell (i := 7) rfl
  have v8 := S0.cell (i := 8) rfl
  have v9 := S0.cell (i := 9) rfl
  have v10 := S0.cell (i := 10) rfl
  have v11 := S0.cell (i := 11) rfl
  have v12 := S0.cell (i := 12) rfl
  have v13 := S0.cell (i := 13) rfl
  have v14 := S0.cell (i := 14) rfl
  have v15 := S0.cell (i := 15) rfl
  go_wp2_with fail
  refine (markByteS_any _ _ _ _ _ _ _ (Bo.ow0 p2) (by omega) (by omega) (by omega)).mono ?_
  rintro e w3 ⟨rfl, oo, on⟩
  have tt : Tu H1_h _ w3 := Tu.ofOnly on (Bo.inside p2)
  replace p2 : tR _ _ _ w3 H1_h := Bo.remark p2 oo
  clear v0 v1 v2 v3 v4 v5 v6 v7 v8 v9 v10 v11 v12 v13 v14 v15
  replace p0 := Thing.Ok.tu ((okP _ _ _).sep (((okH _ _ _).sep (okR _ _ _)).sep (okB _ _ _))) p0 tt (fun b hi hj => (fun b hi hj => k0_h b hi (j1_h b hj)) b hi hj)
  replace p1 := Thing.Ok.tu (okR _ _ _) p1 tt (fun b hi hj => (fun b hi hj => k1_h b hi hj) b hi hj)
  have tF := tt.wider (G := F) (fun b hb => (j0_h b (j1_h b hb)))
  have TU3 := TU2.trans tF
  replace S0 := S0.tu tF nF
  clear tt tF
  have v0 := S0.cell (i := 0) rfl
  have v1 := S0.cell (i := 1) rfl
  have v2 := S0.cell (i := 2) rfl
  have v3 := S0.cell (i := 3) rfl
  have v4 := S0.cell (i := 4) rfl
  have v5 := S0.cell (i := 5) rfl
  have v6 := S0.cell (i := 6) rfl
  have v7 := S0.cell (i := 7) rfl
  have v8 := S0.cell (i := 8) rfl
  have v9 := S0.cell (i := 9) rfl
  have v10 := S0.cell (i := 10) rfl
  have v11 := S0.cell (i := 11) rfl
  have v12 := S0.cell (i := 12) rfl
  have v13 := S0.cell (i := 13) rfl
  have v14 := S0.cell (i := 14) rfl
  have v15 := S0.cell (i := 15) rfl
  go_wp2
  go_ret
  exact ⟨rfl, ⟨G0_h, H0_h, i0_h, j0_h, k0_h, p0, ⟨G1_h, H1_h, i1_h, j1_h, k1_h, p1, p2⟩⟩, TU3⟩

set_option maxHeartbeats 1000000 in
theorem heldEndResult_any (x0 : Int) (x1 : Int) (x2 : Int) (x4 : Int) (x8 : Int) (x9 : Int) (x10 : Int) (x11 : Int) (x12 : Int) (x13 : Bool) (A0 : Option Addr) (n0 c0 : Nat) (d0 : List PartD) (A1 : Option Addr) (n1 c1 : Nat) (d1 : List HeldD) (A2 : Option Addr) (n2 c2 : Nat) (A3 : Option Addr) (n3 c3 : Nat) (d3 : List (List Int)) (A4 : Option Addr) (n4 c4 : Nat) (A5 : Option Addr) (n5 c5 : Nat) (k : Int) (w : World) (h0 : Lst PartD.cels 4 w A0 n0 (markE PartD.mk_ PartD.wd (k) d0)) (h1 : Lst HeldD.cels 3 w A1 n1 (markE HeldD.mk_ HeldD.wd (k + (sumE PartD.wd d0 : Int)) d1)) (h2 : Bs w A2 n2 (marks (k + (sumE PartD.wd d0 : Int) + (sumE HeldD.wd d1 : Int)) n2)) (h3 : Lst bytC 1 w A3 n3 (markE mkB List.length (k + (sumE PartD.wd d0 : Int) + (sumE HeldD.wd d1 : Int) + (n2 : Int)) d3)) (h4 : Bs w A4 n4 (marks (k + (sumE PartD.wd d0 : Int) + (sumE HeldD.wd d1 : Int) + (n2 : Int) + (sumE List.length d3 : Int)) n4)) (h5 : Bs w A5 n5 (marks (k + (sumE PartD.wd d0 : Int) + (sumE HeldD.wd d1 : Int) + (n2 : Int) + (sumE List.length d3 : Int) + (n4 : Int)) n5)) (hk0 : 0 ≤ k) (hk1 : k ≤ 1000) (hn0 : n0 ≤ 2000000) (hs0 : sumE PartD.wd d0 ≤ 2000000) (hn1 : n1 ≤ 2000000) (hs1 : sumE HeldD.wd d1 ≤ 2000000) (hn2 : n2 ≤ 2000000) (hn3 : n3 ≤ 2000000) (hs3 : sumE List.length d3 ≤ 2000000) (hn4 : n4 ≤ 2000000) (hn5 : n5 ≤ 2000000) :
    Calls Try.prog 80 #[.agg #[.int .i64 x0, .int .i64 x1, .int .i64 x2, .slice A0 n0 c0, .int .i64 x4, .slice A1 n1 c1, .slice A2 n2 c2, .slice A3 n3 c3, .int .i64 x8, .int .i64 x9, .int .i64 x10, .int .i64 x11, .int .i64 x12, .bool x13, .slice A4 n4 c4, .slice A5 n5 c5], .int .i64 k] w fun e w' => e = .returned (.int .i64 (k + (sumE PartD.wd d0 : Int) + (sumE HeldD.wd d1 : Int) + (n2 : Int) + (sumE List.length d3 : Int) + (n4 : Int) + (n5 : Int))) ∧ Below w.heap.size w w' := by
  have S0 := Stc.new w 121 [.int .i64 x0, .int .i64 x1, .int .i64 x2, .slice A0 n0 c0, .int .i64 x4, .slice A1 n1 c1, .slice A2 n2 c2, .slice A3 n3 c3, .int .i64 x8, .int .i64 x9, .int .i64 x10, .int .i64 x11, .int .i64 x12, .bool x13, .slice A4 n4 c4, .slice A5 n5 c5] _ rfl
  have B0 := ab (Below.refl _ w) (.cells #[.int .i64 x0, .int .i64 x1, .int .i64 x2, .slice A0 n0 c0, .int .i64 x4, .slice A1 n1 c1, .slice A2 n2 c2, .slice A3 n3 c3, .int .i64 x8, .int .i64 x9, .int .i64 x10, .int .i64 x11, .int .i64 x12, .bool x13, .slice A4 n4 c4, .slice A5 n5 c5] 121)
  go_enter Try.func80, Try.ntmps80
  have v0 := S0.cell (i := 0) rfl
  have v1 := S0.cell (i := 1) rfl
  have v2 := S0.cell (i := 2) rfl
  have v3 := S0.cell (i := 3) rfl
  have v4 := S0.cell (i := 4) rfl
  have v5 := S0.cell (i := 5) rfl
  have v6 := S0.cell (i := 6) rfl
  have v7 := S0.cell (i := 7) rfl
  have v8 := S0.cell (i := 8) rfl
  have v9 := S0.cell (i := 9) rfl
  have v10 := S0.cell (i := 10) rfl
  have v11 := S0.cell (i := 11) rfl
  have v12 := S0.cell (i := 12) rfl
  have v13 := S0.cell (i := 13) rfl
  have v14 := S0.cell (i := 14) rfl
  have v15 := S0.cell (i := 15) rfl
  have tz : decide (k + (sumE PartD.wd d0 : Int) + (sumE HeldD.wd d1 : Int) + (n2 : Int) + (sumE List.length d3 : Int) < 0) = false := by simp; omega
  go_wp2_with fail
  refine (heldEnd_any _ _ _ _ _ _ _ _ _ _ _ _ _ _ _ _ _ _ _ _ _ (h0.below B0) (h1.below B0) (h2.below B0) (h3.below B0) (by omega) (by omega) (by omega) (by omega) (by omega) (by omega) (by omega) (by omega) (by omega)).mono ?_
  rintro e w1 ⟨rfl, b1⟩
  have B1 := ac B0 b1
  clear v0 v1 v2 v3 v4 v5 v6 v7 v8 v9 v10 v11 v12 v13 v14 v15
  replace S0 := S0.below b1 S0.lt
  skip
  have tz1 := tz
  clear tz
  have v0 := S0.cell (i := 0) rfl
  have v1 := S0.cell (i := 1) rfl
  have v2 := S0.cell (i := 2) rfl
  have v3 := S0.cell (i := 3) rfl
  have v4 := S0.cell (i := 4) rfl
  have v5 := S0.cell (i := 5) rfl
  have v6 := S0.cell (i := 6) rfl
  have v7 := S0.cell (i := 7) rfl
  have v8 := S0.cell (i := 8) rfl
  have v9 := S0.cell (i := 9) rfl
  have v10 := S0.cell (i := 10) rfl
  have v11 := S0.cell (i := 11) rfl
  have v12 := S0.cell (i := 12) rfl
  have v13 := S0.cell (i := 13) rfl
  have v14 := S0.cell (i := 14) rfl
  have v15 := S0.cell (i := 15) rfl
  have tz : decide (k + (sumE PartD.wd d0 : Int) + (sumE HeldD.wd d1 : Int) + (n2 : Int) + (sumE List.length d3 : Int) + (n4 : Int) < 0) = false := by simp; omega
  go_wp2_with fail
  refine (heldCell_any _ _ _ _ _ _ _ _ _ _ (h4.below B1) (by omega) (by omega) (by omega)).mono ?_
  rintro e w2 ⟨rfl, b2⟩
  have B2 := ac B1 b2
  clear v0 v1 v2 v3 v4 v5 v6 v7 v8 v9 v10 v11 v12 v13 v14 v15
  replace S0 := S0.below b2 S0.lt
  skip
  have tz2 := tz
  clear tz
  have v0 := S0.cell (i := 0) rfl
  have v1 := S0.cell (i := 1) rfl
  have v2 := S0.cell (i := 2) rfl
  have v3 := S0.cell (i := 3) rfl
  have v4 := S0.cell (i := 4) rfl
  have v5 := S0.cell (i := 5) rfl
  have v6 := S0.cell (i := 6) rfl
  have v7 := S0.cell (i := 7) rfl
  have v8 := S0.cell (i := 8) rfl
  have v9 := S0.cell (i := 9) rfl
  have v10 := S0.cell (i := 10) rfl
  have v11 := S0.cell (i := 11) rfl
  have v12 := S0.cell (i := 12) rfl
  have v13 := S0.cell (i := 13) rfl
  have v14 := S0.cell (i := 14) rfl
  have v15 := S0.cell (i := 15) rfl
  have tz : decide (k + (sumE PartD.wd d0 : Int) + (sumE HeldD.wd d1 : Int) + (n2 : Int) + (sumE List.length d3 : Int) + (n4 : Int) + (n5 : Int) < 0) = false := by simp; omega
  go_wp2_with fail
  refine (heldByteS_any _ _ _ _ _ (h5.below B2) (by omega) (by omega) (by omega)).mono ?_
  rintro e w3 ⟨rfl, rfl⟩
  have B3 := B2
  clear v0 v1 v2 v3 v4 v5 v6 v7 v8 v9 v10 v11 v12 v13 v14 v15
  skip
  have tz3 := tz
  clear tz
  have v0 := S0.cell (i := 0) rfl
  have v1 := S0.cell (i := 1) rfl
  have v2 := S0.cell (i := 2) rfl
  have v3 := S0.cell (i := 3) rfl
  have v4 := S0.cell (i := 4) rfl
  have v5 := S0.cell (i := 5) rfl
  have v6 := S0.cell (i := 6) rfl
  have v7 := S0.cell (i := 7) rfl
  have v8 := S0.cell (i := 8) rfl
  have v9 := S0.cell (i := 9) rfl
  have v10 := S0.cell (i := 10) rfl
  have v11 := S0.cell (i := 11) rfl
  have v12 := S0.cell (i := 12) rfl
  have v13 := S0.cell (i := 13) rfl
  have v14 := S0.cell (i := 14) rfl
  have v15 := S0.cell (i := 15) rfl
  go_wp2
  go_ret
  exact ⟨rfl, B3⟩

end Go.Proofs.Ytgmbofoneeagiaa
