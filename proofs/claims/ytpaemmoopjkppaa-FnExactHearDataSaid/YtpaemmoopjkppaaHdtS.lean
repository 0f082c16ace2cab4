/- The laws' helpers for structs with lists in them. -/
import Derived.Test.YtpaemmoopjkppaaApsX
import Derived.Test.YtpaemmoopjkppaaRcvC
namespace Go.Proofs.Ytpaemmoopjkppaa
open Go.RowKit

set_option maxHeartbeats 1000000 in
theorem eqReceiverResult_any (x0 : Int) (x1 : Int) (A0 A0' : Option Addr) (n0 c0 c0' : Nat) (d0 : List HeldD) (A1 A1' : Option Addr) (n1 c1 c1' : Nat) (d1 : List Int) (A2 A2' : Option Addr) (n2 c2 c2' : Nat) (d2 : List (List Int)) (w : World) (h0 : Lst HeldD.cels 3 w A0 n0 d0) (h0' : Lst HeldD.cels 3 w A0' n0 d0) (h1 : Bs w A1 n1 d1) (h1' : Bs w A1' n1 d1) (h2 : Lst bytC 1 w A2 n2 d2) (h2' : Lst bytC 1 w A2' n2 d2) (hn0 : n0 ≤ 100000000) (hb0 : ∀ e ∈ d0, e.f1.length ≤ 100000000) (hn1 : n1 ≤ 100000000) (hn2 : n2 ≤ 100000000) (hb2 : ∀ e ∈ d2, e.length ≤ 100000000) :
    Calls Try.prog 12 #[.agg #[.int .i64 x0, .int .i64 x1, .slice A0 n0 c0, .slice A1 n1 c1, .slice A2 n2 c2], .agg #[.int .i64 x0, .int .i64 x1, .slice A0' n0 c0', .slice A1' n1 c1', .slice A2' n2 c2']] w fun e w' => e = .returned (.bool true) ∧ Below w.heap.size w w' := by
  have S0 := (Stc.new w 35 [.int .i64 x0, .int .i64 x1, .slice A0 n0 c0, .slice A1 n1 c1, .slice A2 n2 c2] _ rfl).alloc (.cells #[.int .i64 x0, .int .i64 x1, .slice A0' n0 c0', .slice A1' n1 c1', .slice A2' n2 c2'] 35)
  have S1 := Stc.new (w.alloc (.cells #[.int .i64 x0, .int .i64 x1, .slice A0 n0 c0, .slice A1 n1 c1, .slice A2 n2 c2] 35)) 35 [.int .i64 x0, .int .i64 x1, .slice A0' n0 c0', .slice A1' n1 c1', .slice A2' n2 c2'] _ rfl
  have B0 := ab (ab (Below.refl _ w) (.cells #[.int .i64 x0, .int .i64 x1, .slice A0 n0 c0, .slice A1 n1 c1, .slice A2 n2 c2] 35)) (.cells #[.int .i64 x0, .int .i64 x1, .slice A0' n0 c0', .slice A1' n1 c1', .slice A2' n2 c2'] 35)
  simp only [World.size_alloc] at S1
  go_enter Try.func12, Try.ntmps12
  have v0 := S0.cell (i := 0) rfl
  have u0 := S1.cell (i := 0) rfl
  have v1 := S0.cell (i := 1) rfl
  have u1 := S1.cell (i := 1) rfl
  have v2 := S0.cell (i := 2) rfl
  have u2 := S1.cell (i := 2) rfl
  have v3 := S0.cell (i := 3) rfl
  have u3 := S1.cell (i := 3) rfl
  have v4 := S0.cell (i := 4) rfl
  have u4 := S1.cell (i := 4) rfl
  go_wp2_with fail
  refine (eqReceiver_any _ _ _ _ _ _ _ _ _ _ _ _ _ _ (h0.below B0) (h0'.below B0) (h1.below B0) (h1'.below B0) hn0 hb0 hn1).mono ?_
  rintro e w1 ⟨rfl, b1⟩
  have B1 := ac B0 b1
  clear v0 u0 v1 u1 v2 u2 v3 u3 v4 u4
  replace S0 := S0.below b1 S0.lt
  replace S1 := S1.below b1 S1.lt
  have v0 := S0.cell (i := 0) rfl
  have u0 := S1.cell (i := 0) rfl
  have v1 := S0.cell (i := 1) rfl
  have u1 := S1.cell (i := 1) rfl
  have v2 := S0.cell (i := 2) rfl
  have u2 := S1.cell (i := 2) rfl
  have v3 := S0.cell (i := 3) rfl
  have u3 := S1.cell (i := 3) rfl
  have v4 := S0.cell (i := 4) rfl
  have u4 := S1.cell (i := 4) rfl
  go_wp2_with fail
  refine (eqByteSS_any _ _ _ _ _ _ _ (h2.below B1) (h2'.below B1) (by omega) (fun e he => by have := hb2 e he; omega)).mono ?_
  rintro e w2 ⟨rfl, b2⟩
  have B2 := ac B1 b2
  clear v0 u0 v1 u1 v2 u2 v3 u3 v4 u4
  replace S0 := S0.below b2 S0.lt
  replace S1 := S1.below b2 S1.lt
  have v0 := S0.cell (i := 0) rfl
  have u0 := S1.cell (i := 0) rfl
  have v1 := S0.cell (i := 1) rfl
  have u1 := S1.cell (i := 1) rfl
  have v2 := S0.cell (i := 2) rfl
  have u2 := S1.cell (i := 2) rfl
  have v3 := S0.cell (i := 3) rfl
  have u3 := S1.cell (i := 3) rfl
  have v4 := S0.cell (i := 4) rfl
  have u4 := S1.cell (i := 4) rfl
  go_wp2
  go_ret
  exact ⟨rfl, B2⟩

set_option maxHeartbeats 1000000 in
theorem markReceiverResult_any (x0 : Int) (x1 : Int) (A0 : Option Addr) (n0 c0 : Nat) (d0 : List HeldD) (A1 : Option Addr) (n1 c1 : Nat) (d1 : List Int) (A2 : Option Addr) (n2 c2 : Nat) (d2 : List (List Int)) (F : Nat → Prop) (k : Int) (w : World) (h : (Thing.sep (Thing.sep (tH A0 n0 d0) (tR A1 n1 d1)) (tB A2 n2 d2)) w F) (hF : ∀ b, F b → b < w.heap.size) (hk0 : 0 ≤ k) (hk1 : k ≤ 10000000) (hn0 : n0 ≤ 10000000) (hs0 : sumE HeldD.wd d0 ≤ 10000000) (hn1 : n1 ≤ 10000000) (hn2 : n2 ≤ 10000000) (hs2 : sumE List.length d2 ≤ 10000000) :
    Calls Try.prog 17 #[.agg #[.int .i64 x0, .int .i64 x1, .slice A0 n0 c0, .slice A1 n1 c1, .slice A2 n2 c2], .int .i64 k] w fun e w' => e = .returned (.int .i64 (k + (sumE HeldD.wd d0 : Int) + (n1 : Int) + (sumE List.length d2 : Int))) ∧ (Thing.sep (Thing.sep (tH A0 n0 (markE HeldD.mk_ HeldD.wd (k) d0)) (tR A1 n1 (marks (k + (sumE HeldD.wd d0 : Int)) n1))) (tB A2 n2 (markE mkB List.length (k + (sumE HeldD.wd d0 : Int) + (n1 : Int)) d2))) w' F ∧ Tu F w w' := by
  have S0 := Stc.new w 35 [.int .i64 x0, .int .i64 x1, .slice A0 n0 c0, .slice A1 n1 c1, .slice A2 n2 c2] _ rfl
  have B0 := ab (Below.refl _ w) (.cells #[.int .i64 x0, .int .i64 x1, .slice A0 n0 c0, .slice A1 n1 c1, .slice A2 n2 c2] 35)
  replace h := (((okH _ _ _).sep (okR _ _ _)).sep (okB _ _ _)).alloc h (.cells #[.int .i64 x0, .int .i64 x1, .slice A0 n0 c0, .slice A1 n1 c1, .slice A2 n2 c2] 35)
  obtain ⟨G0_h, H0_h, i0_h, j0_h, k0_h, p0, p1⟩ := h
  have TU0 := (Tu.ofBelow (F := F) B0)
  have nF : ¬ F w.heap.size := fun hh => by have := hF _ hh; omega
  go_enter Try.func17, Try.ntmps17
  have v0 := S0.cell (i := 0) rfl
  have v1 := S0.cell (i := 1) rfl
  have v2 := S0.cell (i := 2) rfl
  have v3 := S0.cell (i := 3) rfl
  have v4 := S0.cell (i := 4) rfl
  go_wp2_with fail
  refine (markReceiver_any _ _ _ _ _ _ _ _ _ _ _ _ p0 (fun b hb => by have := hF b ((fun b hb => (i0_h b hb)) b hb); have := TU0.size; omega) (by omega) (by omega) (by omega) (by omega) (by omega)).mono ?_
  rintro e w1 ⟨rfl, p0, tt⟩
  clear v0 v1 v2 v3 v4
  replace p1 := Thing.Ok.tu (okB _ _ _) p1 tt (fun b hj hi => (fun b hi hj => k0_h b hi hj) b hi hj)
  have tF := tt.wider (G := F) (fun b hb => (i0_h b hb))
  have TU1 := TU0.trans tF
  replace S0 := S0.tu tF nF
  clear tt tF
  have v0 := S0.cell (i := 0) rfl
  have v1 := S0.cell (i := 1) rfl
  have v2 := S0.cell (i := 2) rfl
  have v3 := S0.cell (i := 3) rfl
  have v4 := S0.cell (i := 4) rfl
  go_wp2_with fail
  refine (markByteSS_any _ _ _ _ _ _ _ p1 (by omega) (by omega) (by omega) (by omega)).mono ?_
  rintro e w2 ⟨rfl, p1, tt⟩
  clear v0 v1 v2 v3 v4
  replace p0 := Thing.Ok.tu ((okH _ _ _).sep (okR _ _ _)) p0 tt (fun b hi hj => (fun b hi hj => k0_h b hi hj) b hi hj)
  have tF := tt.wider (G := F) (fun b hb => (j0_h b hb))
  have TU2 := TU1.trans tF
  replace S0 := S0.tu tF nF
  clear tt tF
  have v0 := S0.cell (i := 0) rfl
  have v1 := S0.cell (i := 1) rfl
  have v2 := S0.cell (i := 2) rfl
  have v3 := S0.cell (i := 3) rfl
  have v4 := S0.cell (i := 4) rfl
  go_wp2
  go_ret
  exact ⟨rfl, ⟨G0_h, H0_h, i0_h, j0_h, k0_h, p0, p1⟩, TU2⟩

set_option maxHeartbeats 1000000 in
theorem heldReceiverResult_any (x0 : Int) (x1 : Int) (A0 : Option Addr) (n0 c0 : Nat) (d0 : List HeldD) (A1 : Option Addr) (n1 c1 : Nat) (A2 : Option Addr) (n2 c2 : Nat) (d2 : List (List Int)) (k : Int) (w : World) (h0 : Lst HeldD.cels 3 w A0 n0 (markE HeldD.mk_ HeldD.wd (k) d0)) (h1 : Bs w A1 n1 (marks (k + (sumE HeldD.wd d0 : Int)) n1)) (h2 : Lst bytC 1 w A2 n2 (markE mkB List.length (k + (sumE HeldD.wd d0 : Int) + (n1 : Int)) d2)) (hk0 : 0 ≤ k) (hk1 : k ≤ 10000000) (hn0 : n0 ≤ 10000000) (hs0 : sumE HeldD.wd d0 ≤ 10000000) (hn1 : n1 ≤ 10000000) (hn2 : n2 ≤ 10000000) (hs2 : sumE List.length d2 ≤ 10000000) :
    Calls Try.prog 18 #[.agg #[.int .i64 x0, .int .i64 x1, .slice A0 n0 c0, .slice A1 n1 c1, .slice A2 n2 c2], .int .i64 k] w fun e w' => e = .returned (.int .i64 (k + (sumE HeldD.wd d0 : Int) + (n1 : Int) + (sumE List.length d2 : Int))) ∧ Below w.heap.size w w' := by
  have S0 := Stc.new w 35 [.int .i64 x0, .int .i64 x1, .slice A0 n0 c0, .slice A1 n1 c1, .slice A2 n2 c2] _ rfl
  have B0 := ab (Below.refl _ w) (.cells #[.int .i64 x0, .int .i64 x1, .slice A0 n0 c0, .slice A1 n1 c1, .slice A2 n2 c2] 35)
  go_enter Try.func18, Try.ntmps18
  have v0 := S0.cell (i := 0) rfl
  have v1 := S0.cell (i := 1) rfl
  have v2 := S0.cell (i := 2) rfl
  have v3 := S0.cell (i := 3) rfl
  have v4 := S0.cell (i := 4) rfl
  have tz : decide (k + (sumE HeldD.wd d0 : Int) + (n1 : Int) < 0) = false := by simp; omega
  go_wp2_with fail
  refine (heldReceiver_any _ _ _ _ _ _ _ _ _ _ (h0.below B0) (h1.below B0) (by omega) (by omega) (by omega) (by omega) (by omega)).mono ?_
  rintro e w1 ⟨rfl, b1⟩
  have B1 := ac B0 b1
  clear v0 v1 v2 v3 v4
  replace S0 := S0.below b1 S0.lt
  skip
  have tz1 := tz
  clear tz
  have v0 := S0.cell (i := 0) rfl
  have v1 := S0.cell (i := 1) rfl
  have v2 := S0.cell (i := 2) rfl
  have v3 := S0.cell (i := 3) rfl
  have v4 := S0.cell (i := 4) rfl
  have tz : decide (k + (sumE HeldD.wd d0 : Int) + (n1 : Int) + (sumE List.length d2 : Int) < 0) = false := by simp; omega
  go_wp2_with fail
  refine (heldByteSS_any _ _ _ _ _ _ (h2.below B1) (by omega) (by omega) (by omega) (by omega)).mono ?_
  rintro e w2 ⟨rfl, b2⟩
  have B2 := ac B1 b2
  clear v0 v1 v2 v3 v4
  replace S0 := S0.below b2 S0.lt
  skip
  have tz2 := tz
  clear tz
  have v0 := S0.cell (i := 0) rfl
  have v1 := S0.cell (i := 1) rfl
  have v2 := S0.cell (i := 2) rfl
  have v3 := S0.cell (i := 3) rfl
  have v4 := S0.cell (i := 4) rfl
  go_wp2
  go_ret
  exact ⟨rfl, B2⟩

end Go.Proofs.Ytpaemmoopjkppaa
