/- The laws' helpers for structs with lists in them. -/
import Derived.Test.YtbelplonlcdahaaSndC
import Derived.Test.YtbelplonlcdahaaCelT
namespace Go.Proofs.Ytbelplonlcdahaa
open Go.RowKit

set_option maxHeartbeats 1000000 in
theorem eqNextResult_any (x0 : Int) (x1 : Int) (x3 : Int) (x4 : Int) (x5 : Int) (x6 : Int) (x7 : Bool) (A0 A0' : Option Addr) (n0 c0 c0' : Nat) (d0 : List PartD) (A1 A1' : Option Addr) (n1 c1 c1' : Nat) (d1 : List Int) (w : World) (h0 : Lst PartD.cels 4 w A0 n0 d0) (h0' : Lst PartD.cels 4 w A0' n0 d0) (h1 : Bs w A1 n1 d1) (h1' : Bs w A1' n1 d1) (hn0 : n0 ≤ 100000000) (hb0 : ∀ e ∈ d0, e.f0.length ≤ 100000000) (hn1 : n1 ≤ 100000000) :
    Calls Try.prog 54 #[.agg #[.int .i64 x0, .int .i64 x1, .slice A0 n0 c0, .int .i64 x3, .int .i64 x4, .int .i64 x5, .int .i64 x6, .bool x7, .slice A1 n1 c1], .agg #[.int .i64 x0, .int .i64 x1, .slice A0' n0 c0', .int .i64 x3, .int .i64 x4, .int .i64 x5, .int .i64 x6, .bool x7, .slice A1' n1 c1']] w fun e w' => e = .returned (.bool true) ∧ Below w.heap.size w w' := by
  have S0 := (Stc.new w 37 [.int .i64 x0, .int .i64 x1, .slice A0 n0 c0, .int .i64 x3, .int .i64 x4, .int .i64 x5, .int .i64 x6, .bool x7, .slice A1 n1 c1] _ rfl).alloc (.cells #[.int .i64 x0, .int .i64 x1, .slice A0' n0 c0', .int .i64 x3, .int .i64 x4, .int .i64 x5, .int .i64 x6, .bool x7, .slice A1' n1 c1'] 37)
  have S1 := Stc.new (w.alloc (.cells #[.int .i64 x0, .int .i64 x1, .slice A0 n0 c0, .int .i64 x3, .int .i64 x4, .int .i64 x5, .int .i64 x6, .bool x7, .slice A1 n1 c1] 37)) 37 [.int .i64 x0, .int .i64 x1, .slice A0' n0 c0', .int .i64 x3, .int .i64 x4, .int .i64 x5, .int .i64 x6, .bool x7, .slice A1' n1 c1'] _ rfl
  have B0 := ab (ab (Below.refl _ w) (.cells #[.int .i64 x0, .int .i64 x1, .slice A0 n0 c0, .int .i64 x3, .int .i64 x4, .int .i64 x5, .int .i64 x6, .bool x7, .slice A1 n1 c1] 37)) (.cells #[.int .i64 x0, .int .i64 x1, .slice A0' n0 c0', .int .i64 x3, .int .i64 x4, .int .i64 x5, .int .i64 x6, .bool x7, .slice A1' n1 c1'] 37)
  simp only [World.size_alloc] at S1
  go_enter Try.func54, Try.ntmps54
  have v0 := S0.cell (i := 0) rfl
  have u0 := S1.cell (i := 0) rfl
  have v1 := S0.cell (i := 1) rfl
  have u1 := S1.cell (i := 1) rfl
  have v2 := S0.cell (i := 2) rfl
  have u2 := S1.cell (i := 2) rfl
  have v3 := S0.cell (i := 3) rfl
  have u3 := S1.cell (i := 3) rfl
  have v4 := S0.cell (i := 4) rfl
  have u4 := S1.cell (i := 4) rfl
  have v5 := S0.cell (i := 5) rfl
  have u5 := S1.cell (i := 5) rfl
  have v6 := S0.cell (i := 6) rfl
  have u6 := S1.cell (i := 6) rfl
  have v7 := S0.cell (i := 7) rfl
  have u7 := S1.cell (i := 7) rfl
  have v8 := S0.cell (i := 8) rfl
  have u8 := S1.cell (i := 8) rfl
  go_wp2_with fail
  refine (eqSender_any _ _ _ _ _ _ _ _ (h0.below B0) (h0'.below B0) hn0 hb0).mono ?_
  rintro e w1 ⟨rfl, b1⟩
  have B1 := ac B0 b1
  clear v0 u0 v1 u1 v2 u2 v3 u3 v4 u4 v5 u5 v6 u6 v7 u7 v8 u8
  replace S0 := S0.below b1 S0.lt
  replace S1 := S1.below b1 S1.lt
  have v0 := S0.cell (i := 0) rfl
  have u0 := S1.cell (i := 0) rfl
  have v1 := S0.cell (i := 1) rfl
  have u1 := S1.cell (i := 1) rfl
  have v2 := S0.cell (i := 2) rfl
  have u2 := S1.cell (i := 2) rfl
  have v3 := S0.cell (i := 3) rfl
  have u3 := S1.cell (i := 3) rfl
  have v4 := S0.cell (i := 4) rfl
  have u4 := S1.cell (i := 4) rfl
  have v5 := S0.cell (i := 5) rfl
  have u5 := S1.cell (i := 5) rfl
  have v6 := S0.cell (i := 6) rfl
  have u6 := S1.cell (i := 6) rfl
  have v7 := S0.cell (i := 7) rfl
  have u7 := S1.cell (i := 7) rfl
  have v8 := S0.cell (i := 8) rfl
  have u8 := S1.cell (i := 8) rfl
  go_wp2_with fail
  refine (eqCell_any _ _ _ _ _ _ _ _ _ _ _ _ (h1.below B1) (h1'.below B1) (by omega)).mono ?_
  rintro e w2 ⟨rfl, b2⟩
  have B2 := ac B1 b2
  clear v0 u0 v1 u1 v2 u2 v3 u3 v4 u4 v5 u5 v6 u6 v7 u7 v8 u8
  replace S0 := S0.below b2 S0.lt
  replace S1 := S1.below b2 S1.lt
  have v0 := S0.cell (i := 0) rfl
  have u0 := S1.cell (i := 0) rfl
  have v1 := S0.cell (i := 1) rfl
  have u1 := S1.cell (i := 1) rfl
  have v2 := S0.cell (i := 2) rfl
  have u2 := S1.cell (i := 2) rfl
  have v3 := S0.cell (i := 3) rfl
  have u3 := S1.cell (i := 3) rfl
  have v4 := S0.cell (i := 4) rfl
  have u4 := S1.cell (i := 4) rfl
  have v5 := S0.cell (i := 5) rfl
  have u5 := S1.cell (i := 5) rfl
  have v6 := S0.cell (i := 6) rfl
  have u6 := S1.cell (i := 6) rfl
  have v7 := S0.cell (i := 7) rfl
  have u7 := S1.cell (i := 7) rfl
  have v8 := S0.cell (i := 8) rfl
  have u8 := S1.cell (i := 8) rfl
  go_wp2
  go_ret
  exact ⟨rfl, B2⟩

set_option maxHeartbeats 1000000 in
theorem markNextResult_any (x0 : Int) (x1 : Int) (x3 : Int) (x4 : Int) (x5 : Int) (x6 : Int) (x7 : Bool) (A0 : Option Addr) (n0 c0 : Nat) (d0 : List PartD) (A1 : Option Addr) (n1 c1 : Nat) (d1 : List Int) (F : Nat → Prop) (k : Int) (w : World) (h : (Thing.sep (tP A0 n0 d0) (tR A1 n1 d1)) w F) (hF : ∀ b, F b → b < w.heap.size) (hk0 : 0 ≤ k) (hk1 : k ≤ 10000000) (hn0 : n0 ≤ 10000000) (hs0 : sumE PartD.wd d0 ≤ 10000000) (hn1 : n1 ≤ 10000000) :
    Calls Try.prog 55 #[.agg #[.int .i64 x0, .int .i64 x1, .slice A0 n0 c0, .int .i64 x3, .int .i64 x4, .int .i64 x5, .int .i64 x6, .bool x7, .slice A1 n1 c1], .int .i64 k] w fun e w' => e = .returned (.int .i64 (k + (sumE PartD.wd d0 : Int) + (n1 : Int))) ∧ (Thing.sep (tP A0 n0 (markE PartD.mk_ PartD.wd (k) d0)) (tR A1 n1 (marks (k + (sumE PartD.wd d0 : Int)) n1))) w' F ∧ Tu F w w' := by
  have S0 := Stc.new w 37 [.int .i64 x0, .int .i64 x1, .slice A0 n0 c0, .int .i64 x3, .int .i64 x4, .int .i64 x5, .int .i64 x6, .bool x7, .slice A1 n1 c1] _ rfl
  have B0 := ab (Below.refl _ w) (.cells #[.int .i64 x0, .int .i64 x1, .slice A0 n0 c0, .int .i64 x3, .int .i64 x4, .int .i64 x5, .int .i64 x6, .bool x7, .slice A1 n1 c1] 37)
  replace h := ((okP _ _ _).sep (okR _ _ _)).alloc h (.cells #[.int .i64 x0, .int .i64 x1, .slice A0 n0 c0, .int .i64 x3, .int .i64 x4, .int .i64 x5, .int .i64 x6, .bool x7, .slice A1 n1 c1] 37)
  obtain ⟨G0_h, H0_h, i0_h, j0_h, k0_h, p0, p1⟩ := h
  have TU0 := (Tu.ofBelow (F := F) B0)
  have nF : ¬ F w.heap.size := fun hh => by have := hF _ hh; omega
  go_enter Try.func55, Try.ntmps55
  have v0 := S0.cell (i := 0) rfl
  have v1 := S0.cell (i := 1) rfl
  have v2 := S0.cell (i := 2) rfl
  have v3 := S0.cell (i := 3) rfl
  have v4 := S0.cell (i := 4) rfl
  have v5 := S0.cell (i := 5) rfl
  have v6 := S0.cell (i := 6) rfl
  have v7 := S0.cell (i := 7) rfl
  have v8 := S0.cell (i := 8) rfl
  go_wp2_with fail
  refine (markSender_any _ _ _ _ _ _ _ _ p0 (fun b hb => by have := hF b ((fun b hb => (i0_h b hb)) b hb); have := TU0.size; omega) (by omega) (by omega) (by omega) (by omega)).mono ?_
  rintro e w1 ⟨rfl, p0, tt⟩
  clear v0 v1 v2 v3 v4 v5 v6 v7 v8
  replace p1 := Thing.Ok.tu (okR _ _ _) p1 tt (fun b hj hi => (fun b hi hj => k0_h b hi hj) b hi hj)
  have tF := tt.wider (G := F) (fun b hb => (i0_h b hb))
  have TU1 := TU0.trans tF
  replace S0 := S0.tu tF nF
  clear tt tF
  have v0 := S0.cell (i := 0) rfl
  have v1 := S0.cell (i := 1) rfl
  have v2 := S0.cell (i := 2) rfl
  have v3 := S0.cell (i := 3) rfl
  have v4 := S0.cell (i := 4) rfl
  have v5 := S0.cell (i := 5) rfl
  have v6 := S0.cell (i := 6) rfl
  have v7 := S0.cell (i := 7) rfl
  have v8 := S0.cell (i := 8) rfl
  go_wp2_with fail
  refine (markCellT_any _ _ _ _ _ _ _ _ _ _ _ _ p1 (by omega) (by omega) (by omega)).mono ?_
  rintro e w2 ⟨rfl, p1, tt⟩
  clear v0 v1 v2 v3 v4 v5 v6 v7 v8
  replace p0 := Thing.Ok.tu (okP _ _ _) p0 tt (fun b hi hj => (fun b hi hj => k0_h b hi hj) b hi hj)
  have tF := tt.wider (G := F) (fun b hb => (j0_h b hb))
  have TU2 := TU1.trans tF
  replace S0 := S0.tu tF nF
  clear tt tF
  have v0 := S0.cell (i := 0) rfl
  have v1 := S0.cell (i := 1) rfl
  have v2 := S0.cell (i := 2) rfl
  have v3 := S0.cell (i := 3) rfl
  have v4 := S0.cell (i := 4) rfl
  have v5 := S0.cell (i := 5) rfl
  have v6 := S0.cell (i := 6) rfl
  have v7 := S0.cell (i := 7) rfl
  have v8 := S0.cell (i := 8) rfl
  go_wp2
  go_ret
  exact ⟨rfl, ⟨G0_h, H0_h, i0_h, j0_h, k0_h, p0, p1⟩, TU2⟩

set_option maxHeartbeats 1000000 in
theorem heldNextResult_any (x0 : Int) (x1 : Int) (x3 : Int) (x4 : Int) (x5 : Int) (x6 : Int) (x7 : Bool) (A0 : Option Addr) (n0 c0 : Nat) (d0 : List PartD) (A1 : Option Addr) (n1 c1 : Nat) (k : Int) (w : World) (h0 : Lst PartD.cels 4 w A0 n0 (markE PartD.mk_ PartD.wd (k) d0)) (h1 : Bs w A1 n1 (marks (k + (sumE PartD.wd d0 : Int)) n1)) (hk0 : 0 ≤ k) (hk1 : k ≤ 10000000) (hn0 : n0 ≤ 10000000) (hs0 : sumE PartD.wd d0 ≤ 10000000) (hn1 : n1 ≤ 10000000) :
    Calls Try.prog 56 #[.agg #[.int .i64 x0, .int .i64 x1, .slice A0 n0 c0, .int .i64 x3, .int .i64 x4, .int .i64 x5, .int .i64 x6, .bool x7, .slice A1 n1 c1], .int .i64 k] w fun e w' => e = .returned (.int .i64 (k + (sumE PartD.wd d0 : Int) + (n1 : Int))) ∧ Below w.heap.size w w' := by
  have S0 := Stc.new w 37 [.int .i64 x0, .int .i64 x1, .slice A0 n0 c0, .int .i64 x3, .int .i64 x4, .int .i64 x5, .int .i64 x6, .bool x7, .slice A1 n1 c1] _ rfl
  have B0 := ab (Below.refl _ w) (.cells #[.int .i64 x0, .int .i64 x1, .slice A0 n0 c0, .int .i64 x3, .int .i64 x4, .int .i64 x5, .int .i64 x6, .bool x7, .slice A1 n1 c1] 37)
  go_enter Try.func56, Try.ntmps56
  have v0 := S0.cell (i := 0) rfl
  have v1 := S0.cell (i := 1) rfl
  have v2 := S0.cell (i := 2) rfl
  have v3 := S0.cell (i := 3) rfl
  have v4 := S0.cell (i := 4) rfl
  have v5 := S0.cell (i := 5) rfl
  have v6 := S0.cell (i := 6) rfl
  have v7 := S0.cell (i := 7) rfl
  have v8 := S0.cell (i := 8) rfl
  have tz : decide (k + (sumE PartD.wd d0 : Int) < 0) = false := by simp; omega
  go_wp2_with fail
  refine (heldSender_any _ _ _ _ _ _ _ (h0.below B0) (by omega) (by omega) (by omega) (by omega)).mono ?_
  rintro e w1 ⟨rfl, b1⟩
  have B1 := ac B0 b1
  clear v0 v1 v2 v3 v4 v5 v6 v7 v8
  replace S0 := S0.below b1 S0.lt
  skip
  have tz1 := tz
  clear tz
  have v0 := S0.cell (i := 0) rfl
  have v1 := S0.cell (i := 1) rfl
  have v2 := S0.cell (i := 2) rfl
  have v3 := S0.cell (i := 3) rfl
  have v4 := S0.cell (i := 4) rfl
  have v5 := S0.cell (i := 5) rfl
  have v6 := S0.cell (i := 6) rfl
  have v7 := S0.cell (i := 7) rfl
  have v8 := S0.cell (i := 8) rfl
  have tz : decide (k + (sumE PartD.wd d0 : Int) + (n1 : Int) < 0) = false := by simp; omega
  go_wp2_with fail
  refine (heldCell_any _ _ _ _ _ _ _ _ _ _ (h1.below B1) (by omega) (by omega) (by omega)).mono ?_
  rintro e w2 ⟨rfl, b2⟩
  have B2 := ac B1 b2
  clear v0 v1 v2 v3 v4 v5 v6 v7 v8
  replace S0 := S0.below b2 S0.lt
  skip
  have tz2 := tz
  clear tz
  have v0 := S0.cell (i := 0) rfl
  have v1 := S0.cell (i := 1) rfl
  have v2 := S0.cell (i := 2) rfl
  have v3 := S0.cell (i := 3) rfl
  have v4 := S0.cell (i := 4) rfl
  have v5 := S0.cell (i := 5) rfl
  have v6 := S0.cell (i := 6) rfl
  have v7 := S0.cell (i := 7) rfl
  have v8 := S0.cell (i := 8) rfl
  go_wp2
  go_ret
  exact ⟨rfl, B2⟩

end Go.Proofs.Ytbelplonlcdahaa
