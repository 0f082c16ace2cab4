/- The laws' helpers for structs with lists in them. -/
import Derived.Test.YtpaemmoopjkppaaEvnT
namespace Go.Proofs.Ytpaemmoopjkppaa
open Go.RowKit

set_option maxHeartbeats 1000000 in
theorem eqMutedResult_any (x0 : Int) (A0 A0' : Option Addr) (n0 c0 c0' : Nat) (d0 : List EventD) (w : World) (h0 : Lst EventD.cels 6 w A0 n0 d0) (h0' : Lst EventD.cels 6 w A0' n0 d0) (hn0 : n0 ≤ 100000000) (hb0 : ∀ e ∈ d0, e.f2.length ≤ 100000000) :
    Calls Try.prog 23 #[.agg #[.int .i64 x0, .slice A0 n0 c0], .agg #[.int .i64 x0, .slice A0' n0 c0']] w fun e w' => e = .returned (.bool true) ∧ Below w.heap.size w w' := by
  have S0 := (Stc.new w 51 [.int .i64 x0, .slice A0 n0 c0] _ rfl).alloc (.cells #[.int .i64 x0, .slice A0' n0 c0'] 51)
  have S1 := Stc.new (w.alloc (.cells #[.int .i64 x0, .slice A0 n0 c0] 51)) 51 [.int .i64 x0, .slice A0' n0 c0'] _ rfl
  have B0 := ab (ab (Below.refl _ w) (.cells #[.int .i64 x0, .slice A0 n0 c0] 51)) (.cells #[.int .i64 x0, .slice A0' n0 c0'] 51)
  simp only [World.size_alloc] at S1
  go_enter Try.func23, Try.ntmps23
  have v0 := S0.cell (i := 0) rfl
  have u0 := S1.cell (i := 0) rfl
  have v1 := S0.cell (i := 1) rfl
  have u1 := S1.cell (i := 1) rfl
  go_wp2_with fail
  refine (eqEventS_any _ _ _ _ _ _ _ (h0.below B0) (h0'.below B0) (by omega) (fun e he => by have := hb0 e he; omega)).mono ?_
  rintro e w1 ⟨rfl, b1⟩
  have B1 := ac B0 b1
  clear v0 u0 v1 u1
  replace S0 := S0.below b1 S0.lt
  replace S1 := S1.below b1 S1.lt
  have v0 := S0.cell (i := 0) rfl
  have u0 := S1.cell (i := 0) rfl
  have v1 := S0.cell (i := 1) rfl
  have u1 := S1.cell (i := 1) rfl
  go_wp2
  go_ret
  exact ⟨rfl, B1⟩

set_option maxHeartbeats 1000000 in
theorem markMutedResult_any (x0 : Int) (A0 : Option Addr) (n0 c0 : Nat) (d0 : List EventD) (F : Nat → Prop) (k : Int) (w : World) (h : (tE A0 n0 d0) w F) (hF : ∀ b, F b → b < w.heap.size) (hk0 : 0 ≤ k) (hk1 : k ≤ 10000000) (hn0 : n0 ≤ 10000000) (hs0 : sumE EventD.wd d0 ≤ 10000000) :
    Calls Try.prog 26 #[.agg #[.int .i64 x0, .slice A0 n0 c0], .int .i64 k] w fun e w' => e = .returned (.int .i64 (k + (sumE EventD.wd d0 : Int))) ∧ (tE A0 n0 (markE EventD.mk_ EventD.wd (k) d0)) w' F ∧ Tu F w w' := by
  have S0 := Stc.new w 51 [.int .i64 x0, .slice A0 n0 c0] _ rfl
  have B0 := ab (Below.refl _ w) (.cells #[.int .i64 x0, .slice A0 n0 c0] 51)
  replace h := (okE _ _ _).alloc h (.cells #[.int .i64 x0, .slice A0 n0 c0] 51)
  have p0 := h
  have TU0 := (Tu.ofBelow (F := F) B0)
  have nF : ¬ F w.heap.size := fun hh => by have := hF _ hh; omega
  go_enter Try.func26, Try.ntmps26
  have v0 := S0.cell (i := 0) rfl
  have v1 := S0.cell (i := 1) rfl
  go_wp2_with fail
  refine (markEventS_any _ _ _ _ _ _ _ p0 (by omega) (by omega) (by omega) (by omega)).mono ?_
  rintro e w1 ⟨rfl, p0, tt⟩
  clear v0 v1
  have tF := tt.wider (G := F) (fun b hb => hb)
  have TU1 := TU0.trans tF
  replace S0 := S0.tu tF nF
  clear tt tF
  have v0 := S0.cell (i := 0) rfl
  have v1 := S0.cell (i := 1) rfl
  go_wp2
  go_ret
  exact ⟨rfl, p0, TU1⟩

set_option maxHeartbeats 1000000 in
theorem heldMutedResult_any (x0 : Int) (A0 : Option Addr) (n0 c0 : Nat) (d0 : List EventD) (k : Int) (w : World) (h0 : Lst EventD.cels 6 w A0 n0 (markE EventD.mk_ EventD.wd (k) d0)) (hk0 : 0 ≤ k) (hk1 : k ≤ 10000000) (hn0 : n0 ≤ 10000000) (hs0 : sumE EventD.wd d0 ≤ 10000000) :
    Calls Try.prog 27 #[.agg #[.int .i64 x0, .slice A0 n0 c0], .int .i64 k] w fun e w' => e = .returned (.int .i64 (k + (sumE EventD.wd d0 : Int))) ∧ Below w.heap.size w w' := by
  have S0 := Stc.new w 51 [.int .i64 x0, .slice A0 n0 c0] _ rfl
  have B0 := ab (Below.refl _ w) (.cells #[.int .i64 x0, .slice A0 n0 c0] 51)
  go_enter Try.func27, Try.ntmps27
  have v0 := S0.cell (i := 0) rfl
  have v1 := S0.cell (i := 1) rfl
  have tz : decide (k + (sumE EventD.wd d0 : Int) < 0) = false := by simp; omega
  go_wp2_with fail
  refine (heldEventS_any _ _ _ _ _ _ (h0.below B0) (by omega) (by omega) (by omega) (by omega)).mono ?_
  rintro e w1 ⟨rfl, b1⟩
  have B1 := ac B0 b1
  clear v0 v1
  replace S0 := S0.below b1 S0.lt
  skip
  have tz1 := tz
  clear tz
  have v0 := S0.cell (i := 0) rfl
  have v1 := S0.cell (i := 1) rfl
  go_wp2
  go_ret
  exact ⟨rfl, B1⟩

end Go.Proofs.Ytpaemmoopjkppaa
