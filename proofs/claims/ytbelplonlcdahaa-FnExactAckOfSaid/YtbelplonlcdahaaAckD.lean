/- The laws' helpers for structs with lists in them. -/
import Derived.Test.YtbelplonlcdahaaThgC
namespace Go.Proofs.Ytbelplonlcdahaa
open Go.RowKit

set_option maxHeartbeats 1000000 in
theorem eqAckResult_any (x0 : Int) (x1 : Int) (x2 : Int)  (w : World)   :
    Calls Try.prog 68 #[.agg #[.int .i64 x0, .int .i64 x1, .int .i64 x2], .agg #[.int .i64 x0, .int .i64 x1, .int .i64 x2]] w fun e w' => e = .returned (.bool true) ∧ Below w.heap.size w w' := by
  have S0 := (Stc.new w 56 [.int .i64 x0, .int .i64 x1, .int .i64 x2] _ rfl).alloc (.cells #[.int .i64 x0, .int .i64 x1, .int .i64 x2] 56)
  have S1 := Stc.new (w.alloc (.cells #[.int .i64 x0, .int .i64 x1, .int .i64 x2] 56)) 56 [.int .i64 x0, .int .i64 x1, .int .i64 x2] _ rfl
  have B0 := ab (ab (Below.refl _ w) (.cells #[.int .i64 x0, .int .i64 x1, .int .i64 x2] 56)) (.cells #[.int .i64 x0, .int .i64 x1, .int .i64 x2] 56)
  simp only [World.size_alloc] at S1
  go_enter Try.func68, Try.ntmps68
  have v0 := S0.cell (i := 0) rfl
  have u0 := S1.cell (i := 0) rfl
  have v1 := S0.cell (i := 1) rfl
  have u1 := S1.cell (i := 1) rfl
  have v2 := S0.cell (i := 2) rfl
  have u2 := S1.cell (i := 2) rfl
  go_wp2
  go_ret
  exact ⟨rfl, B0⟩

end Go.Proofs.Ytbelplonlcdahaa
