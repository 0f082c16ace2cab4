/- The laws' helpers for a state of a handshake. -/
import Derived.Test.YtpoiecdifhkegaaRowsC
namespace Go.Proofs.Ytpoiecdifhkegaa
open Go.RowKit

theorem szByteS_any (A : Option Addr) (n c : Nat) (x : Int) (w : World) (h0 : 0 ≤ x) (h1 : x ≤ 1048576) (hn : n ≤ 9223372036854775807) :
    Calls Try.prog 54 #[.slice A n c, .int .i64 x] w fun e w' => e = .returned (.int .i64 (if x - (n : Int) < 0 then -1 else x - (n : Int))) ∧ w' = w := by
  by_cases hx : x - (n : Int) < 0
  · rw [if_pos hx]
    go_enter Try.func54, Try.ntmps54
    go_wp2
    go_ret
    exact ⟨rfl, rfl⟩
  · rw [if_neg hx]
    go_enter Try.func54, Try.ntmps54
    go_wp2
    go_ret
    exact ⟨rfl, rfl⟩

/-- what is left of a bound behind three runs -/
def leftS (n0 n1 n2 : Nat) : Int := if 1048576 - (n0 : Int) < 0 then -1 else if 1048576 - (n0 : Int) - n1 < 0 then -1 else if 1048576 - (n0 : Int) - n1 - n2 < 0 then -1 else 1048576 - (n0 : Int) - n1 - n2

/-- what is left when three runs fit -/
theorem leftS_fit {n m q : Nat} (h : n + m + q ≤ 1048576) : leftS n m q = 1048576 - (n : Int) - m - q := by unfold leftS; rw [if_neg (by omega), if_neg (by omega), if_neg (by omega)]
theorem leftS_not {n m q : Nat} (h : ¬ n + m + q ≤ 1048576) : leftS n m q = -1 := by unfold leftS; repeat' split <;> first | rfl | omega

end Go.Proofs.Ytpoiecdifhkegaa
