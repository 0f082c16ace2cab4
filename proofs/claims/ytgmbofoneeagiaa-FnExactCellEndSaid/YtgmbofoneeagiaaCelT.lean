import Derived.Test.YtgmbofoneeagiaaThgC
import Derived.Test.YtgmbofoneeagiaaSymB
namespace Go.Proofs.Ytgmbofoneeagiaa
open Go.RowKit

theorem markCellT_any (a b c d : Int) (v : Bool) (A : Option Addr) (n f : Nat) (l : List Int) (F : Nat → Prop) (k : Int) (w : World) (h : (tR A n l) w F) (hk0 : 0 ≤ k) (hk1 : k ≤ 140737488351232) (hn : n ≤ 140737488351232) :
    Calls Try.prog 69 #[.agg #[.int .i64 a, .int .i64 b, .int .i64 c, .int .i64 d, .bool v, .slice A n f], .int .i64 k] w fun e w' => e = .returned (.int .i64 (k + (n : Int))) ∧ (tR A n (marks k n)) w' F ∧ Tu F w w' := by
  have h1 : (tR A n l) (w.alloc (.cells #[.int .i64 a, .int .i64 b, .int .i64 c, .int .i64 d, .bool v, .slice A n f] 67)) F := (okR _ _ _).alloc h _
  go_enter Try.func69, Try.ntmps69
  go_wp2_with fail
  refine (markByteS_any _ _ _ _ _ _ _ (Bo.ow0 h1) hk0 hk1 hn).mono ?_
  rintro e w' ⟨rfl, ho, hon⟩
  go_wp2
  go_returns
  exact ⟨rfl, Bo.remark h1 ho, (Tu.ofBelow (ab (Below.refl _ _) _)).trans (Tu.ofOnly hon (Bo.inside h1))⟩
end Go.Proofs.Ytgmbofoneeagiaa
