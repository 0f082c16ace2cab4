import Derived.Test.YtpaemmoopjkppaaLstX
import Derived.Test.YtpaemmoopjkppaaSymB
namespace Go.Proofs.Ytpaemmoopjkppaa
open Go.RowKit

theorem markCellT_any (a b c d : Int) (v : Bool) (A : Option Addr) (n f : Nat) (l : List Int) (F : Nat → Prop) (k : Int) (w : World) (h : (tR A n l) w F) (hk0 : 0 ≤ k) (hk1 : k ≤ 140737488351232) (hn : n ≤ 140737488351232) :
    Calls Try.prog 16 #[.agg #[.int .i64 a, .int .i64 b, .int .i64 c, .int .i64 d, .bool v, .slice A n f], .int .i64 k] w fun e w' => e = .returned (.int .i64 (k + (n : Int))) ∧ (tR A n (marks k n)) w' F ∧ Tu F w w' := by
  have h1 : (tR A n l) (w.alloc (.cells #[.int .i64 a, .int .i64 b, .int .i64 c, .int .i64 d, .bool v, .slice A n f] 38)) F := (okR _ _ _).alloc h _
  go_enter Try.func16, Try.ntmps16
  go_wp2_with fail
  refine (markByteS_any _ _ _ _ _ _ _ (Bo.ow0 h1) hk0 hk1 hn).mono ?_
  rintro e w' ⟨rfl, ho, hon⟩
  go_wp2
  go_returns
  exact ⟨rfl, Bo.remark h1 ho, (Tu.ofBelow (ab (Below.refl _ _) _)).trans (Tu.ofOnly hon (Bo.inside h1))⟩
def totCell (n : Nat) : Nat := n
theorem toCellT_any (a b c d : Int) (v : Bool) (A : Option Addr) (n e : Nat) (l : List Int) (w : World) (h : Bs w A n l) (hn : n ≤ 1048576) :
    Calls Try.prog 10 #[.agg #[.int .i64 a, .int .i64 b, .int .i64 c, .int .i64 d, .bool v, .slice A n e]] w fun e w' => (∃ g, e = .returned (.agg #[.int .i64 a, .int .i64 b, .int .i64 c, .int .i64 d, .bool v, .slice (some ⟨g, 0, none⟩) n n]) ∧ (tR (some ⟨g, 0, none⟩) n l) w' (rng w.heap.size w'.heap.size)) ∧ Below w.heap.size w w' :=
  (toCell_any a b c d v A n e l w h (by omega)).mono fun _ _ ⟨⟨g, h1, h2⟩, h3⟩ => ⟨⟨g, h1, Bo.ofOw h2.head fun b _ _ hB hl => ⟨hB, hl⟩⟩, h3⟩
theorem szCellT_any (a b c d : Int) (v : Bool) (A : Option Addr) (n e : Nat) (l : List Int) (x : Int) (w : World) (_ : Bs w A n l) (h0 : 0 ≤ x) (h1 : x ≤ 1048576) (hn : n ≤ 9223372036854775807) :
    Calls Try.prog 7 #[.agg #[.int .i64 a, .int .i64 b, .int .i64 c, .int .i64 d, .bool v, .slice A n e], .int .i64 x] w fun e w' => e = .returned (.int .i64 (leftC x (totCell n))) ∧ Below w.heap.size w w' :=
  szCell_any a b c d v A n e x w h0 h1 hn
end Go.Proofs.Ytpaemmoopjkppaa
