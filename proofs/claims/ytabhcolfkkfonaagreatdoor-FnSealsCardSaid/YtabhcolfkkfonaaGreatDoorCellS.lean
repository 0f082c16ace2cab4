/- Whether two cells are the same, of the model and of the program. -/
import Derived.Test.YtabhcolfkkfonaaGreatDoorSymB
namespace Go.Proofs.YtabhcolfkkfonaaGreatDoor
open Go.RowKit

/-- two cells are the same in all fields -/
def sameC (a b c d : Int) (v : Bool) (l : List Int) (a' b' c' d' : Int) (v' : Bool) (l' : List Int) : Bool := decide (a = a' ∧ b = b' ∧ c = c' ∧ d = d' ∧ v = v' ∧ l = l')

set_option maxHeartbeats 1000000 in
theorem implSame_0 (a b c d : Int) (v : Bool) (a' : Int) (b' : Int) (c' : Int) (d' : Int) (v' : Bool) (A A' : Option Addr) (n e n' e' : Nat) (w : World) (h : (a == a') = false) :
    Calls Tryz.prog 46 #[.agg #[.int .i64 a, .int .i64 b, .int .i64 c, .int .i64 d, .bool v, .slice A n e], .agg #[.int .i64 a', .int .i64 b', .int .i64 c', .int .i64 d', .bool v', .slice A' n' e']] w fun e w' => e = .returned (.bool false) ∧ Below w.heap.size w w' := by
  go_enter Tryz.func46, Tryz.ntmps46
  go_wp2
  go_ret
  exact ⟨rfl, by go_grown⟩

set_option maxHeartbeats 1000000 in
theorem implSame_1 (a b c d : Int) (v : Bool) (b' : Int) (c' : Int) (d' : Int) (v' : Bool) (A A' : Option Addr) (n e n' e' : Nat) (w : World) (h : (b == b') = false) :
    Calls Tryz.prog 46 #[.agg #[.int .i64 a, .int .i64 b, .int .i64 c, .int .i64 d, .bool v, .slice A n e], .agg #[.int .i64 a, .int .i64 b', .int .i64 c', .int .i64 d', .bool v', .slice A' n' e']] w fun e w' => e = .returned (.bool false) ∧ Below w.heap.size w w' := by
  go_enter Tryz.func46, Tryz.ntmps46
  go_wp2
  go_ret
  exact ⟨rfl, by go_grown⟩

set_option maxHeartbeats 1000000 in
theorem implSame_2 (a b c d : Int) (v : Bool) (c' : Int) (d' : Int) (v' : Bool) (A A' : Option Addr) (n e n' e' : Nat) (w : World) (h : (c == c') = false) :
    Calls Tryz.prog 46 #[.agg #[.int .i64 a, .int .i64 b, .int .i64 c, .int .i64 d, .bool v, .slice A n e], .agg #[.int .i64 a, .int .i64 b, .int .i64 c', .int .i64 d', .bool v', .slice A' n' e']] w fun e w' => e = .returned (.bool false) ∧ Below w.heap.size w w' := by
  go_enter Tryz.func46, Tryz.ntmps46
  go_wp2
  go_ret
  exact ⟨rfl, by go_grown⟩

set_option maxHeartbeats 1000000 in
theorem implSame_3 (a b c d : Int) (v : Bool) (d' : Int) (v' : Bool) (A A' : Option Addr) (n e n' e' : Nat) (w : World) (h : (d == d') = false) :
    Calls Tryz.prog 46 #[.agg #[.int .i64 a, .int .i64 b, .int .i64 c, .int .i64 d, .bool v, .slice A n e], .agg #[.int .i64 a, .int .i64 b, .int .i64 c, .int .i64 d', .bool v', .slice A' n' e']] w fun e w' => e = .returned (.bool false) ∧ Below w.heap.size w w' := by
  go_enter Tryz.func46, Tryz.ntmps46
  go_wp2
  go_ret
  exact ⟨rfl, by go_grown⟩

set_option maxHeartbeats 1000000 in
theorem implSame_4 (a b c d : Int) (v : Bool) (v' : Bool) (A A' : Option Addr) (n e n' e' : Nat) (w : World) (h : (v == v') = false) :
    Calls Tryz.prog 46 #[.agg #[.int .i64 a, .int .i64 b, .int .i64 c, .int .i64 d, .bool v, .slice A n e], .agg #[.int .i64 a, .int .i64 b, .int .i64 c, .int .i64 d, .bool v', .slice A' n' e']] w fun e w' => e = .returned (.bool false) ∧ Below w.heap.size w w' := by
  go_enter Tryz.func46, Tryz.ntmps46
  go_wp2
  go_ret
  exact ⟨rfl, by go_grown⟩

set_option maxHeartbeats 1000000 in
theorem implSame_5 (a b c d : Int) (v : Bool) (A A' : Option Addr) (n e n' e' : Nat) (l l' : List Int) (w : World) (h : Bs w A n l) (h' : Bs w A' n' l') :
    Calls Tryz.prog 46 #[.agg #[.int .i64 a, .int .i64 b, .int .i64 c, .int .i64 d, .bool v, .slice A n e], .agg #[.int .i64 a, .int .i64 b, .int .i64 c, .int .i64 d, .bool v, .slice A' n' e']] w fun e w' => e = .returned (.bool (decide (l = l'))) ∧ Below w.heap.size w w' := by
  go_enter Tryz.func46, Tryz.ntmps46
  go_wp2_with fail
  refine (implSameBytes_any _ _ _ _ _ _ _ _ _ ((h.alloc _).alloc _) ((h'.alloc _).alloc _)).mono ?_
  rintro e w1 ⟨rfl, rfl⟩
  go_wp2
  go_ret
  exact ⟨rfl, by go_grown⟩

theorem implSameCells_any (a b c d : Int) (v : Bool) (a' b' c' d' : Int) (v' : Bool) (A A' : Option Addr) (n e n' e' : Nat) (l l' : List Int) (w : World) (h : Bs w A n l) (h' : Bs w A' n' l') :
    Calls Tryz.prog 46 #[.agg #[.int .i64 a, .int .i64 b, .int .i64 c, .int .i64 d, .bool v, .slice A n e], .agg #[.int .i64 a', .int .i64 b', .int .i64 c', .int .i64 d', .bool v', .slice A' n' e']] w fun e w' => e = .returned (.bool (sameC a b c d v l a' b' c' d' v' l')) ∧ Below w.heap.size w w' := by
  unfold sameC
  by_cases q0 : a = a'
  rotate_left
  · rw [decide_eq_false (fun g => q0 g.1)]
    exact implSame_0 a b c d v a' b' c' d' v' A A' n e n' e' w (by simpa using q0)
  subst q0
  by_cases q1 : b = b'
  rotate_left
  · rw [decide_eq_false (fun g => q1 g.2.1)]
    exact implSame_1 a b c d v b' c' d' v' A A' n e n' e' w (by simpa using q1)
  subst q1
  by_cases q2 : c = c'
  rotate_left
  · rw [decide_eq_false (fun g => q2 g.2.2.1)]
    exact implSame_2 a b c d v c' d' v' A A' n e n' e' w (by simpa using q2)
  subst q2
  by_cases q3 : d = d'
  rotate_left
  · rw [decide_eq_false (fun g => q3 g.2.2.2.1)]
    exact implSame_3 a b c d v d' v' A A' n e n' e' w (by simpa using q3)
  subst q3
  by_cases q4 : v = v'
  rotate_left
  · rw [decide_eq_false (fun g => q4 g.2.2.2.2.1)]
    exact implSame_4 a b c d v v' A A' n e n' e' w (by simpa using q4)
  subst q4
  have h5 := implSame_5 a b c d v A A' n e n' e' l l' w h h'
  simpa using h5

end Go.Proofs.YtabhcolfkkfonaaGreatDoor
