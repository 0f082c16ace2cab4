/- The epoch of a slot, of the model and of the program; the walk of its law. -/
import Derived.Test.YtabhcolfkkfonaaDoorSlotP
namespace Go.Proofs.YtabhcolfkkfonaaDoor
open Go.RowKit

def epC (n : Int) : Int := if inB n 0 400 = true then 0 else 3
def epV (n : Int) : Int := if inB n 0 400 = true then n / 16 else 0

theorem l7Slot_any (n : Int) (w : World) :
    Calls Tryd.prog 28 #[.int .i64 n] w fun e w' => e = .returned (.bool (inB n 0 400)) ∧ w = w' := by
  go_enter Tryd.func28, Tryd.ntmps28
  go_wp2_with fail
  refine (In_any n 0 400 _).mono ?_
  rintro e w' ⟨rfl, rfl⟩
  go_wp2
  go_ret
  exact ⟨rfl, rfl⟩

theorem specEpochOf_any (n : Int) (w : World) :
    Calls Tryd.prog 15 #[.int .i64 n] w fun e w' => e = .returned (.agg #[.int .i64 (epC n), .int .i64 (epV n)]) ∧ Below w.heap.size w w' := by
  unfold epC epV
  have ci := l7Slot_any n
  cases hx : inB n 0 400 with
  | true =>
    simp only [if_pos]
    rw [hx] at ci
    have h0 : 0 ≤ n ∧ n ≤ 400 := by simpa [inB] using hx
    have e2 : IntKind.i64.wrap (n.tdiv 16) = n / 16 := IntWalk.i64_quo n 16 (by omega)
    clear hx
    go_enter Tryd.func15, Tryd.ntmps15
    go_wp2_with fail
    refine (ci _).mono ?_
    rintro e w' ⟨rfl, rfl⟩
    go_wp2
    go_returns
    exact ⟨rfl, by go_grown⟩
  | false =>
    simp only [Bool.false_eq_true, if_false]
    rw [hx] at ci
    clear hx
    go_enter Tryd.func15, Tryd.ntmps15
    go_wp2_with fail
    refine (ci _).mono ?_
    rintro e w' ⟨rfl, rfl⟩
    go_wp2
    go_returns
    exact ⟨rfl, by go_grown⟩

theorem implEpochOf_any (n : Int) (w : World) :
    Calls Tryd.prog 14 #[.int .i64 n] w fun e w' => e = .returned (.agg #[.int .i64 (epC n), .int .i64 (epV n)]) ∧ Below w.heap.size w w' := by
  unfold epC epV
  have ci := isSlot_any n
  cases hx : inB n 0 400 with
  | true =>
    simp only [if_pos]
    rw [hx] at ci
    have h0 : 0 ≤ n ∧ n ≤ 400 := by simpa [inB] using hx
    have e2 : IntKind.i64.wrap (n.tdiv 16) = n / 16 := IntWalk.i64_quo n 16 (by omega)
    clear hx
    go_enter Tryd.func14, Tryd.ntmps14
    go_wp2_with fail
    refine (ci _).mono ?_
    rintro e w' ⟨rfl, rfl⟩
    go_wp2
    go_returns
    exact ⟨rfl, by go_grown⟩
  | false =>
    simp only [Bool.false_eq_true, if_false]
    rw [hx] at ci
    clear hx
    go_enter Tryd.func14, Tryd.ntmps14
    go_wp2_with fail
    refine (ci _).mono ?_
    rintro e w' ⟨rfl, rfl⟩
    go_wp2
    go_returns
    exact ⟨rfl, by go_grown⟩

end Go.Proofs.YtabhcolfkkfonaaDoor
