/- The epoch of a slot, of the model and of the program; the walk of its law. -/
import Derived.Test.YtabhcolfkkfonaaSlotP
namespace Go.Proofs.Ytabhcolfkkfonaa
open Go.RowKit

def epC (n : Int) : Int := if inB n 0 400 = true then 0 else 3
def epV (n : Int) : Int := if inB n 0 400 = true then n / 16 else 0

theorem l7Slot_any (n : Int) (w : World) :
    Calls Try.prog 37 #[.int .i64 n] w fun e w' => e = .returned (.bool (inB n 0 400)) ∧ w = w' := by
  go_enter Try.func37, Try.ntmps37
  go_wp2_with fail
  refine (In_any n 0 400 _).mono ?_
  rintro e w' ⟨rfl, rfl⟩
  go_wp2
  go_ret
  exact ⟨rfl, rfl⟩

theorem specEpochOf_any (n : Int) (w : World) :
    Calls Try.prog 18 #[.int .i64 n] w fun e w' => e = .returned (.agg #[.int .i64 (epC n), .int .i64 (epV n)]) ∧ Below w.heap.size w w' := by
  unfold epC epV
  have ci := l7Slot_any n
  cases hx : inB n 0 400 with
  | true =>
    simp only [if_pos]
    rw [hx] at ci
    have h0 : 0 ≤ n ∧ n ≤ 400 := by simpa [inB] using hx
    have e2 : IntKind.i64.wrap (n.tdiv 16) = n / 16 := IntWalk.i64_quo n 16 (by omega)
    clear hx
    go_enter Try.func18, Try.ntmps18
    go_wp2_with fail
    refine (ci _).mono ?_
    rintro e w' ⟨rfl, rfl⟩
    go_wp2
    go_returns
    exact ⟨rfl, by go_grown⟩
  | false =>
    simp only [Bool.false_eq_true, if_false]
    rw [hx] at ci
    clear hx
    go_enter Try.func18, Try.ntmps18
    go_wp2_with fail
    refine (ci _).mono ?_
    rintro e w' ⟨rfl, rfl⟩
    go_wp2
    go_returns
    exact ⟨rfl, by go_grown⟩

theorem implEpochOf_any (n : Int) (w : World) :
    Calls Try.prog 19 #[.int .i64 n] w fun e w' => e = .returned (.agg #[.int .i64 (epC n), .int .i64 (epV n)]) ∧ Below w.heap.size w w' := by
  unfold epC epV
  have ci := isSlot_any n
  cases hx : inB n 0 400 with
  | true =>
    simp only [if_pos]
    rw [hx] at ci
    have h0 : 0 ≤ n ∧ n ≤ 400 := by simpa [inB] using hx
    have e2 : IntKind.i64.wrap (n.tdiv 16) = n / 16 := IntWalk.i64_quo n 16 (by omega)
    clear hx
    go_enter Try.func19, Try.ntmps19
    go_wp2_with fail
    refine (ci _).mono ?_
    rintro e w' ⟨rfl, rfl⟩
    go_wp2
    go_returns
    exact ⟨rfl, by go_grown⟩
  | false =>
    simp only [Bool.false_eq_true, if_false]
    rw [hx] at ci
    clear hx
    go_enter Try.func19, Try.ntmps19
    go_wp2_with fail
    refine (ci _).mono ?_
    rintro e w' ⟨rfl, rfl⟩
    go_wp2
    go_returns
    exact ⟨rfl, by go_grown⟩

theorem epochWalk (n : Int) (w : World) :
    Calls Try.prog 4 #[.int .i64 n] w fun e w' => e = .returned (.bool true) ∧ Below w.heap.size w w' := by
  have cs := specEpochOf_any n
  have ci := implEpochOf_any n
  generalize epC n = C at *
  generalize epV n = V at *
  go_enter Try.func4, Try.ntmps4
  go_wp2_with fail
  refine (cs _).mono ?_
  rintro e w1 ⟨rfl, b1⟩
  go_wp2_with fail
  refine (ci _).mono ?_
  rintro e w2 ⟨rfl, b2⟩
  obtain ⟨c2, f2, s2⟩ := bcell b2
  simp only [World.size_alloc] at c2 f2 s2
  have z2 : w1.heap.size < w2.heap.size := by omega
  go_wp2_with fail
  refine (eqInt_any _ _ _ _ _).mono ?_
  rintro e w3 ⟨rfl, b3⟩
  go_wp2
  go_ret
  exact ⟨rfl, ac (ab (ac (ab (ac (Below.refl _ w) b1) _) b2) _) b3⟩
end Go.Proofs.Ytabhcolfkkfonaa
