import Derived.Test.YtpaemmoopjkppaaBase
import Derived.Test.YtpaemmoopjkppaaSymB
import Derived.IntWalk

/-! CellM -/
/- The bytes of a cell, and what may be a cell: plain mathematics. -/
namespace Go.Proofs.Ytpaemmoopjkppaa
open Go.RowKit

/-- what a cell's fault is -/
def cellC (a b c d : Int) (v : Bool) (n : Nat) : Int :=
  if (a ≠ 0 ∧ a ≠ 1) ∨ (a = 0 ∧ (b ≠ 0 ∨ v = true ∨ n ≠ 0)) then 1
  else if inB b 0 9999 = true ∧ inB c 0 10000 = true ∧ inB d 0 255 = true then (if n ≤ 32 then 0 else 2) else 3

/-- two bytes of a number, the highest one first -/
def hi2 (n : Int) : List Int := (lowOf n 2).reverse
theorem hi2_eq (n : Int) : hi2 n = [n / 256 % 256, n % 256] := by
  simp [hi2, lowOf, List.range_succ]
theorem hi2_by (n : Int) : By (hi2 n) := fun x hx => lowOf_byte n 2 x (List.mem_reverse.1 hx)
theorem hi2_len (n : Int) : (hi2 n).length = 2 := by simp [hi2_eq]

def bit (v : Bool) : Int := if v then 1 else 0

/-- the text of a cell -/
def cellL (a b c d : Int) (v : Bool) (l : List Int) : List Int :=
  a :: (hi2 b ++ (hi2 c ++ (d :: bit v :: (l.length : Int) :: (l ++ List.replicate (36 - l.length) 0))))
theorem cellL_len (a b c d : Int) (v : Bool) (l : List Int) (h : l.length ≤ 36) : (cellL a b c d v l).length = 44 := by
  simp [cellL, hi2_len]; omega

/-- the empty text with the fields of all kinds laid into it -/
def laid3 (a c d : Int) : List Int := (laidOver ((List.replicate 44 (0 : Int)).set 0 a) 3 (hi2 c)).set 5 d
theorem laid3_eq (a c d : Int) : laid3 a c d = a :: 0 :: 0 :: (hi2 c ++ (d :: 0 :: 0 :: List.replicate 36 0)) := by
  simp [laid3, laidOver, hi2_eq, List.replicate]
theorem dummy_eq (c d : Int) : laid3 0 c d = cellL 0 0 c d false [] := by
  rw [laid3_eq]
  simp [cellL, hi2_eq, bit, List.replicate]

/-- and then those of data -/
def laid7 (a b c d : Int) (v : Bool) (n : Int) : List Int := ((if v then (laidOver (laid3 a c d) 1 (hi2 b)).set 6 1 else laidOver (laid3 a c d) 1 (hi2 b))).set 7 n
theorem laid7_eq (a b c d : Int) (v : Bool) (n : Int) : laid7 a b c d v n = a :: (hi2 b ++ (hi2 c ++ (d :: bit v :: n :: List.replicate 36 0))) := by
  unfold laid7
  rw [laid3_eq]
  cases v <;> simp [laidOver, hi2_eq, bit]
theorem data_eq (a b c d : Int) (v : Bool) (l : List Int) : laidOver (laid7 a b c d v l.length) 8 l = cellL a b c d v l := by
  rw [laid7_eq]
  have e : List.drop l.length (List.replicate 36 (0 : Int)) = List.replicate (36 - l.length) 0 := List.drop_replicate ..
  unfold cellL
  rw [← e]
  generalize List.replicate 36 (0 : Int) = Z
  simp [laidOver, hi2_eq, Nat.add_comm 8]
theorem laid3_len (a c d : Int) : (laid3 a c d).length = 44 := by simp [laid3_eq, hi2_len]
theorem laid7_len (a b c d : Int) (v : Bool) (n : Int) : (laid7 a b c d v n).length = 44 := by simp [laid7_eq, hi2_len]
end Go.Proofs.Ytpaemmoopjkppaa

/-! CellF -/
/- The fault of a cell, of the model and of the program. -/
namespace Go.Proofs.Ytpaemmoopjkppaa
open Go.RowKit
set_option maxHeartbeats 1000000 in
theorem specCellFault_no (a b : Int) (v : Bool) (n : Nat) (c d : Int) (A : Option Addr) (f : Nat) (w : World) (h0 : (a != 0) = true) (h1 : (a != 1) = true) :
    Calls Try.prog 36 #[.agg #[.int .i64 a, .int .i64 b, .int .i64 c, .int .i64 d, .bool v, .slice A n f]] w fun e w' => e = .returned (.int .i64 1) ∧ Below w.heap.size w w' := by
  go_enter Try.func36, Try.ntmps36
  go_wp2
  go_ret
  exact ⟨rfl, by go_grown⟩

set_option maxHeartbeats 1000000 in
theorem specCellFault_d1 (b : Int) (v : Bool) (n : Nat) (c d : Int) (A : Option Addr) (f : Nat) (w : World) (h0 : (b != 0) = true) :
    Calls Try.prog 36 #[.agg #[.int .i64 0, .int .i64 b, .int .i64 c, .int .i64 d, .bool v, .slice A n f]] w fun e w' => e = .returned (.int .i64 1) ∧ Below w.heap.size w w' := by
  go_enter Try.func36, Try.ntmps36
  go_wp2
  go_ret
  exact ⟨rfl, by go_grown⟩

set_option maxHeartbeats 1000000 in
theorem specCellFault_d2 (n : Nat) (c d : Int) (A : Option Addr) (f : Nat) (w : World)  :
    Calls Try.prog 36 #[.agg #[.int .i64 0, .int .i64 0, .int .i64 c, .int .i64 d, .bool true, .slice A n f]] w fun e w' => e = .returned (.int .i64 1) ∧ Below w.heap.size w w' := by
  go_enter Try.func36, Try.ntmps36
  go_wp2
  go_ret
  exact ⟨rfl, by go_grown⟩

set_option maxHeartbeats 1000000 in
theorem specCellFault_d3 (n : Nat) (c d : Int) (A : Option Addr) (f : Nat) (w : World) (h0 : ((n : Int) != 0) = true) :
    Calls Try.prog 36 #[.agg #[.int .i64 0, .int .i64 0, .int .i64 c, .int .i64 d, .bool false, .slice A n f]] w fun e w' => e = .returned (.int .i64 1) ∧ Below w.heap.size w w' := by
  go_enter Try.func36, Try.ntmps36
  go_wp2
  go_ret
  exact ⟨rfl, by go_grown⟩

set_option maxHeartbeats 1000000 in
theorem specCellFault_yc  (c d : Int) (A : Option Addr) (f : Nat) (w : World)  (h : inB c 0 10000 = false) :
    Calls Try.prog 36 #[.agg #[.int .i64 0, .int .i64 0, .int .i64 c, .int .i64 d, .bool false, .slice A 0 f]] w fun e w' => e = .returned (.int .i64 3) ∧ Below w.heap.size w w' := by
  have h1 : inB 0 0 9999 = true := rfl
  have cb := In_any 0 0 9999
  rw [h1] at cb
  have cc := In_any c 0 10000
  rw [h] at cc
  clear h1 h
  go_enter Try.func36, Try.ntmps36
  go_wp2_with fail
  refine (cb _).mono ?_
  rintro e w' ⟨rfl, rfl⟩
  go_wp2_with fail
  refine (cc _).mono ?_
  rintro e w' ⟨rfl, rfl⟩
  go_wp2
  go_ret
  exact ⟨rfl, by go_grown⟩

set_option maxHeartbeats 1000000 in
theorem specCellFault_yd  (c d : Int) (A : Option Addr) (f : Nat) (w : World)  (h2 : inB c 0 10000 = true) (h : inB d 0 255 = false) :
    Calls Try.prog 36 #[.agg #[.int .i64 0, .int .i64 0, .int .i64 c, .int .i64 d, .bool false, .slice A 0 f]] w fun e w' => e = .returned (.int .i64 3) ∧ Below w.heap.size w w' := by
  have h1 : inB 0 0 9999 = true := rfl
  have cb := In_any 0 0 9999
  rw [h1] at cb
  have cc := In_any c 0 10000
  rw [h2] at cc
  have cd := In_any d 0 255
  rw [h] at cd
  clear h1 h2 h
  go_enter Try.func36, Try.ntmps36
  go_wp2_with fail
  refine (cb _).mono ?_
  rintro e w' ⟨rfl, rfl⟩
  go_wp2_with fail
  refine (cc _).mono ?_
  rintro e w' ⟨rfl, rfl⟩
  go_wp2_with fail
  refine (cd _).mono ?_
  rintro e w' ⟨rfl, rfl⟩
  go_wp2
  go_ret
  exact ⟨rfl, by go_grown⟩

set_option maxHeartbeats 1000000 in
theorem specCellFault_yk  (c d : Int) (A : Option Addr) (f : Nat) (w : World)  (h2 : inB c 0 10000 = true) (h3 : inB d 0 255 = true) :
    Calls Try.prog 36 #[.agg #[.int .i64 0, .int .i64 0, .int .i64 c, .int .i64 d, .bool false, .slice A 0 f]] w fun e w' => e = .returned (.int .i64 0) ∧ Below w.heap.size w w' := by
  have h1 : inB 0 0 9999 = true := rfl
  have cb := In_any 0 0 9999
  rw [h1] at cb
  have cc := In_any c 0 10000
  rw [h2] at cc
  have cd := In_any d 0 255
  rw [h3] at cd
  clear h1 h2 h3
  go_enter Try.func36, Try.ntmps36
  go_wp2_with fail
  refine (cb _).mono ?_
  rintro e w' ⟨rfl, rfl⟩
  go_wp2_with fail
  refine (cc _).mono ?_
  rintro e w' ⟨rfl, rfl⟩
  go_wp2_with fail
  refine (cd _).mono ?_
  rintro e w' ⟨rfl, rfl⟩
  go_wp2
  go_ret
  exact ⟨rfl, by go_grown⟩

set_option maxHeartbeats 1000000 in
theorem specCellFault_xb (b : Int) (v : Bool) (n : Nat) (c d : Int) (A : Option Addr) (f : Nat) (w : World) (h : inB b 0 9999 = false) :
    Calls Try.prog 36 #[.agg #[.int .i64 1, .int .i64 b, .int .i64 c, .int .i64 d, .bool v, .slice A n f]] w fun e w' => e = .returned (.int .i64 3) ∧ Below w.heap.size w w' := by
  have cb := In_any b 0 9999
  rw [h] at cb
  clear h
  go_enter Try.func36, Try.ntmps36
  go_wp2_with fail
  refine (cb _).mono ?_
  rintro e w' ⟨rfl, rfl⟩
  go_wp2
  go_ret
  exact ⟨rfl, by go_grown⟩

set_option maxHeartbeats 1000000 in
theorem specCellFault_xc (b : Int) (v : Bool) (n : Nat) (c d : Int) (A : Option Addr) (f : Nat) (w : World) (h1 : inB b 0 9999 = true) (h : inB c 0 10000 = false) :
    Calls Try.prog 36 #[.agg #[.int .i64 1, .int .i64 b, .int .i64 c, .int .i64 d, .bool v, .slice A n f]] w fun e w' => e = .returned (.int .i64 3) ∧ Below w.heap.size w w' := by
  have cb := In_any b 0 9999
  rw [h1] at cb
  have cc := In_any c 0 10000
  rw [h] at cc
  clear h1 h
  go_enter Try.func36, Try.ntmps36
  go_wp2_with fail
  refine (cb _).mono ?_
  rintro e w' ⟨rfl, rfl⟩
  go_wp2_with fail
  refine (cc _).mono ?_
  rintro e w' ⟨rfl, rfl⟩
  go_wp2
  go_ret
  exact ⟨rfl, by go_grown⟩

set_option maxHeartbeats 1000000 in
theorem specCellFault_xd (b : Int) (v : Bool) (n : Nat) (c d : Int) (A : Option Addr) (f : Nat) (w : World) (h1 : inB b 0 9999 = true) (h2 : inB c 0 10000 = true) (h : inB d 0 255 = false) :
    Calls Try.prog 36 #[.agg #[.int .i64 1, .int .i64 b, .int .i64 c, .int .i64 d, .bool v, .slice A n f]] w fun e w' => e = .returned (.int .i64 3) ∧ Below w.heap.size w w' := by
  have cb := In_any b 0 9999
  rw [h1] at cb
  have cc := In_any c 0 10000
  rw [h2] at cc
  have cd := In_any d 0 255
  rw [h] at cd
  clear h1 h2 h
  go_enter Try.func36, Try.ntmps36
  go_wp2_with fail
  refine (cb _).mono ?_
  rintro e w' ⟨rfl, rfl⟩
  go_wp2_with fail
  refine (cc _).mono ?_
  rintro e w' ⟨rfl, rfl⟩
  go_wp2_with fail
  refine (cd _).mono ?_
  rintro e w' ⟨rfl, rfl⟩
  go_wp2
  go_ret
  exact ⟨rfl, by go_grown⟩

set_option maxHeartbeats 1000000 in
theorem specCellFault_xm (b : Int) (v : Bool) (n : Nat) (c d : Int) (A : Option Addr) (f : Nat) (w : World) (h1 : inB b 0 9999 = true) (h2 : inB c 0 10000 = true) (h3 : inB d 0 255 = true) (h : 32 < (n : Int)) :
    Calls Try.prog 36 #[.agg #[.int .i64 1, .int .i64 b, .int .i64 c, .int .i64 d, .bool v, .slice A n f]] w fun e w' => e = .returned (.int .i64 2) ∧ Below w.heap.size w w' := by
  have cb := In_any b 0 9999
  rw [h1] at cb
  have cc := In_any c 0 10000
  rw [h2] at cc
  have cd := In_any d 0 255
  rw [h3] at cd
  clear h1 h2 h3
  go_enter Try.func36, Try.ntmps36
  go_wp2_with fail
  refine (cb _).mono ?_
  rintro e w' ⟨rfl, rfl⟩
  go_wp2_with fail
  refine (cc _).mono ?_
  rintro e w' ⟨rfl, rfl⟩
  go_wp2_with fail
  refine (cd _).mono ?_
  rintro e w' ⟨rfl, rfl⟩
  go_wp2
  go_ret
  exact ⟨rfl, by go_grown⟩

set_option maxHeartbeats 1000000 in
theorem specCellFault_xk (b : Int) (v : Bool) (n : Nat) (c d : Int) (A : Option Addr) (f : Nat) (w : World) (h1 : inB b 0 9999 = true) (h2 : inB c 0 10000 = true) (h3 : inB d 0 255 = true) (h : ¬ 32 < (n : Int)) :
    Calls Try.prog 36 #[.agg #[.int .i64 1, .int .i64 b, .int .i64 c, .int .i64 d, .bool v, .slice A n f]] w fun e w' => e = .returned (.int .i64 0) ∧ Below w.heap.size w w' := by
  have cb := In_any b 0 9999
  rw [h1] at cb
  have cc := In_any c 0 10000
  rw [h2] at cc
  have cd := In_any d 0 255
  rw [h3] at cd
  clear h1 h2 h3
  go_enter Try.func36, Try.ntmps36
  go_wp2_with fail
  refine (cb _).mono ?_
  rintro e w' ⟨rfl, rfl⟩
  go_wp2_with fail
  refine (cc _).mono ?_
  rintro e w' ⟨rfl, rfl⟩
  go_wp2_with fail
  refine (cd _).mono ?_
  rintro e w' ⟨rfl, rfl⟩
  go_wp2
  go_ret
  exact ⟨rfl, by go_grown⟩

set_option maxHeartbeats 1000000 in
theorem kindOf_data (b : Int) (v : Bool) (n : Nat) (c d : Int) (A : Option Addr) (f : Nat) (w : World)  :
    Calls Try.prog 87 #[.agg #[.int .i64 1, .int .i64 b, .int .i64 c, .int .i64 d, .bool v, .slice A n f]] w fun e w' => e = .returned (.iface 137 (.agg #[.int .i64 b, .bool v, .slice A n f])) ∧ Below w.heap.size w w' := by
  go_enter Try.func87, Try.ntmps87
  go_wp2
  go_ret
  exact ⟨rfl, by go_grown⟩

set_option maxHeartbeats 1000000 in
theorem kindOf_dummy  (c d : Int) (A : Option Addr) (f : Nat) (w : World)  :
    Calls Try.prog 87 #[.agg #[.int .i64 0, .int .i64 0, .int .i64 c, .int .i64 d, .bool false, .slice A 0 f]] w fun e w' => e = .returned (.iface 135 (.agg #[])) ∧ Below w.heap.size w w' := by
  go_enter Try.func87, Try.ntmps87
  go_wp2
  go_ret
  exact ⟨rfl, by go_grown⟩

set_option maxHeartbeats 1000000 in
theorem kindOf_no (a b : Int) (v : Bool) (n : Nat) (c d : Int) (A : Option Addr) (f : Nat) (w : World) (h0 : (a == 0) = false) (h1 : (a == 1) = false) :
    Calls Try.prog 87 #[.agg #[.int .i64 a, .int .i64 b, .int .i64 c, .int .i64 d, .bool v, .slice A n f]] w fun e w' => e = .returned (.nilIface) ∧ Below w.heap.size w w' := by
  go_enter Try.func87, Try.ntmps87
  go_wp2
  go_ret
  exact ⟨rfl, by go_grown⟩

set_option maxHeartbeats 1000000 in
theorem kindOf_d1 (b : Int) (v : Bool) (n : Nat) (c d : Int) (A : Option Addr) (f : Nat) (w : World) (h0 : (b == 0) = false) :
    Calls Try.prog 87 #[.agg #[.int .i64 0, .int .i64 b, .int .i64 c, .int .i64 d, .bool v, .slice A n f]] w fun e w' => e = .returned (.nilIface) ∧ Below w.heap.size w w' := by
  go_enter Try.func87, Try.ntmps87
  go_wp2
  go_ret
  exact ⟨rfl, by go_grown⟩

set_option maxHeartbeats 1000000 in
theorem kindOf_d2 (n : Nat) (c d : Int) (A : Option Addr) (f : Nat) (w : World)  :
    Calls Try.prog 87 #[.agg #[.int .i64 0, .int .i64 0, .int .i64 c, .int .i64 d, .bool true, .slice A n f]] w fun e w' => e = .returned (.nilIface) ∧ Below w.heap.size w w' := by
  go_enter Try.func87, Try.ntmps87
  go_wp2
  go_ret
  exact ⟨rfl, by go_grown⟩

set_option maxHeartbeats 1000000 in
theorem kindOf_d3 (n : Nat) (c d : Int) (A : Option Addr) (f : Nat) (w : World) (h0 : ((n : Int) == 0) = false) :
    Calls Try.prog 87 #[.agg #[.int .i64 0, .int .i64 0, .int .i64 c, .int .i64 d, .bool false, .slice A n f]] w fun e w' => e = .returned (.nilIface) ∧ Below w.heap.size w w' := by
  go_enter Try.func87, Try.ntmps87
  go_wp2
  go_ret
  exact ⟨rfl, by go_grown⟩

/-- what the fields of all kinds come to -/
def ackC (c d : Int) : Int := if inB c 0 10000 = true ∧ inB d 0 255 = true then 0 else 3
def ackFB (c d : Int) : Bool := inB c 0 10000 && inB d 0 255
theorem isAckF_any (c d : Int) (w : World) : Calls Try.prog 106 #[.int .i64 c, .int .i64 d] w fun e w' => e = .returned (.bool (ackFB c d)) ∧ w = w' := by
  unfold ackFB inB
  by_cases c0 : 0 ≤ c
  · have u0 : decide (c ≥ 0) = true := by simpa using c0
    by_cases c1 : c ≤ 10000
    · have u1 : decide (c ≤ 10000) = true := by simpa using c1
      by_cases d0 : 0 ≤ d
      · have u2 : decide (d ≥ 0) = true := by simpa using d0
        by_cases d1 : d ≤ 255
        · have u3 : decide (d ≤ 255) = true := by simpa using d1
          have e : (decide (0 ≤ c ∧ c ≤ 10000) && decide (0 ≤ d ∧ d ≤ 255)) = true := by simp [c0, c1, d0, d1]
          rw [e]
          go_enter Try.func106, Try.ntmps106
          go_wp2
          go_ret
          exact ⟨rfl, rfl⟩
        · have u3 : decide (d ≤ 255) = false := by simpa using d1
          have e : (decide (0 ≤ c ∧ c ≤ 10000) && decide (0 ≤ d ∧ d ≤ 255)) = false := by simp [c0, c1, d0, d1]
          rw [e]
          go_enter Try.func106, Try.ntmps106
          go_wp2
          go_ret
          exact ⟨rfl, rfl⟩
      · have u2 : decide (d ≥ 0) = false := by simpa using d0
        have e : (decide (0 ≤ c ∧ c ≤ 10000) && decide (0 ≤ d ∧ d ≤ 255)) = false := by simp [c0, c1, d0]
        rw [e]
        go_enter Try.func106, Try.ntmps106
        go_wp2
        go_ret
        exact ⟨rfl, rfl⟩
    · have u1 : decide (c ≤ 10000) = false := by simpa using c1
      have e : (decide (0 ≤ c ∧ c ≤ 10000) && decide (0 ≤ d ∧ d ≤ 255)) = false := by simp [c0, c1]
      rw [e]
      go_enter Try.func106, Try.ntmps106
      go_wp2
      go_ret
      exact ⟨rfl, rfl⟩
  · have u0 : decide (c ≥ 0) = false := by simpa using c0
    have e : (decide (0 ≤ c ∧ c ≤ 10000) && decide (0 ≤ d ∧ d ≤ 255)) = false := by simp [c0]
    rw [e]
    go_enter Try.func106, Try.ntmps106
    go_wp2
    go_ret
    exact ⟨rfl, rfl⟩
theorem ackFault_any (a b c d : Int) (v : Bool) (A : Option Addr) (n f : Nat) (w : World) :
    Calls Try.prog 88 #[.agg #[.int .i64 a, .int .i64 b, .int .i64 c, .int .i64 d, .bool v, .slice A n f]] w fun e w' => e = .returned (.int .i64 (ackC c d)) ∧ Below w.heap.size w w' := by
  have hk := fun W => isAckF_any c d W
  cases hb : ackFB c d with
  | true =>
    have e : ackC c d = 0 := by
      have h : inB c 0 10000 = true ∧ inB d 0 255 = true := by simpa [ackFB] using hb
      exact if_pos h
    rw [e]
    rw [hb] at hk
    clear hb e
    go_enter Try.func88, Try.ntmps88
    go_wp2_with fail
    refine (hk _).mono ?_
    rintro e w' ⟨rfl, rfl⟩
    go_wp2
    go_ret
    exact ⟨rfl, by go_grown⟩
  | false =>
    have e : ackC c d = 3 := by
      have h : ¬ (inB c 0 10000 = true ∧ inB d 0 255 = true) := fun h => by simp [ackFB, h.1, h.2] at hb
      exact if_neg h
    rw [e]
    rw [hb] at hk
    clear hb e
    go_enter Try.func88, Try.ntmps88
    go_wp2_with fail
    refine (hk _).mono ?_
    rintro e w' ⟨rfl, rfl⟩
    go_wp2
    go_ret
    exact ⟨rfl, by go_grown⟩

/-- what data of their own come to -/
def dataC (b : Int) (n : Nat) : Int := if inB b 0 9999 = true then (if n ≤ 32 then 0 else 2) else 3
theorem dataFault_any (b : Int) (v : Bool) (A : Option Addr) (n f : Nat) (w : World) :
    Calls Try.prog 89 #[.agg #[.int .i64 b, .bool v, .slice A n f]] w fun e w' => e = .returned (.int .i64 (dataC b n)) ∧ Below w.heap.size w w' := by
  unfold dataC inB
  simp only [decide_eq_true_eq]
  by_cases b0 : b < 0
  · rw [if_neg (by omega)]
    go_enter Try.func89, Try.ntmps89
    go_wp2
    go_ret
    exact ⟨rfl, by go_grown⟩
  · by_cases b1 : 9999 < b
    · rw [if_neg (by omega)]
      go_enter Try.func89, Try.ntmps89
      go_wp2
      go_ret
      exact ⟨rfl, by go_grown⟩
    · rw [if_pos (by omega)]
      by_cases hn : n ≤ 32
      · rw [if_pos hn]
        have hn' : ¬ 32 < (n : Int) := by omega
        clear hn
        go_enter Try.func89, Try.ntmps89
        go_wp2
        go_ret
        exact ⟨rfl, by go_grown⟩
      · rw [if_neg hn]
        have hn' : 32 < (n : Int) := by omega
        clear hn
        go_enter Try.func89, Try.ntmps89
        go_wp2
        go_ret
        exact ⟨rfl, by go_grown⟩

theorem ta_dummy (v : Value) (w : World) : (Instr.typeAssert (.iface 135 v) 132 135 true).run Try.prog w = .ok (.tuple #[v, .bool true]) w := by kernel_rfl
theorem ta_dataDummy (v : Value) (w : World) : (Instr.typeAssert (.iface 137 v) 132 135 true).run Try.prog w = .ok (.tuple #[.agg #[], .bool false]) w := by kernel_rfl
theorem ta_data (v : Value) (w : World) : (Instr.typeAssert (.iface 137 v) 132 137 true).run Try.prog w = .ok (.tuple #[v, .bool true]) w := by kernel_rfl
theorem ta_nilDummy (w : World) : (Instr.typeAssert .nilIface 132 135 true).run Try.prog w = .ok (.tuple #[.agg #[], .bool false]) w := by kernel_rfl
theorem ta_nilData (w : World) : (Instr.typeAssert .nilIface 132 137 true).run Try.prog w = .ok (.tuple #[.agg #[.int .i64 0, .bool false, .slice none 0 0], .bool false]) w := by kernel_rfl

set_option maxHeartbeats 1000000 in
theorem implCellFault_none (a b c d : Int) (v : Bool) (A : Option Addr) (n f : Nat) (w : World) (hk : ∀ W : World, Calls Try.prog 87 #[.agg #[.int .i64 a, .int .i64 b, .int .i64 c, .int .i64 d, .bool v, .slice A n f]] W fun e w' => e = .returned .nilIface ∧ Below W.heap.size W w') :
    Calls Try.prog 42 #[.agg #[.int .i64 a, .int .i64 b, .int .i64 c, .int .i64 d, .bool v, .slice A n f]] w fun e w' => e = .returned (.int .i64 1) ∧ Below w.heap.size w w' := by
  have t0 := ta_dummy
  have t1 := ta_dataDummy
  have t2 := ta_data
  have t3 := ta_nilDummy
  have t4 := ta_nilData
  go_enter Try.func42, Try.ntmps42
  go_wp2_with fail
  refine (hk _).mono ?_
  rintro e w1 ⟨rfl, b1⟩
  go_wp2
  go_ret
  exact ⟨rfl, ac (ab (Below.refl _ w) _) b1⟩

set_option maxHeartbeats 1000000 in
theorem implCellFault_dummy (c d : Int) (A : Option Addr) (f : Nat) (w : World) :
    Calls Try.prog 42 #[.agg #[.int .i64 0, .int .i64 0, .int .i64 c, .int .i64 d, .bool false, .slice A 0 f]] w fun e w' => e = .returned (.int .i64 (ackC c d)) ∧ Below w.heap.size w w' := by
  have S0 := Stc.new w 38 [.int .i64 0, .int .i64 0, .int .i64 c, .int .i64 d, .bool false, .slice A 0 f] _ rfl
  generalize hX : ackC c d = X
  have ca := fun W => ackFault_any 0 0 c d false A 0 f W
  rw [hX] at ca
  clear hX
  have t0 := ta_dummy
  have t1 := ta_dataDummy
  have t2 := ta_data
  have t3 := ta_nilDummy
  have t4 := ta_nilData
  go_enter Try.func42, Try.ntmps42
  go_wp2_with fail
  refine (kindOf_dummy _ _ _ _ _).mono ?_
  rintro e w1 ⟨rfl, b1⟩
  replace S0 := S0.below b1 S0.lt
  have s1 := S0.lt
  have x0 := S0.cell (i := 0) rfl
  have x1 := S0.cell (i := 1) rfl
  have x2 := S0.cell (i := 2) rfl
  have x3 := S0.cell (i := 3) rfl
  have x4 := S0.cell (i := 4) rfl
  have x5 := S0.cell (i := 5) rfl
  have B1 := ac (ab (Below.refl _ w) (.cells #[.int .i64 0, .int .i64 0, .int .i64 c, .int .i64 d, .bool false, .slice A 0 f] 38)) b1
  clear b1
  go_wp2_with fail
  refine (ca _).mono ?_
  rintro e w2 ⟨rfl, b2⟩
  go_wp2
  go_ret
  exact ⟨rfl, ac (ab B1 _) b2⟩

set_option maxHeartbeats 1000000 in
theorem implCellFault_data (b c d : Int) (v : Bool) (A : Option Addr) (n f : Nat) (w : World) :
    Calls Try.prog 42 #[.agg #[.int .i64 1, .int .i64 b, .int .i64 c, .int .i64 d, .bool v, .slice A n f]] w fun e w' => e = .returned (.int .i64 (if ackC c d = 0 then dataC b n else ackC c d)) ∧ Below w.heap.size w w' := by
  have S0 := Stc.new w 38 [.int .i64 1, .int .i64 b, .int .i64 c, .int .i64 d, .bool v, .slice A n f] _ rfl
  have ca := fun W => ackFault_any 1 b c d v A n f W
  have cd := fun W => dataFault_any b v A n f W
  generalize dataC b n = Y at *
  have hx : ackC c d = 0 ∨ ackC c d = 3 := by unfold ackC; split <;> simp
  generalize ackC c d = X at *
  have B0 := ab (Below.refl _ w) (.cells #[.int .i64 1, .int .i64 b, .int .i64 c, .int .i64 d, .bool v, .slice A n f] 38)
  rcases hx with rfl | rfl
  · rw [if_pos rfl]
    have t0 := ta_dummy
    have t1 := ta_dataDummy
    have t2 := ta_data
    have t3 := ta_nilDummy
    have t4 := ta_nilData
    go_enter Try.func42, Try.ntmps42
    go_wp2_with fail
    refine (kindOf_data _ _ _ _ _ _ _ _).mono ?_
    rintro e w1 ⟨rfl, b1⟩
    replace S0 := S0.below b1 S0.lt
    have s1 := S0.lt
    have x0 := S0.cell (i := 0) rfl
    have x1 := S0.cell (i := 1) rfl
    have x2 := S0.cell (i := 2) rfl
    have x3 := S0.cell (i := 3) rfl
    have x4 := S0.cell (i := 4) rfl
    have x5 := S0.cell (i := 5) rfl
    have B1 := ac B0 b1
    clear b1 B0
    go_wp2_with fail
    refine (ca _).mono ?_
    rintro e w2 ⟨rfl, b2⟩
    have D0 := (Stc.new w1 137 [.int .i64 b, .bool v, .slice A n f] _ rfl).below b2 (by simp)
    have y0 := D0.cell (i := 0) rfl
    have y1 := D0.cell (i := 1) rfl
    have y2 := D0.cell (i := 2) rfl
    go_wp2_with fail
    refine (cd _).mono ?_
    rintro e w3 ⟨rfl, b3⟩
    go_wp2
    go_ret
    exact ⟨rfl, ac (ac (ab B1 _) b2) b3⟩
  · rw [if_neg (by omega)]
    have t0 := ta_dummy
    have t1 := ta_dataDummy
    have t2 := ta_data
    have t3 := ta_nilDummy
    have t4 := ta_nilData
    go_enter Try.func42, Try.ntmps42
    go_wp2_with fail
    refine (kindOf_data _ _ _ _ _ _ _ _).mono ?_
    rintro e w1 ⟨rfl, b1⟩
    replace S0 := S0.below b1 S0.lt
    have s1 := S0.lt
    have x0 := S0.cell (i := 0) rfl
    have x1 := S0.cell (i := 1) rfl
    have x2 := S0.cell (i := 2) rfl
    have x3 := S0.cell (i := 3) rfl
    have x4 := S0.cell (i := 4) rfl
    have x5 := S0.cell (i := 5) rfl
    have B1 := ac B0 b1
    clear b1 B0
    go_wp2_with fail
    refine (ca _).mono ?_
    rintro e w2 ⟨rfl, b2⟩
    go_wp2
    go_ret
    exact ⟨rfl, ac (ab B1 _) b2⟩

theorem ackC_bnd (c d : Int) : ackC c d = 0 ∨ ackC c d = 3 := by unfold ackC; split <;> simp

theorem specCellFault_any (a b c d : Int) (v : Bool) (A : Option Addr) (n f : Nat) (w : World) :
    Calls Try.prog 36 #[.agg #[.int .i64 a, .int .i64 b, .int .i64 c, .int .i64 d, .bool v, .slice A n f]] w fun e w' => e = .returned (.int .i64 (cellC a b c d v n)) ∧ Below w.heap.size w w' := by
  have hx : a = 1 → Calls Try.prog 36 #[.agg #[.int .i64 1, .int .i64 b, .int .i64 c, .int .i64 d, .bool v, .slice A n f]] w fun e w' => e = .returned (.int .i64 (if inB b 0 9999 = true ∧ inB c 0 10000 = true ∧ inB d 0 255 = true then (if n ≤ 32 then 0 else 2) else 3)) ∧ Below w.heap.size w w' := fun _ => by
    by_cases h1 : inB b 0 9999 = true
    · by_cases h2 : inB c 0 10000 = true
      · by_cases h3 : inB d 0 255 = true
        · rw [if_pos ⟨h1, h2, h3⟩]
          by_cases hn : n ≤ 32
          · rw [if_pos hn]; exact specCellFault_xk b v n c d A f w h1 h2 h3 (by omega)
          · rw [if_neg hn]; exact specCellFault_xm b v n c d A f w h1 h2 h3 (by omega)
        · rw [if_neg (fun h => h3 h.2.2)]; exact specCellFault_xd b v n c d A f w h1 h2 (by simpa using h3)
      · rw [if_neg (fun h => h2 h.2.1)]; exact specCellFault_xc b v n c d A f w h1 (by simpa using h2)
    · rw [if_neg (fun h => h1 h.1)]; exact specCellFault_xb b v n c d A f w (by simpa using h1)
  unfold cellC
  by_cases h1 : a = 1
  · rw [if_neg (by omega)]
    subst h1
    exact hx rfl
  · by_cases h0 : a = 0
    · subst h0
      by_cases hb : b = 0
      · subst hb
        cases v
        · by_cases hn : n = 0
          · subst hn
            rw [if_neg (by simp), if_pos (show (0 : Nat) ≤ 32 by omega)]
            by_cases h2 : inB c 0 10000 = true
            · by_cases h3 : inB d 0 255 = true
              · rw [if_pos ⟨rfl, h2, h3⟩]; exact specCellFault_yk c d A f w h2 h3
              · rw [if_neg (fun h => h3 h.2.2)]; exact specCellFault_yd c d A f w h2 (by simpa using h3)
            · rw [if_neg (fun h => h2 h.2.1)]; exact specCellFault_yc c d A f w (by simpa using h2)
          · rw [if_pos (.inr ⟨rfl, .inr (.inr hn)⟩)]
            exact specCellFault_d3 n c d A f w (by rw [bne_iff_ne]; omega)
        · rw [if_pos (.inr ⟨rfl, .inr (.inl rfl)⟩)]
          exact specCellFault_d2 n c d A f w
      · rw [if_pos (.inr ⟨rfl, .inl hb⟩)]
        exact specCellFault_d1 b v n c d A f w (by simpa using hb)
    · rw [if_pos (.inl ⟨h0, h1⟩)]
      exact specCellFault_no a b v n c d A f w (by simpa using h0) (by simpa using h1)

theorem implCellFault_any (a b c d : Int) (v : Bool) (A : Option Addr) (n f : Nat) (w : World) :
    Calls Try.prog 42 #[.agg #[.int .i64 a, .int .i64 b, .int .i64 c, .int .i64 d, .bool v, .slice A n f]] w fun e w' => e = .returned (.int .i64 (cellC a b c d v n)) ∧ Below w.heap.size w w' := by
  unfold cellC
  by_cases h1 : a = 1
  · rw [if_neg (by omega)]
    subst h1
    have h := implCellFault_data b c d v A n f w
    have e : (if ackC c d = 0 then dataC b n else ackC c d) = (if inB b 0 9999 = true ∧ inB c 0 10000 = true ∧ inB d 0 255 = true then (if n ≤ 32 then 0 else 2) else 3) := by
      unfold ackC dataC
      by_cases h1 : inB b 0 9999 = true <;> by_cases h2 : inB c 0 10000 = true <;> by_cases h3 : inB d 0 255 = true <;> simp [h1, h2, h3]
    rw [e] at h
    exact h
  · by_cases h0 : a = 0
    · subst h0
      by_cases hb : b = 0
      · subst hb
        cases v
        · by_cases hn : n = 0
          · subst hn
            rw [if_neg (by simp), if_pos (show (0 : Nat) ≤ 32 by omega)]
            have h := implCellFault_dummy c d A f w
            have e : ackC c d = (if inB 0 0 9999 = true ∧ inB c 0 10000 = true ∧ inB d 0 255 = true then 0 else 3) := by
              unfold ackC
              rw [show inB 0 0 9999 = true from rfl]
              simp
            rw [e] at h
            exact h
          · rw [if_pos (.inr ⟨rfl, .inr (.inr hn)⟩)]
            exact implCellFault_none 0 0 c d false A n f w (fun W => kindOf_d3 n c d A f W (by rw [beq_eq_false_iff_ne]; omega))
        · rw [if_pos (.inr ⟨rfl, .inr (.inl rfl)⟩)]
          exact implCellFault_none 0 0 c d true A n f w (fun W => kindOf_d2 n c d A f W)
      · rw [if_pos (.inr ⟨rfl, .inl hb⟩)]
        exact implCellFault_none 0 b c d v A n f w (fun W => kindOf_d1 b v n c d A f W (by simpa using hb))
    · rw [if_pos (.inl ⟨h0, h1⟩)]
      exact implCellFault_none a b c d v A n f w (fun W => kindOf_no a b v n c d A f W (by simpa using h0) (by simpa using h1))

end Go.Proofs.Ytpaemmoopjkppaa

