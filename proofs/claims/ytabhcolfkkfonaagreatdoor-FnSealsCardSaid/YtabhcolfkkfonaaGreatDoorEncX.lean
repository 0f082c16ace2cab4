import Derived.Test.YtabhcolfkkfonaaGreatDoorBase
import Derived.Test.YtabhcolfkkfonaaGreatDoorSymB
import Derived.Deep.RegionHeld3
import Derived.IntWalk
import Derived.Deep.CutRange
import Derived.Laws.CopyOwn

/-! CellM -/
/- The bytes of a cell, and what may be a cell: plain mathematics. -/
namespace Go.Proofs.YtabhcolfkkfonaaGreatDoor
open Go.RowKit

/-- what a cell's fault is -/
def cellC (a b c d : Int) (v : Bool) (n : Nat) : Int :=
  if (a ≠ 0 ∧ a ≠ 1) ∨ (a = 0 ∧ (b ≠ 0 ∨ v = true ∨ n ≠ 0)) then 1
  else if inB b 0 9999 = true ∧ inB c 0 10000 = true ∧ inB d 0 255 = true then (if n ≤ 32 then 0 else 2) else 3

/-- two bytes of a number, the highest one first -/
def hi2 (n : Int) : List Int := (lowOf n 2).reverse
theorem hi2_eq (n : Int) : hi2 n = [n / 256 % 256, n % 256] := by
  simp [hi2, lowOf, List.range_succ]
theorem hi2_by (n : Int) : By (hi2 n) := fun x hx => lowOf_byte n 2 x (List.mem_reverse.1 hx)
theorem hi2_len (n : Int) : (hi2 n).length = 2 := by simp [hi2_eq]

def bit (v : Bool) : Int := if v then 1 else 0

/-- the text of a cell -/
def cellL (a b c d : Int) (v : Bool) (l : List Int) : List Int :=
  a :: (hi2 b ++ (hi2 c ++ (d :: bit v :: (l.length : Int) :: (l ++ List.replicate (36 - l.length) 0))))
theorem cellL_len (a b c d : Int) (v : Bool) (l : List Int) (h : l.length ≤ 36) : (cellL a b c d v l).length = 44 := by
  simp [cellL, hi2_len]; omega

/-- the empty text with the fields of all kinds laid into it -/
def laid3 (a c d : Int) : List Int := (laidOver ((List.replicate 44 (0 : Int)).set 0 a) 3 (hi2 c)).set 5 d
theorem laid3_eq (a c d : Int) : laid3 a c d = a :: 0 :: 0 :: (hi2 c ++ (d :: 0 :: 0 :: List.replicate 36 0)) := by
  simp [laid3, laidOver, hi2_eq, List.replicate]
theorem dummy_eq (c d : Int) : laid3 0 c d = cellL 0 0 c d false [] := by
  rw [laid3_eq]
  simp [cellL, hi2_eq, bit, List.replicate]

/-- and then those of data -/
def laid7 (a b c d : Int) (v : Bool) (n : Int) : List Int := ((if v then (laidOver (laid3 a c d) 1 (hi2 b)).set 6 1 else laidOver (laid3 a c d) 1 (hi2 b))).set 7 n
theorem laid7_eq (a b c d : Int) (v : Bool) (n : Int) : laid7 a b c d v n = a :: (hi2 b ++ (hi2 c ++ (d :: bit v :: n :: List.replicate 36 0))) := by
  unfold laid7
  rw [laid3_eq]
  cases v <;> simp [laidOver, hi2_eq, bit]
theorem data_eq (a b c d : Int) (v : Bool) (l : List Int) : laidOver (laid7 a b c d v l.length) 8 l = cellL a b c d v l := by
  rw [laid7_eq]
  have e : List.drop l.length (List.replicate 36 (0 : Int)) = List.replicate (36 - l.length) 0 := List.drop_replicate ..
  unfold cellL
  rw [← e]
  generalize List.replicate 36 (0 : Int) = Z
  simp [laidOver, hi2_eq, Nat.add_comm 8]
theorem laid3_len (a c d : Int) : (laid3 a c d).length = 44 := by simp [laid3_eq, hi2_len]
theorem laid7_len (a b c d : Int) (v : Bool) (n : Int) : (laid7 a b c d v n).length = 44 := by simp [laid7_eq, hi2_len]
end Go.Proofs.YtabhcolfkkfonaaGreatDoor

/-! CellF -/
/- The fault of a cell, of the model and of the program. -/
namespace Go.Proofs.YtabhcolfkkfonaaGreatDoor
open Go.RowKit
set_option maxHeartbeats 1000000 in
theorem specCellFault_no (a b : Int) (v : Bool) (n : Nat) (c d : Int) (A : Option Addr) (f : Nat) (w : World) (h0 : (a != 0) = true) (h1 : (a != 1) = true) :
    Calls Tryz.prog 119 #[.agg #[.int .i64 a, .int .i64 b, .int .i64 c, .int .i64 d, .bool v, .slice A n f]] w fun e w' => e = .returned (.int .i64 1) ∧ Below w.heap.size w w' := by
  go_enter Tryz.func119, Tryz.ntmps119
  go_wp2
  go_ret
  exact ⟨rfl, by go_grown⟩

set_option maxHeartbeats 1000000 in
theorem specCellFault_d1 (b : Int) (v : Bool) (n : Nat) (c d : Int) (A : Option Addr) (f : Nat) (w : World) (h0 : (b != 0) = true) :
    Calls Tryz.prog 119 #[.agg #[.int .i64 0, .int .i64 b, .int .i64 c, .int .i64 d, .bool v, .slice A n f]] w fun e w' => e = .returned (.int .i64 1) ∧ Below w.heap.size w w' := by
  go_enter Tryz.func119, Tryz.ntmps119
  go_wp2
  go_ret
  exact ⟨rfl, by go_grown⟩

set_option maxHeartbeats 1000000 in
theorem specCellFault_d2 (n : Nat) (c d : Int) (A : Option Addr) (f : Nat) (w : World)  :
    Calls Tryz.prog 119 #[.agg #[.int .i64 0, .int .i64 0, .int .i64 c, .int .i64 d, .bool true, .slice A n f]] w fun e w' => e = .returned (.int .i64 1) ∧ Below w.heap.size w w' := by
  go_enter Tryz.func119, Tryz.ntmps119
  go_wp2
  go_ret
  exact ⟨rfl, by go_grown⟩

set_option maxHeartbeats 1000000 in
theorem specCellFault_d3 (n : Nat) (c d : Int) (A : Option Addr) (f : Nat) (w : World) (h0 : ((n : Int) != 0) = true) :
    Calls Tryz.prog 119 #[.agg #[.int .i64 0, .int .i64 0, .int .i64 c, .int .i64 d, .bool false, .slice A n f]] w fun e w' => e = .returned (.int .i64 1) ∧ Below w.heap.size w w' := by
  go_enter Tryz.func119, Tryz.ntmps119
  go_wp2
  go_ret
  exact ⟨rfl, by go_grown⟩

set_option maxHeartbeats 1000000 in
theorem specCellFault_yc  (c d : Int) (A : Option Addr) (f : Nat) (w : World)  (h : inB c 0 10000 = false) :
    Calls Tryz.prog 119 #[.agg #[.int .i64 0, .int .i64 0, .int .i64 c, .int .i64 d, .bool false, .slice A 0 f]] w fun e w' => e = .returned (.int .i64 3) ∧ Below w.heap.size w w' := by
  have h1 : inB 0 0 9999 = true := rfl
  have cb := In_any 0 0 9999
  rw [h1] at cb
  have cc := In_any c 0 10000
  rw [h] at cc
  clear h1 h
  go_enter Tryz.func119, Tryz.ntmps119
  go_wp2_with fail
  refine (cb _).mono ?_
  rintro e w' ⟨rfl, rfl⟩
  go_wp2_with fail
  refine (cc _).mono ?_
  rintro e w' ⟨rfl, rfl⟩
  go_wp2
  go_ret
  exact ⟨rfl, by go_grown⟩

set_option maxHeartbeats 1000000 in
theorem specCellFault_yd  (c d : Int) (A : Option Addr) (f : Nat) (w : World)  (h2 : inB c 0 10000 = true) (h : inB d 0 255 = false) :
    Calls Tryz.prog 119 #[.agg #[.int .i64 0, .int .i64 0, .int .i64 c, .int .i64 d, .bool false, .slice A 0 f]] w fun e w' => e = .returned (.int .i64 3) ∧ Below w.heap.size w w' := by
  have h1 : inB 0 0 9999 = true := rfl
  have cb := In_any 0 0 9999
  rw [h1] at cb
  have cc := In_any c 0 10000
  rw [h2] at cc
  have cd := In_any d 0 255
  rw [h] at cd
  clear h1 h2 h
  go_enter Tryz.func119, Tryz.ntmps119
  go_wp2_with fail
  refine (cb _).mono ?_
  rintro e w' ⟨rfl, rfl⟩
  go_wp2_with fail
  refine (cc _).mono ?_
  rintro e w' ⟨rfl, rfl⟩
  go_wp2_with fail
  refine (cd _).mono ?_
  rintro e w' ⟨rfl, rfl⟩
  go_wp2
  go_ret
  exact ⟨rfl, by go_grown⟩

set_option maxHeartbeats 1000000 in
theorem specCellFault_yk  (c d : Int) (A : Option Addr) (f : Nat) (w : World)  (h2 : inB c 0 10000 = true) (h3 : inB d 0 255 = true) :
    Calls Tryz.prog 119 #[.agg #[.int .i64 0, .int .i64 0, .int .i64 c, .int .i64 d, .bool false, .slice A 0 f]] w fun e w' => e = .returned (.int .i64 0) ∧ Below w.heap.size w w' := by
  have h1 : inB 0 0 9999 = true := rfl
  have cb := In_any 0 0 9999
  rw [h1] at cb
  have cc := In_any c 0 10000
  rw [h2] at cc
  have cd := In_any d 0 255
  rw [h3] at cd
  clear h1 h2 h3
  go_enter Tryz.func119, Tryz.ntmps119
  go_wp2_with fail
  refine (cb _).mono ?_
  rintro e w' ⟨rfl, rfl⟩
  go_wp2_with fail
  refine (cc _).mono ?_
  rintro e w' ⟨rfl, rfl⟩
  go_wp2_with fail
  refine (cd _).mono ?_
  rintro e w' ⟨rfl, rfl⟩
  go_wp2
  go_ret
  exact ⟨rfl, by go_grown⟩

set_option maxHeartbeats 1000000 in
theorem specCellFault_xb (b : Int) (v : Bool) (n : Nat) (c d : Int) (A : Option Addr) (f : Nat) (w : World) (h : inB b 0 9999 = false) :
    Calls Tryz.prog 119 #[.agg #[.int .i64 1, .int .i64 b, .int .i64 c, .int .i64 d, .bool v, .slice A n f]] w fun e w' => e = .returned (.int .i64 3) ∧ Below w.heap.size w w' := by
  have cb := In_any b 0 9999
  rw [h] at cb
  clear h
  go_enter Tryz.func119, Tryz.ntmps119
  go_wp2_with fail
  refine (cb _).mono ?_
  rintro e w' ⟨rfl, rfl⟩
  go_wp2
  go_ret
  exact ⟨rfl, by go_grown⟩

set_option maxHeartbeats 1000000 in
theorem specCellFault_xc (b : Int) (v : Bool) (n : Nat) (c d : Int) (A : Option Addr) (f : Nat) (w : World) (h1 : inB b 0 9999 = true) (h : inB c 0 10000 = false) :
    Calls Tryz.prog 119 #[.agg #[.int .i64 1, .int .i64 b, .int .i64 c, .int .i64 d, .bool v, .slice A n f]] w fun e w' => e = .returned (.int .i64 3) ∧ Below w.heap.size w w' := by
  have cb := In_any b 0 9999
  rw [h1] at cb
  have cc := In_any c 0 10000
  rw [h] at cc
  clear h1 h
  go_enter Tryz.func119, Tryz.ntmps119
  go_wp2_with fail
  refine (cb _).mono ?_
  rintro e w' ⟨rfl, rfl⟩
  go_wp2_with fail
  refine (cc _).mono ?_
  rintro e w' ⟨rfl, rfl⟩
  go_wp2
  go_ret
  exact ⟨rfl, by go_grown⟩

set_option maxHeartbeats 1000000 in
theorem specCellFault_xd (b : Int) (v : Bool) (n : Nat) (c d : Int) (A : Option Addr) (f : Nat) (w : World) (h1 : inB b 0 9999 = true) (h2 : inB c 0 10000 = true) (h : inB d 0 255 = false) :
    Calls Tryz.prog 119 #[.agg #[.int .i64 1, .int .i64 b, .int .i64 c, .int .i64 d, .bool v, .slice A n f]] w fun e w' => e = .returned (.int .i64 3) ∧ Below w.heap.size w w' := by
  have cb := In_any b 0 9999
  rw [h1] at cb
  have cc := In_any c 0 10000
  rw [h2] at cc
  have cd := In_any d 0 255
  rw [h] at cd
  clear h1 h2 h
  go_enter Tryz.func119, Tryz.ntmps119
  go_wp2_with fail
  refine (cb _).mono ?_
  rintro e w' ⟨rfl, rfl⟩
  go_wp2_with fail
  refine (cc _).mono ?_
  rintro e w' ⟨rfl, rfl⟩
  go_wp2_with fail
  refine (cd _).mono ?_
  rintro e w' ⟨rfl, rfl⟩
  go_wp2
  go_ret
  exact ⟨rfl, by go_grown⟩

set_option maxHeartbeats 1000000 in
theorem specCellFault_xm (b : Int) (v : Bool) (n : Nat) (c d : Int) (A : Option Addr) (f : Nat) (w : World) (h1 : inB b 0 9999 = true) (h2 : inB c 0 10000 = true) (h3 : inB d 0 255 = true) (h : 32 < (n : Int)) :
    Calls Tryz.prog 119 #[.agg #[.int .i64 1, .int .i64 b, .int .i64 c, .int .i64 d, .bool v, .slice A n f]] w fun e w' => e = .returned (.int .i64 2) ∧ Below w.heap.size w w' := by
  have cb := In_any b 0 9999
  rw [h1] at cb
  have cc := In_any c 0 10000
  rw [h2] at cc
  have cd := In_any d 0 255
  rw [h3] at cd
  clear h1 h2 h3
  go_enter Tryz.func119, Tryz.ntmps119
  go_wp2_with fail
  refine (cb _).mono ?_
  rintro e w' ⟨rfl, rfl⟩
  go_wp2_with fail
  refine (cc _).mono ?_
  rintro e w' ⟨rfl, rfl⟩
  go_wp2_with fail
  refine (cd _).mono ?_
  rintro e w' ⟨rfl, rfl⟩
  go_wp2
  go_ret
  exact ⟨rfl, by go_grown⟩

set_option maxHeartbeats 1000000 in
theorem specCellFault_xk (b : Int) (v : Bool) (n : Nat) (c d : Int) (A : Option Addr) (f : Nat) (w : World) (h1 : inB b 0 9999 = true) (h2 : inB c 0 10000 = true) (h3 : inB d 0 255 = true) (h : ¬ 32 < (n : Int)) :
    Calls Tryz.prog 119 #[.agg #[.int .i64 1, .int .i64 b, .int .i64 c, .int .i64 d, .bool v, .slice A n f]] w fun e w' => e = .returned (.int .i64 0) ∧ Below w.heap.size w w' := by
  have cb := In_any b 0 9999
  rw [h1] at cb
  have cc := In_any c 0 10000
  rw [h2] at cc
  have cd := In_any d 0 255
  rw [h3] at cd
  clear h1 h2 h3
  go_enter Tryz.func119, Tryz.ntmps119
  go_wp2_with fail
  refine (cb _).mono ?_
  rintro e w' ⟨rfl, rfl⟩
  go_wp2_with fail
  refine (cc _).mono ?_
  rintro e w' ⟨rfl, rfl⟩
  go_wp2_with fail
  refine (cd _).mono ?_
  rintro e w' ⟨rfl, rfl⟩
  go_wp2
  go_ret
  exact ⟨rfl, by go_grown⟩

set_option maxHeartbeats 1000000 in
theorem kindOf_data (b : Int) (v : Bool) (n : Nat) (c d : Int) (A : Option Addr) (f : Nat) (w : World)  :
    Calls Tryz.prog 158 #[.agg #[.int .i64 1, .int .i64 b, .int .i64 c, .int .i64 d, .bool v, .slice A n f]] w fun e w' => e = .returned (.iface 155 (.agg #[.int .i64 b, .bool v, .slice A n f])) ∧ Below w.heap.size w w' := by
  go_enter Tryz.func158, Tryz.ntmps158
  go_wp2
  go_ret
  exact ⟨rfl, by go_grown⟩

set_option maxHeartbeats 1000000 in
theorem kindOf_dummy  (c d : Int) (A : Option Addr) (f : Nat) (w : World)  :
    Calls Tryz.prog 158 #[.agg #[.int .i64 0, .int .i64 0, .int .i64 c, .int .i64 d, .bool false, .slice A 0 f]] w fun e w' => e = .returned (.iface 153 (.agg #[])) ∧ Below w.heap.size w w' := by
  go_enter Tryz.func158, Tryz.ntmps158
  go_wp2
  go_ret
  exact ⟨rfl, by go_grown⟩

set_option maxHeartbeats 1000000 in
theorem kindOf_no (a b : Int) (v : Bool) (n : Nat) (c d : Int) (A : Option Addr) (f : Nat) (w : World) (h0 : (a == 0) = false) (h1 : (a == 1) = false) :
    Calls Tryz.prog 158 #[.agg #[.int .i64 a, .int .i64 b, .int .i64 c, .int .i64 d, .bool v, .slice A n f]] w fun e w' => e = .returned (.nilIface) ∧ Below w.heap.size w w' := by
  go_enter Tryz.func158, Tryz.ntmps158
  go_wp2
  go_ret
  exact ⟨rfl, by go_grown⟩

set_option maxHeartbeats 1000000 in
theorem kindOf_d1 (b : Int) (v : Bool) (n : Nat) (c d : Int) (A : Option Addr) (f : Nat) (w : World) (h0 : (b == 0) = false) :
    Calls Tryz.prog 158 #[.agg #[.int .i64 0, .int .i64 b, .int .i64 c, .int .i64 d, .bool v, .slice A n f]] w fun e w' => e = .returned (.nilIface) ∧ Below w.heap.size w w' := by
  go_enter Tryz.func158, Tryz.ntmps158
  go_wp2
  go_ret
  exact ⟨rfl, by go_grown⟩

set_option maxHeartbeats 1000000 in
theorem kindOf_d2 (n : Nat) (c d : Int) (A : Option Addr) (f : Nat) (w : World)  :
    Calls Tryz.prog 158 #[.agg #[.int .i64 0, .int .i64 0, .int .i64 c, .int .i64 d, .bool true, .slice A n f]] w fun e w' => e = .returned (.nilIface) ∧ Below w.heap.size w w' := by
  go_enter Tryz.func158, Tryz.ntmps158
  go_wp2
  go_ret
  exact ⟨rfl, by go_grown⟩

set_option maxHeartbeats 1000000 in
theorem kindOf_d3 (n : Nat) (c d : Int) (A : Option Addr) (f : Nat) (w : World) (h0 : ((n : Int) == 0) = false) :
    Calls Tryz.prog 158 #[.agg #[.int .i64 0, .int .i64 0, .int .i64 c, .int .i64 d, .bool false, .slice A n f]] w fun e w' => e = .returned (.nilIface) ∧ Below w.heap.size w w' := by
  go_enter Tryz.func158, Tryz.ntmps158
  go_wp2
  go_ret
  exact ⟨rfl, by go_grown⟩

/-- what the fields of all kinds come to -/
def ackC (c d : Int) : Int := if inB c 0 10000 = true ∧ inB d 0 255 = true then 0 else 3
theorem ackFault_any (a b c d : Int) (v : Bool) (A : Option Addr) (n f : Nat) (w : World) :
    Calls Tryz.prog 159 #[.agg #[.int .i64 a, .int .i64 b, .int .i64 c, .int .i64 d, .bool v, .slice A n f]] w fun e w' => e = .returned (.int .i64 (ackC c d)) ∧ Below w.heap.size w w' := by
  by_cases h : (0 ≤ c ∧ c ≤ 10000) ∧ 0 ≤ d ∧ d ≤ 255
  · have e : ackC c d = 0 := by simp [ackC, inB, h]
    rw [e]
    obtain ⟨⟨c0, c1⟩, d0, d1⟩ := h
    have c0' : ¬ c < 0 := by omega
    have c1' : ¬ 10000 < c := by omega
    have d0' : ¬ d < 0 := by omega
    have d1' : ¬ 255 < d := by omega
    clear e
    go_enter Tryz.func159, Tryz.ntmps159
    go_wp2
    go_ret
    exact ⟨rfl, by go_grown⟩
  · have e : ackC c d = 3 := by
      unfold ackC inB
      rw [if_neg]
      simp only [decide_eq_true_eq]
      exact h
    rw [e]
    clear e
    by_cases c0 : c < 0
    · clear h
      go_enter Tryz.func159, Tryz.ntmps159
      go_wp2
      go_ret
      exact ⟨rfl, by go_grown⟩
    · by_cases c1 : 10000 < c
      · clear h
        go_enter Tryz.func159, Tryz.ntmps159
        go_wp2
        go_ret
        exact ⟨rfl, by go_grown⟩
      · by_cases d0 : d < 0
        · clear h
          go_enter Tryz.func159, Tryz.ntmps159
          go_wp2
          go_ret
          exact ⟨rfl, by go_grown⟩
        · have d1 : 255 < d := by omega
          clear h
          go_enter Tryz.func159, Tryz.ntmps159
          go_wp2
          go_ret
          exact ⟨rfl, by go_grown⟩

/-- what data of their own come to -/
def dataC (b : Int) (n : Nat) : Int := if inB b 0 9999 = true then (if n ≤ 32 then 0 else 2) else 3
theorem dataFault_any (b : Int) (v : Bool) (A : Option Addr) (n f : Nat) (w : World) :
    Calls Tryz.prog 160 #[.agg #[.int .i64 b, .bool v, .slice A n f]] w fun e w' => e = .returned (.int .i64 (dataC b n)) ∧ Below w.heap.size w w' := by
  unfold dataC inB
  simp only [decide_eq_true_eq]
  by_cases b0 : b < 0
  · rw [if_neg (by omega)]
    go_enter Tryz.func160, Tryz.ntmps160
    go_wp2
    go_ret
    exact ⟨rfl, by go_grown⟩
  · by_cases b1 : 9999 < b
    · rw [if_neg (by omega)]
      go_enter Tryz.func160, Tryz.ntmps160
      go_wp2
      go_ret
      exact ⟨rfl, by go_grown⟩
    · rw [if_pos (by omega)]
      by_cases hn : n ≤ 32
      · rw [if_pos hn]
        have hn' : ¬ 32 < (n : Int) := by omega
        clear hn
        go_enter Tryz.func160, Tryz.ntmps160
        go_wp2
        go_ret
        exact ⟨rfl, by go_grown⟩
      · rw [if_neg hn]
        have hn' : 32 < (n : Int) := by omega
        clear hn
        go_enter Tryz.func160, Tryz.ntmps160
        go_wp2
        go_ret
        exact ⟨rfl, by go_grown⟩

theorem ta_dummy (v : Value) (w : World) : (Instr.typeAssert (.iface 153 v) 150 153 true).run Tryz.prog w = .ok (.tuple #[v, .bool true]) w := by kernel_rfl
theorem ta_dataDummy (v : Value) (w : World) : (Instr.typeAssert (.iface 155 v) 150 153 true).run Tryz.prog w = .ok (.tuple #[.agg #[], .bool false]) w := by kernel_rfl
theorem ta_data (v : Value) (w : World) : (Instr.typeAssert (.iface 155 v) 150 155 true).run Tryz.prog w = .ok (.tuple #[v, .bool true]) w := by kernel_rfl
theorem ta_nilDummy (w : World) : (Instr.typeAssert .nilIface 150 153 true).run Tryz.prog w = .ok (.tuple #[.agg #[], .bool false]) w := by kernel_rfl
theorem ta_nilData (w : World) : (Instr.typeAssert .nilIface 150 155 true).run Tryz.prog w = .ok (.tuple #[.agg #[.int .i64 0, .bool false, .slice none 0 0], .bool false]) w := by kernel_rfl

set_option maxHeartbeats 1000000 in
theorem implCellFault_none (a b c d : Int) (v : Bool) (A : Option Addr) (n f : Nat) (w : World) (hk : ∀ W : World, Calls Tryz.prog 158 #[.agg #[.int .i64 a, .int .i64 b, .int .i64 c, .int .i64 d, .bool v, .slice A n f]] W fun e w' => e = .returned .nilIface ∧ Below W.heap.size W w') :
    Calls Tryz.prog 109 #[.agg #[.int .i64 a, .int .i64 b, .int .i64 c, .int .i64 d, .bool v, .slice A n f]] w fun e w' => e = .returned (.int .i64 1) ∧ Below w.heap.size w w' := by
  have t0 := ta_dummy
  have t1 := ta_dataDummy
  have t2 := ta_data
  have t3 := ta_nilDummy
  have t4 := ta_nilData
  go_enter Tryz.func109, Tryz.ntmps109
  go_wp2_with fail
  refine (hk _).mono ?_
  rintro e w1 ⟨rfl, b1⟩
  go_wp2
  go_ret
  exact ⟨rfl, ac (ab (Below.refl _ w) _) b1⟩

set_option maxHeartbeats 1000000 in
theorem implCellFault_dummy (c d : Int) (A : Option Addr) (f : Nat) (w : World) :
    Calls Tryz.prog 109 #[.agg #[.int .i64 0, .int .i64 0, .int .i64 c, .int .i64 d, .bool false, .slice A 0 f]] w fun e w' => e = .returned (.int .i64 (ackC c d)) ∧ Below w.heap.size w w' := by
  have S0 := Stc.new w 52 [.int .i64 0, .int .i64 0, .int .i64 c, .int .i64 d, .bool false, .slice A 0 f] _ rfl
  generalize hX : ackC c d = X
  have ca := fun W => ackFault_any 0 0 c d false A 0 f W
  rw [hX] at ca
  clear hX
  have t0 := ta_dummy
  have t1 := ta_dataDummy
  have t2 := ta_data
  have t3 := ta_nilDummy
  have t4 := ta_nilData
  go_enter Tryz.func109, Tryz.ntmps109
  go_wp2_with fail
  refine (kindOf_dummy _ _ _ _ _).mono ?_
  rintro e w1 ⟨rfl, b1⟩
  replace S0 := S0.below b1 S0.lt
  have s1 := S0.lt
  have x0 := S0.cell (i := 0) rfl
  have x1 := S0.cell (i := 1) rfl
  have x2 := S0.cell (i := 2) rfl
  have x3 := S0.cell (i := 3) rfl
  have x4 := S0.cell (i := 4) rfl
  have x5 := S0.cell (i := 5) rfl
  have B1 := ac (ab (Below.refl _ w) (.cells #[.int .i64 0, .int .i64 0, .int .i64 c, .int .i64 d, .bool false, .slice A 0 f] 52)) b1
  clear b1
  go_wp2_with fail
  refine (ca _).mono ?_
  rintro e w2 ⟨rfl, b2⟩
  go_wp2
  go_ret
  exact ⟨rfl, ac (ab B1 _) b2⟩

set_option maxHeartbeats 1000000 in
theorem implCellFault_data (b c d : Int) (v : Bool) (A : Option Addr) (n f : Nat) (w : World) :
    Calls Tryz.prog 109 #[.agg #[.int .i64 1, .int .i64 b, .int .i64 c, .int .i64 d, .bool v, .slice A n f]] w fun e w' => e = .returned (.int .i64 (if ackC c d = 0 then dataC b n else ackC c d)) ∧ Below w.heap.size w w' := by
  have S0 := Stc.new w 52 [.int .i64 1, .int .i64 b, .int .i64 c, .int .i64 d, .bool v, .slice A n f] _ rfl
  have ca := fun W => ackFault_any 1 b c d v A n f W
  have cd := fun W => dataFault_any b v A n f W
  generalize dataC b n = Y at *
  have hx : ackC c d = 0 ∨ ackC c d = 3 := by unfold ackC; split <;> simp
  generalize ackC c d = X at *
  have B0 := ab (Below.refl _ w) (.cells #[.int .i64 1, .int .i64 b, .int .i64 c, .int .i64 d, .bool v, .slice A n f] 52)
  rcases hx with rfl | rfl
  · rw [if_pos rfl]
    have t0 := ta_dummy
    have t1 := ta_dataDummy
    have t2 := ta_data
    have t3 := ta_nilDummy
    have t4 := ta_nilData
    go_enter Tryz.func109, Tryz.ntmps109
    go_wp2_with fail
    refine (kindOf_data _ _ _ _ _ _ _ _).mono ?_
    rintro e w1 ⟨rfl, b1⟩
    replace S0 := S0.below b1 S0.lt
    have s1 := S0.lt
    have x0 := S0.cell (i := 0) rfl
    have x1 := S0.cell (i := 1) rfl
    have x2 := S0.cell (i := 2) rfl
    have x3 := S0.cell (i := 3) rfl
    have x4 := S0.cell (i := 4) rfl
    have x5 := S0.cell (i := 5) rfl
    have B1 := ac B0 b1
    clear b1 B0
    go_wp2_with fail
    refine (ca _).mono ?_
    rintro e w2 ⟨rfl, b2⟩
    have D0 := (Stc.new w1 155 [.int .i64 b, .bool v, .slice A n f] _ rfl).below b2 (by simp)
    have y0 := D0.cell (i := 0) rfl
    have y1 := D0.cell (i := 1) rfl
    have y2 := D0.cell (i := 2) rfl
    go_wp2_with fail
    refine (cd _).mono ?_
    rintro e w3 ⟨rfl, b3⟩
    go_wp2
    go_ret
    exact ⟨rfl, ac (ac (ab B1 _) b2) b3⟩
  · rw [if_neg (by omega)]
    have t0 := ta_dummy
    have t1 := ta_dataDummy
    have t2 := ta_data
    have t3 := ta_nilDummy
    have t4 := ta_nilData
    go_enter Tryz.func109, Tryz.ntmps109
    go_wp2_with fail
    refine (kindOf_data _ _ _ _ _ _ _ _).mono ?_
    rintro e w1 ⟨rfl, b1⟩
    replace S0 := S0.below b1 S0.lt
    have s1 := S0.lt
    have x0 := S0.cell (i := 0) rfl
    have x1 := S0.cell (i := 1) rfl
    have x2 := S0.cell (i := 2) rfl
    have x3 := S0.cell (i := 3) rfl
    have x4 := S0.cell (i := 4) rfl
    have x5 := S0.cell (i := 5) rfl
    have B1 := ac B0 b1
    clear b1 B0
    go_wp2_with fail
    refine (ca _).mono ?_
    rintro e w2 ⟨rfl, b2⟩
    go_wp2
    go_ret
    exact ⟨rfl, ac (ab B1 _) b2⟩

theorem ackC_bnd (c d : Int) : ackC c d = 0 ∨ ackC c d = 3 := by unfold ackC; split <;> simp

theorem specCellFault_any (a b c d : Int) (v : Bool) (A : Option Addr) (n f : Nat) (w : World) :
    Calls Tryz.prog 119 #[.agg #[.int .i64 a, .int .i64 b, .int .i64 c, .int .i64 d, .bool v, .slice A n f]] w fun e w' => e = .returned (.int .i64 (cellC a b c d v n)) ∧ Below w.heap.size w w' := by
  have hx : a = 1 → Calls Tryz.prog 119 #[.agg #[.int .i64 1, .int .i64 b, .int .i64 c, .int .i64 d, .bool v, .slice A n f]] w fun e w' => e = .returned (.int .i64 (if inB b 0 9999 = true ∧ inB c 0 10000 = true ∧ inB d 0 255 = true then (if n ≤ 32 then 0 else 2) else 3)) ∧ Below w.heap.size w w' := fun _ => by
    by_cases h1 : inB b 0 9999 = true
    · by_cases h2 : inB c 0 10000 = true
      · by_cases h3 : inB d 0 255 = true
        · rw [if_pos ⟨h1, h2, h3⟩]
          by_cases hn : n ≤ 32
          · rw [if_pos hn]; exact specCellFault_xk b v n c d A f w h1 h2 h3 (by omega)
          · rw [if_neg hn]; exact specCellFault_xm b v n c d A f w h1 h2 h3 (by omega)
        · rw [if_neg (fun h => h3 h.2.2)]; exact specCellFault_xd b v n c d A f w h1 h2 (by simpa using h3)
      · rw [if_neg (fun h => h2 h.2.1)]; exact specCellFault_xc b v n c d A f w h1 (by simpa using h2)
    · rw [if_neg (fun h => h1 h.1)]; exact specCellFault_xb b v n c d A f w (by simpa using h1)
  unfold cellC
  by_cases h1 : a = 1
  · rw [if_neg (by omega)]
    subst h1
    exact hx rfl
  · by_cases h0 : a = 0
    · subst h0
      by_cases hb : b = 0
      · subst hb
        cases v
        · by_cases hn : n = 0
          · subst hn
            rw [if_neg (by simp), if_pos (show (0 : Nat) ≤ 32 by omega)]
            by_cases h2 : inB c 0 10000 = true
            · by_cases h3 : inB d 0 255 = true
              · rw [if_pos ⟨rfl, h2, h3⟩]; exact specCellFault_yk c d A f w h2 h3
              · rw [if_neg (fun h => h3 h.2.2)]; exact specCellFault_yd c d A f w h2 (by simpa using h3)
            · rw [if_neg (fun h => h2 h.2.1)]; exact specCellFault_yc c d A f w (by simpa using h2)
          · rw [if_pos (.inr ⟨rfl, .inr (.inr hn)⟩)]
            exact specCellFault_d3 n c d A f w (by rw [bne_iff_ne]; omega)
        · rw [if_pos (.inr ⟨rfl, .inr (.inl rfl)⟩)]
          exact specCellFault_d2 n c d A f w
      · rw [if_pos (.inr ⟨rfl, .inl hb⟩)]
        exact specCellFault_d1 b v n c d A f w (by simpa using hb)
    · rw [if_pos (.inl ⟨h0, h1⟩)]
      exact specCellFault_no a b v n c d A f w (by simpa using h0) (by simpa using h1)

theorem implCellFault_any (a b c d : Int) (v : Bool) (A : Option Addr) (n f : Nat) (w : World) :
    Calls Tryz.prog 109 #[.agg #[.int .i64 a, .int .i64 b, .int .i64 c, .int .i64 d, .bool v, .slice A n f]] w fun e w' => e = .returned (.int .i64 (cellC a b c d v n)) ∧ Below w.heap.size w w' := by
  unfold cellC
  by_cases h1 : a = 1
  · rw [if_neg (by omega)]
    subst h1
    have h := implCellFault_data b c d v A n f w
    have e : (if ackC c d = 0 then dataC b n else ackC c d) = (if inB b 0 9999 = true ∧ inB c 0 10000 = true ∧ inB d 0 255 = true then (if n ≤ 32 then 0 else 2) else 3) := by
      unfold ackC dataC
      by_cases h1 : inB b 0 9999 = true <;> by_cases h2 : inB c 0 10000 = true <;> by_cases h3 : inB d 0 255 = true <;> simp [h1, h2, h3]
    rw [e] at h
    exact h
  · by_cases h0 : a = 0
    · subst h0
      by_cases hb : b = 0
      · subst hb
        cases v
        · by_cases hn : n = 0
          · subst hn
            rw [if_neg (by simp), if_pos (show (0 : Nat) ≤ 32 by omega)]
            have h := implCellFault_dummy c d A f w
            have e : ackC c d = (if inB 0 0 9999 = true ∧ inB c 0 10000 = true ∧ inB d 0 255 = true then 0 else 3) := by
              unfold ackC
              rw [show inB 0 0 9999 = true from rfl]
              simp
            rw [e] at h
            exact h
          · rw [if_pos (.inr ⟨rfl, .inr (.inr hn)⟩)]
            exact implCellFault_none 0 0 c d false A n f w (fun W => kindOf_d3 n c d A f W (by rw [beq_eq_false_iff_ne]; omega))
        · rw [if_pos (.inr ⟨rfl, .inr (.inl rfl)⟩)]
          exact implCellFault_none 0 0 c d true A n f w (fun W => kindOf_d2 n c d A f W)
      · rw [if_pos (.inr ⟨rfl, .inl hb⟩)]
        exact implCellFault_none 0 b c d v A n f w (fun W => kindOf_d1 b v n c d A f W (by simpa using hb))
    · rw [if_pos (.inl ⟨h0, h1⟩)]
      exact implCellFault_none a b c d v A n f w (fun W => kindOf_no a b v n c d A f W (by simpa using h0) (by simpa using h1))

end Go.Proofs.YtabhcolfkkfonaaGreatDoor

/-! EncC -/
/- The text of a cell, of the model. -/
namespace Go.Proofs.YtabhcolfkkfonaaGreatDoor
open Go.RowKit

theorem Row.madeR (w : World) (l : List Int) (n : Nat) (hl : By l) (hn : l.length = n) (hm : n ≤ 1000000) : Row (w.alloc (.cells (l.map (Value.int .u8)).toArray 5)) w.heap.size (.slice (some ⟨w.heap.size, 0, none⟩) n n) l := by
  subst hn
  refine ⟨hl, ⟨by simp, .inr ⟨w.heap.size, l.length, _, rfl, Nat.le_refl _, heap_alloc_new w _, Nat.le_refl _, by unfold maxLen; omega, by simp, ?_⟩⟩⟩
  rw [Nat.mul_one]
  exact List.take_of_length_le (by simp)
theorem Row.belowR {w w' : World} {B C : Nat} {v : Value} {l : List Int} (h : Row w B v l) (hb : Below C w w') (hC : w.heap.size ≤ C) : Row w' B v l := h.keep (fun g _ h2 => hb.block g (by omega))

theorem Bs.drewX {w : World} {A : Option Addr} {n : Nat} {l : List Int} (h : Bs w A n l) : Bs w.drew A n l := ⟨h.len, h.byte, h.at_⟩

set_option maxRecDepth 100000 in
/-- bytes put behind a row, as one step of a region that draws its order -/
theorem step_join_putR {ops : Array Oper} {o : Oper} {a : Act} {K : Act → World → Prop} {Q : Exit → Act → World → Prop} {E : Prop} (hgd : o.guard = none) (s x : Operand)
    (ho : o.op = .call { callee := .builtin .append, args := #[s, x], argTypes := #[22, 22] })
    (w : World) (B : Nat) (v : Value) (l r : List Int) (hs : a.eval s = v) (hrow : Row w B v l) (hB : B ≤ w.heap.size)
    (ad : Addr) (n c : Nat) (hx : a.eval x = .slice (some ad) n c) (hbs : Bs w (some ad) n r) (hlen : l.length + n ≤ 140737488351232)
    (h : ∀ v' w', Row w' B v' (l ++ r) → Below B w w' → w.heap.size ≤ w'.heap.size → K (a.put o.dst v') w') :
    if Region.wanted o (yielded ops a.tmps) = true then Oper.wp Tryz.prog o a w K Q else E := by
  have hw : Region.wanted o (yielded ops a.tmps) = true := by simp [Region.wanted, hgd]
  rw [if_pos hw]
  obtain ⟨i0, hi, hz0, hz1, hz2⟩ := info_parts info_u8
  have hrl := hbs.len
  have hcell : ∀ j u, (r.map (Value.int .u8))[j]? = some u → w.cell? (ad.add j) = some u := by
    intro j u hu
    have hj : j < r.length := by
      rcases Nat.lt_or_ge j r.length with h1 | h1
      · exact h1
      · rw [List.getElem?_eq_none (by simpa using h1)] at hu; cases hu
    obtain ⟨b, off, e, _, hc⟩ := hbs.at_ (by omega)
    injection e with e
    subst e
    have hadd : (⟨b, off, none⟩ : Addr).add j = ⟨b, off + j, none⟩ := by unfold Addr.add; split <;> simp_all
    rw [hadd, hc j (by omega)]
    rw [List.getElem?_map, List.getElem?_eq_getElem hj] at hu
    simpa [List.getD, List.getElem?_eq_getElem hj] using hu
  refine wp_append_own w s x 22 ho B 5 i0 (.int .u8 0) 1 1 Tryz.underlying22 hi hz0 hz1 hz2 rfl (by decide) v l.length _ hs hrow.own ad n c (r.map (Value.int .u8)) hx (by simp [hrl]) hcell
    (fun u hu => by obtain ⟨y, _, rfl⟩ := List.mem_map.1 hu; rfl) (by unfold maxLen; omega) (by omega) hB ?_
  intro v' w' hown hgrow _
  refine h v' w' ⟨hrow.byte.append hbs.byte, ?_⟩ ⟨hgrow.os, hgrow.tape, hgrow.output, hgrow.size, fun k hk => hgrow.block k (by omega) (fun e => ?_)⟩ hgrow.size
  · rw [List.length_append, List.map_append, hrl]; exact hown
  · have := (hrow.own.lt k e.symm).1
    omega

theorem high2_any (n : Int) (w : World) (h0 : 0 ≤ n) (hn : n ≤ 9223372036854775807) :
    Calls Tryz.prog 171 #[.int .i64 n, .int .i64 2] w fun e w' => (∃ g c, e = .returned (.slice (some ⟨g, 0, none⟩) 2 c) ∧ Bs w' (some ⟨g, 0, none⟩) 2 (hi2 n)) ∧ Below w.heap.size w w' :=
  (l1High_any n 2 w h0 hn (by omega)).mono fun e w' ⟨⟨A, c, he, ho⟩, hb⟩ => by
    obtain ⟨g, rfl, _⟩ := ho.at_ (by omega)
    exact ⟨⟨g, c, he, ho.bs⟩, hb⟩


set_option maxRecDepth 100000 in
set_option maxHeartbeats 4000000 in
theorem l6Encode_any (p : Nat) (a b c d : Int) (v : Bool) (A : Option Addr) (n f : Nat) (l : List Int) (w : World) (hS : Stc w p [.int .i64 a, .int .i64 b, .int .i64 c, .int .i64 d, .bool v, .slice A n f] 52) (hA : Bs w A n l) (hcap : A = none → f = 0)
    (ha0 : 0 ≤ a) (ha1 : a < 256) (hb0 : 0 ≤ b) (hb1 : b ≤ 100000) (hc0 : 0 ≤ c) (hc1 : c ≤ 100000) (hd0 : 0 ≤ d) (hd1 : d < 256) (hn : n ≤ 32) :
    Calls Tryz.prog 172 #[.pointer (some ⟨p, 0, none⟩)] w fun e w' => (∃ A' c', e = .returned (.slice A' 44 c') ∧ Row w' w.heap.size (.slice A' 44 c') (cellL a b c d v l)) ∧ Below w.heap.size w w' := by
  have wa : IntKind.u8.wrap a = a := IntWalk.u8_in a (by omega)
  have wd : IntKind.u8.wrap d = d := IntWalk.u8_in d (by omega)
  have wn : IntKind.u8.wrap (n : Int) = (n : Int) := IntWalk.u8_in (n : Int) (by omega)
  have x0 := hS.cell (i := 0) rfl
  have x1 := hS.cell (i := 1) rfl
  have x4 := hS.cell (i := 4) rfl
  have hlt := hS.lt
  have Hl := Lib.hid hA.len
  have hWW := Below.refl w.heap.size w
  have By1 : By [a] := fun x hx => by simp at hx; omega
  have By3 : By [d, bit v, (n : Int)] := fun x hx => by
    simp only [List.mem_cons, List.not_mem_nil, or_false] at hx
    rcases hx with rfl | rfl | rfl
    · omega
    · unfold bit; split <;> omega
    · omega
  have HA : Shut (∀ W : World, (W.cell? ⟨p, 0, none⟩ = some (.int .i64 a) ∧ W.cell? ⟨p, 1, none⟩ = some (.int .i64 b) ∧ Below w.heap.size w W) → Calls Tryz.prog 171 #[.int .i64 b, .int .i64 2] W fun e w' => (∃ g c, e = .returned (.slice (some ⟨g, 0, none⟩) 2 c) ∧ Bs w' (some ⟨g, 0, none⟩) 2 (hi2 b)) ∧ Below W.heap.size W w' ∧ w'.cell? ⟨p, 0, none⟩ = some (.int .i64 a) ∧ w'.cell? ⟨p, 1, none⟩ = some (.int .i64 b) ∧ Below w.heap.size w w') := by
    refine ⟨fun W ⟨z0, z1, z2⟩ => (high2_any b W hb0 (by omega)).mono ?_⟩
    rintro e w' ⟨h, hb⟩
    have hc := fun (i : Nat) => hb.cell (p := ⟨p, i, none⟩) (Nat.lt_of_lt_of_le hlt z2.size)
    exact ⟨h, hb, (hc 0).trans z0, (hc 1).trans z1, ac z2 hb⟩
  have kw : ∀ e : Bool, e = v → (if e = true then (1 : Int) else 0) = bit v := by intro e he; subst he; rfl
  clear kw
  cases v
  · replace By3 : By [d, 0, (n : Int)] := By3
    go_enter Tryz.func172, Tryz.ntmps172
    go_wp2_with fail
    go_cut [4] from 9 to 20 (fun s wx => Row wx w.heap.size s ([a] ++ hi2 b) ∧ Below w.heap.size w wx)
    case first =>
      go_region_held3 (fun W => W.cell? ⟨p, 0, none⟩ = some (.int .i64 a) ∧ W.cell? ⟨p, 1, none⟩ = some (.int .i64 b) ∧ Below w.heap.size w W)
        (first | (exact ⟨by assumption, by assumption, by assumption⟩) | (exact ⟨x0, x1, hWW.drew⟩) | (exact ⟨(hS.alloc _).cell (i := 0) rfl, (hS.alloc _).cell (i := 1) rfl, (ab hWW _).drew⟩) | (exact ⟨cell_past _ (by assumption), cell_past _ (by assumption), ab (by assumption) _⟩) | go_keep)
        (first
        | (go_at_call 171; refine (HA.out _ ?_).mono ?_; (first | assumption | (simp [*]; done)); rintro e w1 ⟨⟨g1, c1, rfl, o1⟩, b1, z0, z1, z2⟩)
        | (refine step_join_putR rfl _ _ rfl w1 w.heap.size (.slice (some ⟨w.heap.size, 0, none⟩) 1 1) [a] (hi2 b) rfl ?_ ?_ ⟨g1, 0, none⟩ 2 c1 rfl o1 (by simp) ?_; exact (((Row.madeR w [a] 1 By1 rfl (by omega)).drew).belowR b1 (Nat.le_refl _)); exact z2.size; intro v3 w3 r3 b3 s3; have y0 := (b3.cell (p := ⟨p, 0, none⟩) hlt).trans z0; have y1 := (b3.cell (p := ⟨p, 1, none⟩) hlt).trans z1; have y2 := z2.trans b3)
        | (refine step_join_putR rfl _ _ rfl (w1.alloc (.cells #[.int .u8 a] 5)) w.heap.size (.slice (some ⟨w1.heap.size, 0, none⟩) 1 1) [a] (hi2 b) rfl ?_ ?_ ⟨g1, 0, none⟩ 2 c1 rfl (o1.alloc _) (by simp) ?_; exact ((Row.madeR w1 [a] 1 By1 rfl (by omega)).mono z2.size); exact Nat.le_trans z2.size (by simp); intro v3 w3 r3 b3 s3; have y0 := (b3.cell (p := ⟨p, 0, none⟩) hlt).trans (cell_past _ z0); have y1 := (b3.cell (p := ⟨p, 1, none⟩) hlt).trans (cell_past _ z1); have y2 := (ab z2 (.cells #[.int .u8 a] 5)).trans b3))
      all_goals
        go_wp2_with fail
        go_meet
        exact ⟨r3, y2⟩
    case rest =>
      obtain ⟨rc, bc⟩ := hcut
      clear HA x0 x1 x4 hWW
      have sc := hS.below bc hlt
      have x2 := sc.cell (i := 2) rfl
      go_wp2_with fail
      refine (high2_any c _ hc0 (by omega)).mono ?_
      rintro e w5 ⟨⟨g5, c5, rfl, o5⟩, b5⟩
      have r5 := rc.belowR b5 (Nat.le_refl _)
      have B5 := ac bc b5
      have z5 := B5.size
      clear x2 sc rc bc b5
      go_wp2_with (at_builtin; refine wpList_row_join rfl _ _ rfl _ w.heap.size u4 _ (hi2 c) rfl r5 z5 (some ⟨g5, 0, none⟩) 2 c5 rfl o5 (fun e => by cases e) (by simp [hi2_len]) ?_; intro v6 w6 r6 b6 s6)
      have B6 := B5.trans b6
      have S6 := hS.below B6 hlt
      have x3 := S6.cell (i := 3) rfl
      have x5 := S6.cell (i := 5) rfl
      have z6 := B6.size
      clear o5 r5 B5 b6 s6
      go_region_held3 (fun W => W.cell? ⟨p, 3, none⟩ = some (.int .i64 d) ∧ W.cell? ⟨p, 5, none⟩ = some (.slice A n f) ∧ Below w.heap.size w W)
        (first | (exact ⟨by assumption, by assumption, by assumption⟩) | (exact ⟨x3, x5, B6.drew⟩) | (exact ⟨(S6.alloc _).cell (i := 3) rfl, (S6.alloc _).cell (i := 5) rfl, (B6.alloc z6 _).drew⟩) | go_keep)
        (first | (refine step_join_putR rfl _ _ rfl (w6.alloc (.cells #[.int .u8 d, .int .u8 0, .int .u8 (n : Int)] 5)).drew w.heap.size v6 _ [d, 0, (n : Int)] rfl ((r6.alloc _).drew) ?_ ⟨w6.heap.size, 0, none⟩ 3 3 rfl ?_ ?_ ?_; exact Nat.le_trans z6 (show w6.heap.size ≤ (w6.alloc _).heap.size by simp); exact (Blk.bsn (n := 3) (Blk.made w6 [d, 0, (n : Int)]) By3 rfl).drewX; simp [hi2_len]; intro v7 w7 r7 b7 s7; have y3 := (b7.cell (p := ⟨p, 3, none⟩) hlt).trans ((S6.alloc _).cell (i := 3) rfl); have y5 := (b7.cell (p := ⟨p, 5, none⟩) hlt).trans ((S6.alloc _).cell (i := 5) rfl); have B7 := (B6.alloc z6 (.cells #[.int .u8 d, .int .u8 0, .int .u8 (n : Int)] 5)).drew.trans b7))
      have hl32 : l.length ≤ 32 := by rw [Hl.out]; exact hn
      have hA7 := hA.below B7
      have z7 := B7.size
      have y5 := (hS.below B7 hlt).cell (i := 5) rfl
      have L7 : Shut (((([a] ++ hi2 b) ++ hi2 c) ++ [d, 0, (n : Int)]).length = 8) := ⟨by simp [hi2_len]⟩
      have E7 : Shut (∀ k : Nat, k = 36 - l.length → ((((([a] ++ hi2 b) ++ hi2 c) ++ [d, 0, (n : Int)]) ++ l) ++ List.replicate k 0) = cellL a b c d false l) := ⟨fun k hk => by
        subst hk
        have := Hl.out
        simp [cellL, bit, this]⟩
      generalize hL : ((([a] ++ hi2 b) ++ hi2 c) ++ [d, 0, (n : Int)]) = L at *
      clear hL r6 B6 S6 z6 z5 y3 b7 s7 x3 x5
      go_wp2_with (at_builtin; refine wpList_row_join rfl _ _ rfl _ w.heap.size v7 L l rfl r7 z7 A n f rfl hA7 hcap (by have := L7.out; omega) ?_; intro v8 w8 r8 b8 s8)
      have B8 := B7.trans b8
      have z8 := B8.size
      have L8 : Shut ((L ++ l).length = 8 + n) := ⟨by rw [List.length_append, L7.out, Hl.out]⟩
      generalize hM : L ++ l = M at *
      clear hM r7 B7 z7 b8 s8 hA7 y5 L7
      go_loopw [4] (fun s wr => ∃ k : Nat, k ≤ 36 - n ∧ Row wr w.heap.size s (M ++ List.replicate k 0) ∧ Below w.heap.size w wr) (fun s wr => 44 - (match s with | .slice _ m _ => m | _ => 0))
      case atStart => exact ⟨0, Nat.zero_le _, by simpa using r8, B8⟩
      case round =>
        obtain ⟨k, hk, rk, Bk⟩ := hrel
        have zk := Bk.size
        have Lk : Shut ((M ++ List.replicate k (0 : Int)).length = 8 + n + k) := ⟨by rw [List.length_append, L8.out, List.length_replicate]⟩
        obtain ⟨Ak, ck, rfl, ok⟩ := rk.ow Lk.out
        have Ek : Shut ((M ++ List.replicate k (0 : Int)) ++ [0] = M ++ List.replicate (k + 1) 0) := ⟨by rw [List.replicate_succ', List.append_assoc]⟩
        by_cases hlk : k < 36 - n
        · have ht : ((8 + n + k : Nat) : Int) < 44 := by omega
          have hlen : (M ++ List.replicate k (0 : Int)).length ≤ 140737488351232 := by rw [Lk.out]; omega
          clear ok
          generalize hN : M ++ List.replicate k (0 : Int) = N at *
          clear hN
          go_wp2_with (at_builtin; refine wpList_row_append rfl _ _ rfl _ w.heap.size _ N rfl (rk.alloc _) (by simp; omega) ⟨wr.heap.size, 0, none⟩ 1 0 rfl (cell_one _ _ _) (by omega) (by omega) hlen ?_; intro v9 w9 r9 b9 s9)
          obtain ⟨A9, c9, rfl, _⟩ := r9.ow (n := 8 + n + k + 1) (by rw [List.length_append, Lk.out]; rfl)
          refine ⟨⟨k + 1, by omega, by rw [← Ek.out]; exact r9, (Bk.alloc zk _).trans b9⟩, ?_⟩
          show 44 - (8 + n + k + 1) < 44 - (8 + n + k)
          omega
        · have ht : ¬ ((8 + n + k : Nat) : Int) < 44 := by omega
          obtain rfl : k = 36 - n := by omega
          have e8 : 8 + n + (36 - n) = 44 := by omega
          rw [e8] at rk
          have F : Shut (M ++ List.replicate (36 - n) (0 : Int) = cellL a b c d false l) := ⟨E7.out _ (by rw [Hl.out])⟩
          clear ok E7
          go_wp2
          go_ret
          rw [← F.out]
          exact ⟨⟨Ak, ck, rfl, rk⟩, Bk⟩
  · replace By3 : By [d, 1, (n : Int)] := By3
    go_enter Tryz.func172, Tryz.ntmps172
    go_wp2_with fail
    go_cut [4] from 9 to 20 (fun s wx => Row wx w.heap.size s ([a] ++ hi2 b) ∧ Below w.heap.size w wx)
    case first =>
      go_region_held3 (fun W => W.cell? ⟨p, 0, none⟩ = some (.int .i64 a) ∧ W.cell? ⟨p, 1, none⟩ = some (.int .i64 b) ∧ Below w.heap.size w W)
        (first | (exact ⟨by assumption, by assumption, by assumption⟩) | (exact ⟨x0, x1, hWW.drew⟩) | (exact ⟨(hS.alloc _).cell (i := 0) rfl, (hS.alloc _).cell (i := 1) rfl, (ab hWW _).drew⟩) | (exact ⟨cell_past _ (by assumption), cell_past _ (by assumption), ab (by assumption) _⟩) | go_keep)
        (first
        | (go_at_call 171; refine (HA.out _ ?_).mono ?_; (first | assumption | (simp [*]; done)); rintro e w1 ⟨⟨g1, c1, rfl, o1⟩, b1, z0, z1, z2⟩)
        | (refine step_join_putR rfl _ _ rfl w1 w.heap.size (.slice (some ⟨w.heap.size, 0, none⟩) 1 1) [a] (hi2 b) rfl ?_ ?_ ⟨g1, 0, none⟩ 2 c1 rfl o1 (by simp) ?_; exact (((Row.madeR w [a] 1 By1 rfl (by omega)).drew).belowR b1 (Nat.le_refl _)); exact z2.size; intro v3 w3 r3 b3 s3; have y0 := (b3.cell (p := ⟨p, 0, none⟩) hlt).trans z0; have y1 := (b3.cell (p := ⟨p, 1, none⟩) hlt).trans z1; have y2 := z2.trans b3)
        | (refine step_join_putR rfl _ _ rfl (w1.alloc (.cells #[.int .u8 a] 5)) w.heap.size (.slice (some ⟨w1.heap.size, 0, none⟩) 1 1) [a] (hi2 b) rfl ?_ ?_ ⟨g1, 0, none⟩ 2 c1 rfl (o1.alloc _) (by simp) ?_; exact ((Row.madeR w1 [a] 1 By1 rfl (by omega)).mono z2.size); exact Nat.le_trans z2.size (by simp); intro v3 w3 r3 b3 s3; have y0 := (b3.cell (p := ⟨p, 0, none⟩) hlt).trans (cell_past _ z0); have y1 := (b3.cell (p := ⟨p, 1, none⟩) hlt).trans (cell_past _ z1); have y2 := (ab z2 (.cells #[.int .u8 a] 5)).trans b3))
      all_goals
        go_wp2_with fail
        go_meet
        exact ⟨r3, y2⟩
    case rest =>
      obtain ⟨rc, bc⟩ := hcut
      clear HA x0 x1 x4 hWW
      have sc := hS.below bc hlt
      have x2 := sc.cell (i := 2) rfl
      go_wp2_with fail
      refine (high2_any c _ hc0 (by omega)).mono ?_
      rintro e w5 ⟨⟨g5, c5, rfl, o5⟩, b5⟩
      have r5 := rc.belowR b5 (Nat.le_refl _)
      have B5 := ac bc b5
      have z5 := B5.size
      clear x2 sc rc bc b5
      go_wp2_with (at_builtin; refine wpList_row_join rfl _ _ rfl _ w.heap.size u4 _ (hi2 c) rfl r5 z5 (some ⟨g5, 0, none⟩) 2 c5 rfl o5 (fun e => by cases e) (by simp [hi2_len]) ?_; intro v6 w6 r6 b6 s6)
      have B6 := B5.trans b6
      have S6 := hS.below B6 hlt
      have x3 := S6.cell (i := 3) rfl
      have x5 := S6.cell (i := 5) rfl
      have z6 := B6.size
      clear o5 r5 B5 b6 s6
      go_region_held3 (fun W => W.cell? ⟨p, 3, none⟩ = some (.int .i64 d) ∧ W.cell? ⟨p, 5, none⟩ = some (.slice A n f) ∧ Below w.heap.size w W)
        (first | (exact ⟨by assumption, by assumption, by assumption⟩) | (exact ⟨x3, x5, B6.drew⟩) | (exact ⟨(S6.alloc _).cell (i := 3) rfl, (S6.alloc _).cell (i := 5) rfl, (B6.alloc z6 _).drew⟩) | go_keep)
        (first | (refine step_join_putR rfl _ _ rfl (w6.alloc (.cells #[.int .u8 d, .int .u8 1, .int .u8 (n : Int)] 5)).drew w.heap.size v6 _ [d, 1, (n : Int)] rfl ((r6.alloc _).drew) ?_ ⟨w6.heap.size, 0, none⟩ 3 3 rfl ?_ ?_ ?_; exact Nat.le_trans z6 (show w6.heap.size ≤ (w6.alloc _).heap.size by simp); exact (Blk.bsn (n := 3) (Blk.made w6 [d, 1, (n : Int)]) By3 rfl).drewX; simp [hi2_len]; intro v7 w7 r7 b7 s7; have y3 := (b7.cell (p := ⟨p, 3, none⟩) hlt).trans ((S6.alloc _).cell (i := 3) rfl); have y5 := (b7.cell (p := ⟨p, 5, none⟩) hlt).trans ((S6.alloc _).cell (i := 5) rfl); have B7 := (B6.alloc z6 (.cells #[.int .u8 d, .int .u8 1, .int .u8 (n : Int)] 5)).drew.trans b7))
      have hl32 : l.length ≤ 32 := by rw [Hl.out]; exact hn
      have hA7 := hA.below B7
      have z7 := B7.size
      have y5 := (hS.below B7 hlt).cell (i := 5) rfl
      have L7 : Shut (((([a] ++ hi2 b) ++ hi2 c) ++ [d, 1, (n : Int)]).length = 8) := ⟨by simp [hi2_len]⟩
      have E7 : Shut (∀ k : Nat, k = 36 - l.length → ((((([a] ++ hi2 b) ++ hi2 c) ++ [d, 1, (n : Int)]) ++ l) ++ List.replicate k 0) = cellL a b c d true l) := ⟨fun k hk => by
        subst hk
        have := Hl.out
        simp [cellL, bit, this]⟩
      generalize hL : ((([a] ++ hi2 b) ++ hi2 c) ++ [d, 1, (n : Int)]) = L at *
      clear hL r6 B6 S6 z6 z5 y3 b7 s7 x3 x5
      go_wp2_with (at_builtin; refine wpList_row_join rfl _ _ rfl _ w.heap.size v7 L l rfl r7 z7 A n f rfl hA7 hcap (by have := L7.out; omega) ?_; intro v8 w8 r8 b8 s8)
      have B8 := B7.trans b8
      have z8 := B8.size
      have L8 : Shut ((L ++ l).length = 8 + n) := ⟨by rw [List.length_append, L7.out, Hl.out]⟩
      generalize hM : L ++ l = M at *
      clear hM r7 B7 z7 b8 s8 hA7 y5 L7
      go_loopw [4] (fun s wr => ∃ k : Nat, k ≤ 36 - n ∧ Row wr w.heap.size s (M ++ List.replicate k 0) ∧ Below w.heap.size w wr) (fun s wr => 44 - (match s with | .slice _ m _ => m | _ => 0))
      case atStart => exact ⟨0, Nat.zero_le _, by simpa using r8, B8⟩
      case round =>
        obtain ⟨k, hk, rk, Bk⟩ := hrel
        have zk := Bk.size
        have Lk : Shut ((M ++ List.replicate k (0 : Int)).length = 8 + n + k) := ⟨by rw [List.length_append, L8.out, List.length_replicate]⟩
        obtain ⟨Ak, ck, rfl, ok⟩ := rk.ow Lk.out
        have Ek : Shut ((M ++ List.replicate k (0 : Int)) ++ [0] = M ++ List.replicate (k + 1) 0) := ⟨by rw [List.replicate_succ', List.append_assoc]⟩
        by_cases hlk : k < 36 - n
        · have ht : ((8 + n + k : Nat) : Int) < 44 := by omega
          have hlen : (M ++ List.replicate k (0 : Int)).length ≤ 140737488351232 := by rw [Lk.out]; omega
          clear ok
          generalize hN : M ++ List.replicate k (0 : Int) = N at *
          clear hN
          go_wp2_with (at_builtin; refine wpList_row_append rfl _ _ rfl _ w.heap.size _ N rfl (rk.alloc _) (by simp; omega) ⟨wr.heap.size, 0, none⟩ 1 0 rfl (cell_one _ _ _) (by omega) (by omega) hlen ?_; intro v9 w9 r9 b9 s9)
          obtain ⟨A9, c9, rfl, _⟩ := r9.ow (n := 8 + n + k + 1) (by rw [List.length_append, Lk.out]; rfl)
          refine ⟨⟨k + 1, by omega, by rw [← Ek.out]; exact r9, (Bk.alloc zk _).trans b9⟩, ?_⟩
          show 44 - (8 + n + k + 1) < 44 - (8 + n + k)
          omega
        · have ht : ¬ ((8 + n + k : Nat) : Int) < 44 := by omega
          obtain rfl : k = 36 - n := by omega
          have e8 : 8 + n + (36 - n) = 44 := by omega
          rw [e8] at rk
          have F : Shut (M ++ List.replicate (36 - n) (0 : Int) = cellL a b c d true l) := ⟨E7.out _ (by rw [Hl.out])⟩
          clear ok E7
          go_wp2
          go_ret
          rw [← F.out]
          exact ⟨⟨Ak, ck, rfl, rk⟩, Bk⟩
end Go.Proofs.YtabhcolfkkfonaaGreatDoor

/-! EncP -/
/- The text of a cell, of the program: what a kind writes. -/
namespace Go.Proofs.YtabhcolfkkfonaaGreatDoor
open Go.RowKit

theorem save_setRow (w : World) (g : Nat) (cs : Array Value) : Save g w (w.setRow g cs) :=
  ⟨rfl, rfl, rfl, by simp [World.setRow], fun k _ hk => setRow_other w g k cs hk⟩

theorem Save.drewX {x : Nat} {w w' : World} (h : Save x w w') : Save x w w'.drew := ⟨h.os, h.tape, h.output, h.size, h.block⟩

theorem Bs.off {w w' : World} {A : Option Addr} {n g : Nat} {l : List Int} (h : Bs w A n l) (hne : 0 < n → ∀ a, A = some a → a.block ≠ g) (hs : Save g w w') : Bs w' A n l :=
  ⟨h.len, h.byte, fun hn => by
    obtain ⟨b, off, e, hb, hc⟩ := h.at_ hn
    have hx := hne hn _ e
    refine ⟨b, off, e, Nat.lt_of_lt_of_le hb hs.size, fun i hi => ?_⟩
    have hh := hs.block b hb hx
    rw [← hc i hi]
    simp [World.cell?, hh]⟩

/-- a copy into a block that is known whole, as one step of a region that draws its order: no other block is turned -/
theorem step_copyb_save {ops : Array Oper} {o : Oper} {a : Act} {K : Act → World → Prop} {Q : Exit → Act → World → Prop} {E : Prop} (hgd : o.guard = none) (d s : Operand)
    (ho : o.op = .call { callee := .builtin .copy, args := #[d, s], argTypes := #[22, 22] })
    (w : World) (g off dLen dCap : Nat) (A : Option Addr) (n c : Nat) (L r : List Int) (hd : a.eval d = .slice (some ⟨g, off, none⟩) dLen dCap) (hs : a.eval s = .slice A n c)
    (hL : Blk w g L) (hr : Bs w A n r) (hnd : n ≤ dLen) (hfit : off + n ≤ L.length)
    (h : ∀ w', Blk w' g (laidOver L off r) → Save g w w' → K (a.put o.dst (goInt n)) w') : if Region.wanted o (yielded ops a.tmps) = true then Oper.wp Tryz.prog o a w K Q else E := by
  have hw : Region.wanted o (yielded ops a.tmps) = true := by simp [Region.wanted, hgd]
  rw [if_pos hw]
  have hl := hr.len
  have hn : (r.map (Value.int .u8)).length = Nat.min n dLen := by rw [List.length_map, hl]; exact (Nat.min_eq_left hnd).symm
  by_cases h0 : n = 0
  · subst h0
    obtain rfl : r = [] := List.eq_nil_of_length_eq_zero hl
    have hrun := run_copy_none (P := Tryz.prog) w 22 22 o.type 5 (some ⟨g, off, none⟩) A dLen dCap 0 c Tryz.underlying22 size_u8 (by simp)
    unfold Oper.wp
    simp [execOp, ho, resolve, invoke, builtin, hd, hs, hrun, Result.andThen]
    exact h w (by simpa [laidOver] using hL) (Save.refl g w)
  · obtain ⟨b, of, e, _⟩ := hr.at_ (by omega)
    subst e
    have hrun := run_copy_row (P := Tryz.prog) w 22 22 o.type 5 g off dLen dCap ⟨b, of, none⟩ n c (L.map (Value.int .u8)).toArray 5 (r.map (Value.int .u8)) Tryz.underlying22 size_u8 hL hn (bs_src hr _ rfl) (by simpa [hl] using hfit) (fun u hu => by obtain ⟨y, _, rfl⟩ := List.mem_map.1 hu; rfl)
    unfold Oper.wp
    simp [execOp, ho, resolve, invoke, builtin, hd, hs, hrun, Result.andThen, hl]
    refine h _ ?_ (save_setRow w g _)
    unfold Blk
    rw [setRow_heap w g _ _ _ _ hL]
    simp [laidOver, hl, List.map_take, List.map_drop]

/-- what data write of themselves -/
def writ (P : List Int) (b : Int) (v : Bool) (l : List Int) : List Int :=
  laidOver ((if v then (laidOver P 1 (hi2 b)).set 6 1 else laidOver P 1 (hi2 b)).set 7 (l.length : Int)) 8 l

set_option maxRecDepth 100000 in
set_option maxHeartbeats 4000000 in
theorem dataWrite_any (b : Int) (v : Bool) (A : Option Addr) (n f g : Nat) (l P : List Int) (w : World) (hP : Blk w g P) (hPl : P.length = 44) (hA : Bs w A n l) (hne : 0 < n → ∀ a, A = some a → a.block ≠ g) (hn : n ≤ 32) :
    Calls Tryz.prog 270 #[.agg #[.int .i64 b, .bool v, .slice A n f], .slice (some ⟨g, 0, none⟩) 44 44] w fun e w' => e = .returned (.tuple #[]) ∧ Blk w' g (writ P b v l) ∧ Save g w w' := by
  have wn : IntKind.u8.wrap (n : Int) = (n : Int) := IntWalk.u8_in (n : Int) (by omega)
  have Hl := Lib.hid hA.len
  have hg := hP.lt
  have L0 := Shut.mk hPl
  have L1 : Shut ((laidOver P 1 (hi2 b)).length = 44) := ⟨by rw [laidOver_len _ _ _ (by rw [hi2_len, hPl]; omega), hPl]⟩
  have sv0 : Save g w (w.alloc (.cells #[.int .i64 b, .bool v, .slice A n f] 155)) := Save.ofBelow (ab (Below.refl _ w) _)
  have hA0 := hA.off hne sv0
  clear hPl hA
  have hgn : ¬ w.heap.size = g := by omega
  have hgn2 : ¬ g = w.heap.size := by omega
  cases v
  · have D0 := Stc.new w 155 [.int .i64 b, .bool false, .slice A n f] _ rfl
    have P0 := hP.alloc (.cells #[.int .i64 b, .bool false, .slice A n f] 155)
    have F : Shut (writ P b false l = laidOver ((laidOver P 1 (hi2 b)).set 7 (n : Int)) 8 l) := ⟨by simp [writ, Hl.out]⟩
    rw [F.out]
    clear F
    go_enter Tryz.func270, Tryz.ntmps270
    go_wp2_with fail
    generalize hw0 : w.alloc (.cells #[.int .i64 b, .bool false, .slice A n f] 155) = w0 at *
    clear hw0 hP
    have hg0 := P0.lt
    have hlt := D0.lt
    have x0 := D0.cell (i := 0) rfl
    have sr := Save.refl g w0
    have HB : Shut (∀ W : World, (W.cell? ⟨w.heap.size, 0, none⟩ = some (.int .i64 b) ∧ Save g w0 W) → Calls Tryz.prog 110 #[.int .i64 b, .int .i64 2] W fun e w' => (∃ q, e = .returned (.slice (some ⟨q, 0, none⟩) 2 2) ∧ Bs w' (some ⟨q, 0, none⟩) 2 (hi2 b)) ∧ Below W.heap.size W w' ∧ w'.cell? ⟨w.heap.size, 0, none⟩ = some (.int .i64 b) ∧ Save g w0 w') := by
      refine ⟨fun W ⟨z0, z1⟩ => (spreadHigh_any b 2 W (by omega)).mono ?_⟩
      rintro e w' ⟨rfl, ho, hb⟩
      exact ⟨⟨_, rfl, ho.bs⟩, hb, (hb.cell (p := ⟨w.heap.size, 0, none⟩) (Nat.lt_of_lt_of_le hlt z1.size)).trans z0, z1.then hb⟩
    go_region_held3 (fun W => W.cell? ⟨w.heap.size, 0, none⟩ = some (.int .i64 b) ∧ Save g w0 W)
      (first | (exact ⟨by assumption, by assumption⟩) | (exact ⟨x0, sr.drewN 1⟩) | go_keep)
      (first
      | (go_at_call 110; refine (HB.out _ ?_).mono ?_; (first | assumption | (simp [*]; done)); rintro e w1 ⟨⟨q1, rfl, o1⟩, b1, z0, z1⟩)
      | (refine step_copyb_save rfl _ _ rfl w1 g 1 43 43 (some ⟨q1, 0, none⟩) 2 2 P (hi2 b) rfl rfl (Blk.below (w := w0.drew) P0 b1 hg0) o1 (by omega) (by rw [L0.out]; omega) ?_; intro w2 k2 s2; have y1 := z1.trans s2; have y0 := (D0.save y1 hgn).cell (i := 0) rfl))
    have D2 := D0.save y1 hgn
    have x1 := D2.cell (i := 1) rfl
    have x2 := D2.cell (i := 2) rfl
    clear HB x0 sr o1 b1 z0 z1 s2 y0
    have c7 := k2.cell (i := 7) (by rw [L1.out]; omega)
    have f7 := k2.frozen 7
    go_wp2_with fail
    have k3 := k2.set_ 7 (n : Int)
    have y3 := y1.set_ 7 (.int .u8 (n : Int))
    generalize hw3 : w2.setCell ⟨g, 7, none⟩ (.int .u8 (n : Int)) = w3 at *
    clear hw3
    have D3 := D0.save y3 hgn
    have x3 := D3.cell (i := 2) rfl
    have A3 := hA0.off hne y3
    clear x1 x2 c7 f7 D2
    go_region_held3 (fun W => W.cell? ⟨w.heap.size, 2, none⟩ = some (.slice A n f) ∧ Save g w0 W)
      (first | (exact ⟨by assumption, by assumption⟩) | (exact ⟨x3, y3.drewN 1⟩) | go_keep)
      (first
      | (refine step_copyb_save rfl _ _ rfl w3.drew g 8 36 36 A n f ((laidOver P 1 (hi2 b)).set 7 (n : Int)) l rfl rfl k3 A3.drewX (by omega) (by simp [L1.out]; omega) ?_; intro w4 k4 s4; have y4 := y3.drewX.trans s4; have x4 := (D0.save y4 hgn).cell (i := 2) rfl))
    go_wp2
    go_end0
    exact ⟨rfl, k4, sv0.trans y4⟩
  · have D0 := Stc.new w 155 [.int .i64 b, .bool true, .slice A n f] _ rfl
    have P0 := hP.alloc (.cells #[.int .i64 b, .bool true, .slice A n f] 155)
    have F : Shut (writ P b true l = laidOver (((laidOver P 1 (hi2 b)).set 6 1).set 7 (n : Int)) 8 l) := ⟨by simp [writ, Hl.out]⟩
    rw [F.out]
    clear F
    go_enter Tryz.func270, Tryz.ntmps270
    go_wp2_with fail
    generalize hw0 : w.alloc (.cells #[.int .i64 b, .bool true, .slice A n f] 155) = w0 at *
    clear hw0 hP
    have hg0 := P0.lt
    have hlt := D0.lt
    have x0 := D0.cell (i := 0) rfl
    have sr := Save.refl g w0
    have HB : Shut (∀ W : World, (W.cell? ⟨w.heap.size, 0, none⟩ = some (.int .i64 b) ∧ Save g w0 W) → Calls Tryz.prog 110 #[.int .i64 b, .int .i64 2] W fun e w' => (∃ q, e = .returned (.slice (some ⟨q, 0, none⟩) 2 2) ∧ Bs w' (some ⟨q, 0, none⟩) 2 (hi2 b)) ∧ Below W.heap.size W w' ∧ w'.cell? ⟨w.heap.size, 0, none⟩ = some (.int .i64 b) ∧ Save g w0 w') := by
      refine ⟨fun W ⟨z0, z1⟩ => (spreadHigh_any b 2 W (by omega)).mono ?_⟩
      rintro e w' ⟨rfl, ho, hb⟩
      exact ⟨⟨_, rfl, ho.bs⟩, hb, (hb.cell (p := ⟨w.heap.size, 0, none⟩) (Nat.lt_of_lt_of_le hlt z1.size)).trans z0, z1.then hb⟩
    go_region_held3 (fun W => W.cell? ⟨w.heap.size, 0, none⟩ = some (.int .i64 b) ∧ Save g w0 W)
      (first | (exact ⟨by assumption, by assumption⟩) | (exact ⟨x0, sr.drewN 1⟩) | go_keep)
      (first
      | (go_at_call 110; refine (HB.out _ ?_).mono ?_; (first | assumption | (simp [*]; done)); rintro e w1 ⟨⟨q1, rfl, o1⟩, b1, z0, z1⟩)
      | (refine step_copyb_save rfl _ _ rfl w1 g 1 43 43 (some ⟨q1, 0, none⟩) 2 2 P (hi2 b) rfl rfl (Blk.below (w := w0.drew) P0 b1 hg0) o1 (by omega) (by rw [L0.out]; omega) ?_; intro w2 k2 s2; have y1 := z1.trans s2; have y0 := (D0.save y1 hgn).cell (i := 0) rfl))
    have D2 := D0.save y1 hgn
    have x1 := D2.cell (i := 1) rfl
    have x2 := D2.cell (i := 2) rfl
    clear HB x0 sr o1 b1 z0 z1 s2 y0
    have c6 := k2.cell (i := 6) (by rw [L1.out]; omega)
    have f6 := k2.frozen 6
    have c7 := k2.cell (i := 7) (by rw [L1.out]; omega)
    have f7 := k2.frozen 7
    go_wp2_with fail
    have k3 := (k2.set_ 6 1).set_ 7 (n : Int)
    have y3 := (y1.set_ 6 (.int .u8 1)).set_ 7 (.int .u8 (n : Int))
    generalize hw3 : (w2.setCell ⟨g, 6, none⟩ (.int .u8 1)).setCell ⟨g, 7, none⟩ (.int .u8 (n : Int)) = w3 at *
    clear hw3
    have D3 := D0.save y3 hgn
    have x3 := D3.cell (i := 2) rfl
    have A3 := hA0.off hne y3
    clear x1 x2 c7 f7 D2
    go_region_held3 (fun W => W.cell? ⟨w.heap.size, 2, none⟩ = some (.slice A n f) ∧ Save g w0 W)
      (first | (exact ⟨by assumption, by assumption⟩) | (exact ⟨x3, y3.drewN 1⟩) | go_keep)
      (first
      | (refine step_copyb_save rfl _ _ rfl w3.drew g 8 36 36 A n f (((laidOver P 1 (hi2 b)).set 6 1).set 7 (n : Int)) l rfl rfl k3 A3.drewX (by omega) (by simp [L1.out]; omega) ?_; intro w4 k4 s4; have y4 := y3.drewX.trans s4; have x4 := (D0.save y4 hgn).cell (i := 2) rfl))
    go_wp2
    go_end0
    exact ⟨rfl, k4, sv0.trans y4⟩
end Go.Proofs.YtabhcolfkkfonaaGreatDoor

/-! EncQ -/
/- The text of a cell, of the program; EncodeCell of both. -/
namespace Go.Proofs.YtabhcolfkkfonaaGreatDoor
open Go.RowKit
set_option linter.unusedVariables false

theorem writ_eq (a b c d : Int) (v : Bool) (l : List Int) : writ (laid3 a c d) b v l = cellL a b c d v l := data_eq a b c d v l
theorem laid3_by {a c d : Int} (a0 : 0 ≤ a) (a1 : a < 256) (d0 : 0 ≤ d) (d1 : d < 256) : By (laid3 a c d) := by
  rw [laid3_eq]
  intro x hx
  simp only [List.mem_cons, List.mem_append, List.mem_replicate] at hx
  rcases hx with rfl | rfl | rfl | hx | rfl | rfl | rfl | ⟨_, rfl⟩
  · omega
  · omega
  · omega
  · exact hi2_by _ x hx
  · omega
  · omega
  · omega
  · omega
theorem cellL_by {a b c d : Int} {v : Bool} {l : List Int} (a0 : 0 ≤ a) (a1 : a < 256) (d0 : 0 ≤ d) (d1 : d < 256) (hl : By l) (hn : l.length ≤ 32) : By (cellL a b c d v l) := by
  unfold cellL
  intro x hx
  simp only [List.mem_cons, List.mem_append, List.mem_replicate] at hx
  rcases hx with rfl | hx | hx | rfl | rfl | rfl | hx | ⟨_, rfl⟩
  · omega
  · exact hi2_by _ x hx
  · exact hi2_by _ x hx
  · omega
  · unfold bit; split <;> omega
  · omega
  · exact hl x hx
  · omega

theorem dummyWrite_any (v : Value) (w : World) :
    Calls Tryz.prog 269 #[.agg #[], v] w fun e w' => e = .returned (.tuple #[]) ∧ Below w.heap.size w w' := by
  go_enter Tryz.func269, Tryz.ntmps269
  go_wp2
  go_end0
  exact ⟨rfl, by go_grown⟩

set_option maxRecDepth 100000 in
set_option maxHeartbeats 4000000 in
theorem encoded_data (a b c d : Int) (v : Bool) (A : Option Addr) (n f : Nat) (l : List Int) (w : World) (hA : Bs w A n l) (hn : n ≤ 32) (ha0 : 0 ≤ a) (ha1 : a < 256) (hc0 : 0 ≤ c) (hc1 : c ≤ 100000) (hd0 : 0 ≤ d) (hd1 : d < 256)
    (hk : ∀ W : World, Calls Tryz.prog 158 #[.agg #[.int .i64 a, .int .i64 b, .int .i64 c, .int .i64 d, .bool v, .slice A n f]] W fun e w' => e = .returned (.iface 155 (.agg #[.int .i64 b, .bool v, .slice A n f])) ∧ Below W.heap.size W w') :
    Calls Tryz.prog 113 #[.agg #[.int .i64 a, .int .i64 b, .int .i64 c, .int .i64 d, .bool v, .slice A n f]] w fun e w' => (∃ g, e = .returned (.slice (some ⟨g, 0, none⟩) 44 44) ∧ Ow w' w.heap.size (some ⟨g, 0, none⟩) 44 (cellL a b c d v l)) ∧ Below w.heap.size w w' := by
  have wa : IntKind.u8.wrap a = a := IntWalk.u8_in a (by omega)
  have wd : IntKind.u8.wrap d = d := IntWalk.u8_in d (by omega)
  have hmk : ∀ w : World, (Instr.makeSlice 22 (.int .i64 44) (.int .i64 44)).run Tryz.prog w = .ok (.slice (some ⟨w.heap.size, 0, none⟩) 44 44) (w.alloc (.cells ((List.replicate 44 (0 : Int)).map (Value.int .u8)).toArray 5)) := fun w => run_make_bytes 44 (by omega) w
  have D0 := (Stc.new w 52 [.int .i64 a, .int .i64 b, .int .i64 c, .int .i64 d, .bool v, .slice A n f] _ rfl).alloc (.cells #[.int .u8 a, .int .u8 0, .int .u8 0, .int .u8 0, .int .u8 0, .int .u8 0, .int .u8 0, .int .u8 0, .int .u8 0, .int .u8 0, .int .u8 0, .int .u8 0, .int .u8 0, .int .u8 0, .int .u8 0, .int .u8 0, .int .u8 0, .int .u8 0, .int .u8 0, .int .u8 0, .int .u8 0, .int .u8 0, .int .u8 0, .int .u8 0, .int .u8 0, .int .u8 0, .int .u8 0, .int .u8 0, .int .u8 0, .int .u8 0, .int .u8 0, .int .u8 0, .int .u8 0, .int .u8 0, .int .u8 0, .int .u8 0, .int .u8 0, .int .u8 0, .int .u8 0, .int .u8 0, .int .u8 0, .int .u8 0, .int .u8 0, .int .u8 0] 5)
  have K0 : Blk ((w.alloc (.cells #[.int .i64 a, .int .i64 b, .int .i64 c, .int .i64 d, .bool v, .slice A n f] 52)).alloc (.cells #[.int .u8 a, .int .u8 0, .int .u8 0, .int .u8 0, .int .u8 0, .int .u8 0, .int .u8 0, .int .u8 0, .int .u8 0, .int .u8 0, .int .u8 0, .int .u8 0, .int .u8 0, .int .u8 0, .int .u8 0, .int .u8 0, .int .u8 0, .int .u8 0, .int .u8 0, .int .u8 0, .int .u8 0, .int .u8 0, .int .u8 0, .int .u8 0, .int .u8 0, .int .u8 0, .int .u8 0, .int .u8 0, .int .u8 0, .int .u8 0, .int .u8 0, .int .u8 0, .int .u8 0, .int .u8 0, .int .u8 0, .int .u8 0, .int .u8 0, .int .u8 0, .int .u8 0, .int .u8 0, .int .u8 0, .int .u8 0, .int .u8 0, .int .u8 0] 5)) (w.heap.size + 1) (a :: List.replicate 43 0) := by
    have h := Blk.made (w.alloc (.cells #[.int .i64 a, .int .i64 b, .int .i64 c, .int .i64 d, .bool v, .slice A n f] 52)) (a :: List.replicate 43 0)
    rw [World.size_alloc] at h
    exact h
  have B0 := ab (ab (Below.refl _ w) (.cells #[.int .i64 a, .int .i64 b, .int .i64 c, .int .i64 d, .bool v, .slice A n f] 52)) (.cells #[.int .u8 a, .int .u8 0, .int .u8 0, .int .u8 0, .int .u8 0, .int .u8 0, .int .u8 0, .int .u8 0, .int .u8 0, .int .u8 0, .int .u8 0, .int .u8 0, .int .u8 0, .int .u8 0, .int .u8 0, .int .u8 0, .int .u8 0, .int .u8 0, .int .u8 0, .int .u8 0, .int .u8 0, .int .u8 0, .int .u8 0, .int .u8 0, .int .u8 0, .int .u8 0, .int .u8 0, .int .u8 0, .int .u8 0, .int .u8 0, .int .u8 0, .int .u8 0, .int .u8 0, .int .u8 0, .int .u8 0, .int .u8 0, .int .u8 0, .int .u8 0, .int .u8 0, .int .u8 0, .int .u8 0, .int .u8 0, .int .u8 0, .int .u8 0] 5)
  have A0 := (hA.alloc (.cells #[.int .i64 a, .int .i64 b, .int .i64 c, .int .i64 d, .bool v, .slice A n f] 52)).alloc (.cells #[.int .u8 a, .int .u8 0, .int .u8 0, .int .u8 0, .int .u8 0, .int .u8 0, .int .u8 0, .int .u8 0, .int .u8 0, .int .u8 0, .int .u8 0, .int .u8 0, .int .u8 0, .int .u8 0, .int .u8 0, .int .u8 0, .int .u8 0, .int .u8 0, .int .u8 0, .int .u8 0, .int .u8 0, .int .u8 0, .int .u8 0, .int .u8 0, .int .u8 0, .int .u8 0, .int .u8 0, .int .u8 0, .int .u8 0, .int .u8 0, .int .u8 0, .int .u8 0, .int .u8 0, .int .u8 0, .int .u8 0, .int .u8 0, .int .u8 0, .int .u8 0, .int .u8 0, .int .u8 0, .int .u8 0, .int .u8 0, .int .u8 0, .int .u8 0] 5)
  have hne : 0 < n → ∀ a, A = some a → a.block ≠ w.heap.size + 1 := fun h0 x hx => by
    obtain ⟨b', off, e, hb, _⟩ := hA.at_ h0
    rw [hx] at e
    injection e with e
    subst e
    simp only
    omega
  go_enter Tryz.func113, Tryz.ntmps113
  go_wp2_with fail
  generalize hw0 : (w.alloc (.cells #[.int .i64 a, .int .i64 b, .int .i64 c, .int .i64 d, .bool v, .slice A n f] 52)).alloc (.cells #[.int .u8 a, .int .u8 0, .int .u8 0, .int .u8 0, .int .u8 0, .int .u8 0, .int .u8 0, .int .u8 0, .int .u8 0, .int .u8 0, .int .u8 0, .int .u8 0, .int .u8 0, .int .u8 0, .int .u8 0, .int .u8 0, .int .u8 0, .int .u8 0, .int .u8 0, .int .u8 0, .int .u8 0, .int .u8 0, .int .u8 0, .int .u8 0, .int .u8 0, .int .u8 0, .int .u8 0, .int .u8 0, .int .u8 0, .int .u8 0, .int .u8 0, .int .u8 0, .int .u8 0, .int .u8 0, .int .u8 0, .int .u8 0, .int .u8 0, .int .u8 0, .int .u8 0, .int .u8 0, .int .u8 0, .int .u8 0, .int .u8 0, .int .u8 0] 5) = w0 at *
  clear hw0 hmk
  have hgw : w.heap.size < w.heap.size + 1 := by omega
  have hgn : ¬ w.heap.size = w.heap.size + 1 := by omega
  have hgn2 : ¬ w.heap.size + 1 = w.heap.size := by omega
  generalize w.heap.size + 1 = g at *
  have L0 : Shut ((a :: List.replicate 43 (0 : Int)).length = 44) := ⟨by simp⟩
  have L1 : Shut ((laidOver (a :: List.replicate 43 (0 : Int)) 3 (hi2 c)).length = 44) := ⟨by rw [laidOver_len _ _ _ (by rw [hi2_len, L0.out]; omega), L0.out]⟩
  have E3 : Shut ((laidOver (a :: List.replicate 43 (0 : Int)) 3 (hi2 c)).set 5 d = laid3 a c d) := ⟨rfl⟩
  generalize a :: List.replicate 43 (0 : Int) = P at *
  have hg0 := K0.lt
  have hlt := D0.lt
  have x0 := D0.cell (i := 2) rfl
  have sr := Save.refl g w0
  have HB : Shut (∀ W : World, (W.cell? ⟨w.heap.size, 2, none⟩ = some (.int .i64 c) ∧ Save g w0 W) → Calls Tryz.prog 110 #[.int .i64 c, .int .i64 2] W fun e w' => (∃ q, e = .returned (.slice (some ⟨q, 0, none⟩) 2 2) ∧ Bs w' (some ⟨q, 0, none⟩) 2 (hi2 c)) ∧ Below W.heap.size W w' ∧ w'.cell? ⟨w.heap.size, 2, none⟩ = some (.int .i64 c) ∧ Save g w0 w') := by
    refine ⟨fun W ⟨z0, z1⟩ => (spreadHigh_any c 2 W (by omega)).mono ?_⟩
    rintro e w' ⟨rfl, ho, hb⟩
    exact ⟨⟨_, rfl, ho.bs⟩, hb, (hb.cell (p := ⟨w.heap.size, 2, none⟩) (Nat.lt_of_lt_of_le hlt z1.size)).trans z0, z1.then hb⟩
  go_region_held3 (fun W => W.cell? ⟨w.heap.size, 2, none⟩ = some (.int .i64 c) ∧ Save g w0 W)
    (first | (exact ⟨by assumption, by assumption⟩) | (exact ⟨x0, sr.drewN 1⟩) | go_keep)
    (first
    | (go_at_call 110; refine (HB.out _ ?_).mono ?_; (first | assumption | (simp [*]; done)); rintro e w1 ⟨⟨q1, rfl, o1⟩, b1, z0, z1⟩)
    | (refine step_copyb_save rfl _ _ rfl w1 g 3 41 41 (some ⟨q1, 0, none⟩) 2 2 P (hi2 c) rfl rfl (Blk.below (w := w0.drew) K0 b1 hg0) o1 (by omega) (by rw [L0.out]; omega) ?_; intro w2 k2 s2; have y1 := z1.trans s2; have y0 := (D0.save y1 hgn).cell (i := 2) rfl))
  clear HB x0 sr o1 b1 z0 z1 s2 y0
  have D2 := D0.save y1 hgn
  have x0 := D2.cell (i := 0) rfl
  have x1 := D2.cell (i := 1) rfl
  have x2 := D2.cell (i := 2) rfl
  have x3 := D2.cell (i := 3) rfl
  have x4 := D2.cell (i := 4) rfl
  have x5 := D2.cell (i := 5) rfl
  have c5 := k2.cell (i := 5) (by rw [L1.out]; omega)
  have f5 := k2.frozen 5
  have k3 := k2.set_ 5 d
  rw [E3.out] at k3
  have y3 := y1.set_ 5 (.int .u8 d)
  have z3 := y3.size
  go_wp2_with fail
  generalize hw3 : w2.setCell ⟨g, 5, none⟩ (.int .u8 d) = w3 at *
  clear hw3 x0 x1 x2 x3 x4 x5 c5 f5 D2 k2 y1
  refine (hk _).mono ?_
  rintro e w4 ⟨rfl, b4⟩
  have k4 := k3.below b4 k3.lt
  have y4 := y3.then b4
  have A4 := A0.off hne y4
  go_wp2_with fail
  refine (dataWrite_any b v A n f g l _ _ k4 (laid3_len a c d) A4 hne hn).mono ?_
  rintro e w5 ⟨rfl, k5, s5⟩
  go_wp2
  go_ret
  rw [writ_eq] at k5
  exact ⟨⟨g, rfl, (k5.own (cellL_by ha0 ha1 hd0 hd1 hA.byte (by rw [hA.len]; exact hn)) (cellL_len _ _ _ _ _ _ (by rw [hA.len]; omega))).mono (Nat.le_of_lt hgw)⟩, B0.trans ((y4.trans s5).below (Nat.le_of_lt hgw) (Nat.le_of_lt hlt))⟩

set_option maxRecDepth 100000 in
set_option maxHeartbeats 4000000 in
theorem encoded_dummy (a b c d : Int) (v : Bool) (A : Option Addr) (n f : Nat) (l : List Int) (w : World) (hA : Bs w A n l) (hn : n ≤ 32) (ha0 : 0 ≤ a) (ha1 : a < 256) (hc0 : 0 ≤ c) (hc1 : c ≤ 100000) (hd0 : 0 ≤ d) (hd1 : d < 256)
    (hk : ∀ W : World, Calls Tryz.prog 158 #[.agg #[.int .i64 a, .int .i64 b, .int .i64 c, .int .i64 d, .bool v, .slice A n f]] W fun e w' => e = .returned (.iface 153 (.agg #[])) ∧ Below W.heap.size W w') :
    Calls Tryz.prog 113 #[.agg #[.int .i64 a, .int .i64 b, .int .i64 c, .int .i64 d, .bool v, .slice A n f]] w fun e w' => (∃ g, e = .returned (.slice (some ⟨g, 0, none⟩) 44 44) ∧ Ow w' w.heap.size (some ⟨g, 0, none⟩) 44 (laid3 a c d)) ∧ Below w.heap.size w w' := by
  have wa : IntKind.u8.wrap a = a := IntWalk.u8_in a (by omega)
  have wd : IntKind.u8.wrap d = d := IntWalk.u8_in d (by omega)
  have hmk : ∀ w : World, (Instr.makeSlice 22 (.int .i64 44) (.int .i64 44)).run Tryz.prog w = .ok (.slice (some ⟨w.heap.size, 0, none⟩) 44 44) (w.alloc (.cells ((List.replicate 44 (0 : Int)).map (Value.int .u8)).toArray 5)) := fun w => run_make_bytes 44 (by omega) w
  have D0 := (Stc.new w 52 [.int .i64 a, .int .i64 b, .int .i64 c, .int .i64 d, .bool v, .slice A n f] _ rfl).alloc (.cells #[.int .u8 a, .int .u8 0, .int .u8 0, .int .u8 0, .int .u8 0, .int .u8 0, .int .u8 0, .int .u8 0, .int .u8 0, .int .u8 0, .int .u8 0, .int .u8 0, .int .u8 0, .int .u8 0, .int .u8 0, .int .u8 0, .int .u8 0, .int .u8 0, .int .u8 0, .int .u8 0, .int .u8 0, .int .u8 0, .int .u8 0, .int .u8 0, .int .u8 0, .int .u8 0, .int .u8 0, .int .u8 0, .int .u8 0, .int .u8 0, .int .u8 0, .int .u8 0, .int .u8 0, .int .u8 0, .int .u8 0, .int .u8 0, .int .u8 0, .int .u8 0, .int .u8 0, .int .u8 0, .int .u8 0, .int .u8 0, .int .u8 0, .int .u8 0] 5)
  have K0 : Blk ((w.alloc (.cells #[.int .i64 a, .int .i64 b, .int .i64 c, .int .i64 d, .bool v, .slice A n f] 52)).alloc (.cells #[.int .u8 a, .int .u8 0, .int .u8 0, .int .u8 0, .int .u8 0, .int .u8 0, .int .u8 0, .int .u8 0, .int .u8 0, .int .u8 0, .int .u8 0, .int .u8 0, .int .u8 0, .int .u8 0, .int .u8 0, .int .u8 0, .int .u8 0, .int .u8 0, .int .u8 0, .int .u8 0, .int .u8 0, .int .u8 0, .int .u8 0, .int .u8 0, .int .u8 0, .int .u8 0, .int .u8 0, .int .u8 0, .int .u8 0, .int .u8 0, .int .u8 0, .int .u8 0, .int .u8 0, .int .u8 0, .int .u8 0, .int .u8 0, .int .u8 0, .int .u8 0, .int .u8 0, .int .u8 0, .int .u8 0, .int .u8 0, .int .u8 0, .int .u8 0] 5)) (w.heap.size + 1) (a :: List.replicate 43 0) := by
    have h := Blk.made (w.alloc (.cells #[.int .i64 a, .int .i64 b, .int .i64 c, .int .i64 d, .bool v, .slice A n f] 52)) (a :: List.replicate 43 0)
    rw [World.size_alloc] at h
    exact h
  have B0 := ab (ab (Below.refl _ w) (.cells #[.int .i64 a, .int .i64 b, .int .i64 c, .int .i64 d, .bool v, .slice A n f] 52)) (.cells #[.int .u8 a, .int .u8 0, .int .u8 0, .int .u8 0, .int .u8 0, .int .u8 0, .int .u8 0, .int .u8 0, .int .u8 0, .int .u8 0, .int .u8 0, .int .u8 0, .int .u8 0, .int .u8 0, .int .u8 0, .int .u8 0, .int .u8 0, .int .u8 0, .int .u8 0, .int .u8 0, .int .u8 0, .int .u8 0, .int .u8 0, .int .u8 0, .int .u8 0, .int .u8 0, .int .u8 0, .int .u8 0, .int .u8 0, .int .u8 0, .int .u8 0, .int .u8 0, .int .u8 0, .int .u8 0, .int .u8 0, .int .u8 0, .int .u8 0, .int .u8 0, .int .u8 0, .int .u8 0, .int .u8 0, .int .u8 0, .int .u8 0, .int .u8 0] 5)
  have A0 := (hA.alloc (.cells #[.int .i64 a, .int .i64 b, .int .i64 c, .int .i64 d, .bool v, .slice A n f] 52)).alloc (.cells #[.int .u8 a, .int .u8 0, .int .u8 0, .int .u8 0, .int .u8 0, .int .u8 0, .int .u8 0, .int .u8 0, .int .u8 0, .int .u8 0, .int .u8 0, .int .u8 0, .int .u8 0, .int .u8 0, .int .u8 0, .int .u8 0, .int .u8 0, .int .u8 0, .int .u8 0, .int .u8 0, .int .u8 0, .int .u8 0, .int .u8 0, .int .u8 0, .int .u8 0, .int .u8 0, .int .u8 0, .int .u8 0, .int .u8 0, .int .u8 0, .int .u8 0, .int .u8 0, .int .u8 0, .int .u8 0, .int .u8 0, .int .u8 0, .int .u8 0, .int .u8 0, .int .u8 0, .int .u8 0, .int .u8 0, .int .u8 0, .int .u8 0, .int .u8 0] 5)
  have hne : 0 < n → ∀ a, A = some a → a.block ≠ w.heap.size + 1 := fun h0 x hx => by
    obtain ⟨b', off, e, hb, _⟩ := hA.at_ h0
    rw [hx] at e
    injection e with e
    subst e
    simp only
    omega
  go_enter Tryz.func113, Tryz.ntmps113
  go_wp2_with fail
  generalize hw0 : (w.alloc (.cells #[.int .i64 a, .int .i64 b, .int .i64 c, .int .i64 d, .bool v, .slice A n f] 52)).alloc (.cells #[.int .u8 a, .int .u8 0, .int .u8 0, .int .u8 0, .int .u8 0, .int .u8 0, .int .u8 0, .int .u8 0, .int .u8 0, .int .u8 0, .int .u8 0, .int .u8 0, .int .u8 0, .int .u8 0, .int .u8 0, .int .u8 0, .int .u8 0, .int .u8 0, .int .u8 0, .int .u8 0, .int .u8 0, .int .u8 0, .int .u8 0, .int .u8 0, .int .u8 0, .int .u8 0, .int .u8 0, .int .u8 0, .int .u8 0, .int .u8 0, .int .u8 0, .int .u8 0, .int .u8 0, .int .u8 0, .int .u8 0, .int .u8 0, .int .u8 0, .int .u8 0, .int .u8 0, .int .u8 0, .int .u8 0, .int .u8 0, .int .u8 0, .int .u8 0] 5) = w0 at *
  clear hw0 hmk
  have hgw : w.heap.size < w.heap.size + 1 := by omega
  have hgn : ¬ w.heap.size = w.heap.size + 1 := by omega
  have hgn2 : ¬ w.heap.size + 1 = w.heap.size := by omega
  generalize w.heap.size + 1 = g at *
  have L0 : Shut ((a :: List.replicate 43 (0 : Int)).length = 44) := ⟨by simp⟩
  have L1 : Shut ((laidOver (a :: List.replicate 43 (0 : Int)) 3 (hi2 c)).length = 44) := ⟨by rw [laidOver_len _ _ _ (by rw [hi2_len, L0.out]; omega), L0.out]⟩
  have E3 : Shut ((laidOver (a :: List.replicate 43 (0 : Int)) 3 (hi2 c)).set 5 d = laid3 a c d) := ⟨rfl⟩
  generalize a :: List.replicate 43 (0 : Int) = P at *
  have hg0 := K0.lt
  have hlt := D0.lt
  have x0 := D0.cell (i := 2) rfl
  have sr := Save.refl g w0
  have HB : Shut (∀ W : World, (W.cell? ⟨w.heap.size, 2, none⟩ = some (.int .i64 c) ∧ Save g w0 W) → Calls Tryz.prog 110 #[.int .i64 c, .int .i64 2] W fun e w' => (∃ q, e = .returned (.slice (some ⟨q, 0, none⟩) 2 2) ∧ Bs w' (some ⟨q, 0, none⟩) 2 (hi2 c)) ∧ Below W.heap.size W w' ∧ w'.cell? ⟨w.heap.size, 2, none⟩ = some (.int .i64 c) ∧ Save g w0 w') := by
    refine ⟨fun W ⟨z0, z1⟩ => (spreadHigh_any c 2 W (by omega)).mono ?_⟩
    rintro e w' ⟨rfl, ho, hb⟩
    exact ⟨⟨_, rfl, ho.bs⟩, hb, (hb.cell (p := ⟨w.heap.size, 2, none⟩) (Nat.lt_of_lt_of_le hlt z1.size)).trans z0, z1.then hb⟩
  go_region_held3 (fun W => W.cell? ⟨w.heap.size, 2, none⟩ = some (.int .i64 c) ∧ Save g w0 W)
    (first | (exact ⟨by assumption, by assumption⟩) | (exact ⟨x0, sr.drewN 1⟩) | go_keep)
    (first
    | (go_at_call 110; refine (HB.out _ ?_).mono ?_; (first | assumption | (simp [*]; done)); rintro e w1 ⟨⟨q1, rfl, o1⟩, b1, z0, z1⟩)
    | (refine step_copyb_save rfl _ _ rfl w1 g 3 41 41 (some ⟨q1, 0, none⟩) 2 2 P (hi2 c) rfl rfl (Blk.below (w := w0.drew) K0 b1 hg0) o1 (by omega) (by rw [L0.out]; omega) ?_; intro w2 k2 s2; have y1 := z1.trans s2; have y0 := (D0.save y1 hgn).cell (i := 2) rfl))
  clear HB x0 sr o1 b1 z0 z1 s2 y0
  have D2 := D0.save y1 hgn
  have x0 := D2.cell (i := 0) rfl
  have x1 := D2.cell (i := 1) rfl
  have x2 := D2.cell (i := 2) rfl
  have x3 := D2.cell (i := 3) rfl
  have x4 := D2.cell (i := 4) rfl
  have x5 := D2.cell (i := 5) rfl
  have c5 := k2.cell (i := 5) (by rw [L1.out]; omega)
  have f5 := k2.frozen 5
  have k3 := k2.set_ 5 d
  rw [E3.out] at k3
  have y3 := y1.set_ 5 (.int .u8 d)
  have z3 := y3.size
  go_wp2_with fail
  generalize hw3 : w2.setCell ⟨g, 5, none⟩ (.int .u8 d) = w3 at *
  clear hw3 x0 x1 x2 x3 x4 x5 c5 f5 D2 k2 y1
  refine (hk _).mono ?_
  rintro e w4 ⟨rfl, b4⟩
  have k4 := k3.below b4 k3.lt
  have y4 := y3.then b4
  have A4 := A0.off hne y4
  go_wp2_with fail
  refine (dummyWrite_any _ _).mono ?_
  rintro e w5 ⟨rfl, b5⟩
  have k5 := k4.below b5 k4.lt
  have s5 := y4.then b5
  go_wp2
  go_ret
  exact ⟨⟨g, rfl, (k5.own (laid3_by ha0 ha1 hd0 hd1) (laid3_len _ _ _)).mono (Nat.le_of_lt hgw)⟩, B0.trans (s5.below (Nat.le_of_lt hgw) (Nat.le_of_lt hlt))⟩


/-- what a cell without a fault is like -/
theorem cellC_ok {a b c d : Int} {v : Bool} {n : Nat} (h : cellC a b c d v n = 0) : (0 ≤ a ∧ a < 256) ∧ (0 ≤ b ∧ b ≤ 100000) ∧ (0 ≤ c ∧ c ≤ 100000) ∧ (0 ≤ d ∧ d < 256) ∧ n ≤ 32 ∧ ((a = 1) ∨ (a = 0 ∧ b = 0 ∧ v = false ∧ n = 0)) := by
  unfold cellC at h
  split at h
  · omega
  · rename_i h1
    split at h
    · rename_i h2
      simp only [inB, decide_eq_true_eq] at h2
      split at h
      · rename_i h3
        have hk : a = 1 ∨ a = 0 := by omega
        refine ⟨by omega, by omega, by omega, by omega, h3, ?_⟩
        rcases hk with hk | hk
        · exact .inl hk
        · refine .inr ⟨hk, ?_, ?_, ?_⟩
          · exact Decidable.byContradiction fun g => h1 (.inr ⟨hk, .inl g⟩)
          · cases v
            · rfl
            · exact absurd (.inr ⟨hk, .inr (.inl rfl)⟩) h1
          · exact Decidable.byContradiction fun g => h1 (.inr ⟨hk, .inr (.inr g)⟩)
      · omega
    · omega

/-- the program's text of a cell without a fault -/
theorem encoded_any (a b c d : Int) (v : Bool) (A : Option Addr) (n f : Nat) (l : List Int) (w : World) (hA : Bs w A n l) (h0 : cellC a b c d v n = 0) :
    Calls Tryz.prog 113 #[.agg #[.int .i64 a, .int .i64 b, .int .i64 c, .int .i64 d, .bool v, .slice A n f]] w fun e w' => (∃ g, e = .returned (.slice (some ⟨g, 0, none⟩) 44 44) ∧ Ow w' w.heap.size (some ⟨g, 0, none⟩) 44 (cellL a b c d v l)) ∧ Below w.heap.size w w' := by
  obtain ⟨⟨a0, a1⟩, _, ⟨c0, c1⟩, ⟨d0, d1⟩, hn, hk⟩ := cellC_ok h0
  rcases hk with rfl | ⟨rfl, rfl, rfl, rfl⟩
  · exact encoded_data 1 b c d v A n f l w hA hn a0 a1 c0 c1 d0 d1 (fun W => kindOf_data b v n c d A f W)
  · obtain rfl : l = [] := List.eq_nil_of_length_eq_zero hA.len
    have h := encoded_dummy 0 0 c d false A 0 f [] w hA hn a0 a1 c0 c1 d0 d1 (fun W => kindOf_dummy c d A f W)
    rw [dummy_eq] at h
    exact h
end Go.Proofs.YtabhcolfkkfonaaGreatDoor

/-! EncA -/
/- EncodeCell, of the model and of the program. -/
namespace Go.Proofs.YtabhcolfkkfonaaGreatDoor
open Go.RowKit

theorem Row.capX {w : World} {B n c : Nat} {A : Option Addr} {l : List Int} (h : Row w B (.slice A n c) l) : n ≤ c ∧ (A = none → c = 0) := by
  rcases h.own.2 with ⟨e, _⟩ | ⟨g, cap, cur, e, _, _, hnc, _⟩
  · injection e with e1 e2 e3
    exact ⟨by omega, fun _ => e3⟩
  · injection e with e1 e2 e3
    exact ⟨by omega, fun e0 => by rw [e0] at e1; cases e1⟩

/-- how long the text is, and what it is, if nothing is wrong -/
def encN (C : Int) : Nat := if C = 0 then 44 else 0
def encL (C : Int) (l : List Int) : List Int := if C = 0 then l else []
theorem encN_le (C : Int) : encN C ≤ 44 := by unfold encN; split <;> omega

/-- the answer with a code and a text of the call's own -/
def EncAns (C : Int) (L : List Int) (w : World) (e : Ending) (w' : World) : Prop :=
  (∃ A0 d0, e = .returned (.agg #[.int .i64 C, .slice A0 (encN C) d0]) ∧ Rs w' w.heap.size [(A0, encN C, encL C L)] ∧ encN C ≤ d0 ∧ (A0 = none → d0 = 0)) ∧ Below w.heap.size w w'

theorem EncAns.rs {C : Int} {L : List Int} {w : World} {e : Ending} {w' : World} (h : EncAns C L w e w') : (∃ A0 d0, e = .returned (.agg #[.int .i64 C, .slice A0 (encN C) d0]) ∧ Rs w' w.heap.size [(A0, encN C, encL C L)]) ∧ Below w.heap.size w w' :=
  ⟨by obtain ⟨A0, d0, h1, h2, _⟩ := h.1; exact ⟨A0, d0, h1, h2⟩, h.2⟩

set_option maxHeartbeats 2000000 in
theorem implEncodeCell_any (a b c d : Int) (v : Bool) (A : Option Addr) (n f : Nat) (l : List Int) (w : World) (hA : Bs w A n l) :
    Calls Tryz.prog 170 #[.agg #[.int .i64 a, .int .i64 b, .int .i64 c, .int .i64 d, .bool v, .slice A n f]] w (EncAns (cellC a b c d v n) (cellL a b c d v l) w) := by
  have cc := fun W => implCellFault_any a b c d v A n f W
  have D0 := (Stc.new w 52 [.int .i64 a, .int .i64 b, .int .i64 c, .int .i64 d, .bool v, .slice A n f] _ rfl).alloc (.cells #[.int .i64 0, .slice none 0 0] 46)
  have T0 := Stc.new (w.alloc (.cells #[.int .i64 a, .int .i64 b, .int .i64 c, .int .i64 d, .bool v, .slice A n f] 52)) 46 [.int .i64 0, .slice none 0 0] _ rfl
  have B0 := ab (ab (Below.refl _ w) (.cells #[.int .i64 a, .int .i64 b, .int .i64 c, .int .i64 d, .bool v, .slice A n f] 52)) (.cells #[.int .i64 0, .slice none 0 0] 46)
  simp only [World.size_alloc] at T0
  by_cases h0 : cellC a b c d v n = 0
  · have hn : n ≤ 32 := (cellC_ok h0).2.2.2.2.1
    have H := fun W (hW : Below w.heap.size w W) => encoded_any a b c d v A n f l W (hA.below hW) h0
    rw [h0] at cc ⊢
    have F : Shut (encN 0 = 44 ∧ encL 0 (cellL a b c d v l) = cellL a b c d v l) := ⟨rfl, rfl⟩
    have len := Shut.mk (cellL_len a b c d v l (by rw [hA.len]; omega))
    clear h0 hA
    generalize cellL a b c d v l = L at *
    go_enter Tryz.func170, Tryz.ntmps170
    go_wp2_with fail
    refine (cc _).mono ?_
    rintro e w1 ⟨rfl, b1⟩
    have B1 := ac B0 b1
    replace D0 := D0.below b1 D0.lt
    replace T0 := T0.below b1 T0.lt
    clear b1 B0
    have x0 := D0.cell (i := 0) rfl
    have x1 := D0.cell (i := 1) rfl
    have x2 := D0.cell (i := 2) rfl
    have x3 := D0.cell (i := 3) rfl
    have x4 := D0.cell (i := 4) rfl
    have x5 := D0.cell (i := 5) rfl
    go_wp2_with fail
    refine (H _ B1).mono ?_
    clear x0 x1 x2 x3 x4 x5
    rintro e w2 ⟨⟨g, rfl, o2⟩, b2⟩
    have B2 := ac B1 b2
    have z1 := T0.lt
    replace T0 := T0.below b2 T0.lt
    have y0 := T0.cell (i := 0) rfl
    have y1 := T0.cell (i := 1) rfl
    have y2 := T0.frozen
    clear b2 B1 D0 H cc
    go_wp2
    refine bodyPost_ret (v := .agg #[.int .i64 0, .slice (some ⟨g, 0, none⟩) 44 44]) (by simp [results, Tryz.results170, go_sem, y0, y1]) rfl ?_
    refine ⟨⟨_, _, rfl, ?_, Nat.le_refl _, fun e => by cases e⟩, (B2.setCell (by simp) _).setCell (by simp) _⟩
    exact Rs.one (((o2.far (by simp; omega) _).far (by simp; omega) _).mono (by have := B2.size; omega))
  · have hx : (cellC a b c d v n != 0) = true := by simpa using h0
    have F : Shut (encN (cellC a b c d v n) = 0 ∧ encL (cellC a b c d v n) (cellL a b c d v l) = []) := ⟨by unfold encN; rw [if_neg h0], by unfold encL; rw [if_neg h0]⟩
    unfold EncAns
    rw [F.out.1, F.out.2]
    generalize cellC a b c d v n = C at *
    clear h0 F
    go_enter Tryz.func170, Tryz.ntmps170
    go_wp2_with fail
    refine (cc _).mono ?_
    rintro e w1 ⟨rfl, b1⟩
    have B1 := ac B0 b1
    replace T0 := T0.below b1 T0.lt
    have y0 := T0.cell (i := 0) rfl
    have y1 := T0.cell (i := 1) rfl
    have y2 := T0.frozen
    go_wp2
    refine bodyPost_ret (v := .agg #[.int .i64 C, .slice none 0 0]) (by simp [results, Tryz.results170, go_sem, y0, y1]) rfl ?_
    exact ⟨⟨none, 0, rfl, Rs.one (Ow.nil_ _ _), Nat.le_refl _, fun _ => rfl⟩, (B1.setCell (by simp) _).setCell (by simp) _⟩
end Go.Proofs.YtabhcolfkkfonaaGreatDoor
