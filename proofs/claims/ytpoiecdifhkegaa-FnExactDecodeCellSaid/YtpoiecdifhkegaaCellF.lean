/- The fault of a cell, of the model and of the program. -/
import Derived.Test.YtpoiecdifhkegaaCellM
import Derived.Test.YtpoiecdifhkegaaRowsC
namespace Go.Proofs.Ytpoiecdifhkegaa
open Go.RowKit
set_option maxHeartbeats 1000000 in
theorem specCellFault_no (a b : Int) (v : Bool) (n : Nat) (c d : Int) (A : Option Addr) (f : Nat) (w : World) (h0 : (a != 0) = true) (h1 : (a != 1) = true) :
    Calls Try.prog 23 #[.agg #[.int .i64 a, .int .i64 b, .int .i64 c, .int .i64 d, .bool v, .slice A n f]] w fun e w' => e = .returned (.int .i64 1) ∧ Below w.heap.size w w' := by
  go_enter Try.func23, Try.ntmps23
  go_wp2
  go_ret
  exact ⟨rfl, by go_grown⟩

set_option maxHeartbeats 1000000 in
theorem specCellFault_d1 (b : Int) (v : Bool) (n : Nat) (c d : Int) (A : Option Addr) (f : Nat) (w : World) (h0 : (b != 0) = true) :
    Calls Try.prog 23 #[.agg #[.int .i64 0, .int .i64 b, .int .i64 c, .int .i64 d, .bool v, .slice A n f]] w fun e w' => e = .returned (.int .i64 1) ∧ Below w.heap.size w w' := by
  go_enter Try.func23, Try.ntmps23
  go_wp2
  go_ret
  exact ⟨rfl, by go_grown⟩

set_option maxHeartbeats 1000000 in
theorem specCellFault_d2 (n : Nat) (c d : Int) (A : Option Addr) (f : Nat) (w : World)  :
    Calls Try.prog 23 #[.agg #[.int .i64 0, .int .i64 0, .int .i64 c, .int .i64 d, .bool true, .slice A n f]] w fun e w' => e = .returned (.int .i64 1) ∧ Below w.heap.size w w' := by
  go_enter Try.func23, Try.ntmps23
  go_wp2
  go_ret
  exact ⟨rfl, by go_grown⟩

set_option maxHeartbeats 1000000 in
theorem specCellFault_d3 (n : Nat) (c d : Int) (A : Option Addr) (f : Nat) (w : World) (h0 : ((n : Int) != 0) = true) :
    Calls Try.prog 23 #[.agg #[.int .i64 0, .int .i64 0, .int .i64 c, .int .i64 d, .bool false, .slice A n f]] w fun e w' => e = .returned (.int .i64 1) ∧ Below w.heap.size w w' := by
  go_enter Try.func23, Try.ntmps23
  go_wp2
  go_ret
  exact ⟨rfl, by go_grown⟩

set_option maxHeartbeats 1000000 in
theorem specCellFault_yc  (c d : Int) (A : Option Addr) (f : Nat) (w : World)  (h : inB c 0 10000 = false) :
    Calls Try.prog 23 #[.agg #[.int .i64 0, .int .i64 0, .int .i64 c, .int .i64 d, .bool false, .slice A 0 f]] w fun e w' => e = .returned (.int .i64 3) ∧ Below w.heap.size w w' := by
  have h1 : inB 0 0 9999 = true := rfl
  have cb := In_any 0 0 9999
  rw [h1] at cb
  have cc := In_any c 0 10000
  rw [h] at cc
  clear h1 h
  go_enter Try.func23, Try.ntmps23
  go_wp2_with fail
  refine (cb _).mono ?_
  rintro e w' ⟨rfl, rfl⟩
  go_wp2_with fail
  refine (cc _).mono ?_
  rintro e w' ⟨rfl, rfl⟩
  go_wp2
  go_ret
  exact ⟨rfl, by go_grown⟩

set_option maxHeartbeats 1000000 in
theorem specCellFault_yd  (c d : Int) (A : Option Addr) (f : Nat) (w : World)  (h2 : inB c 0 10000 = true) (h : inB d 0 255 = false) :
    Calls Try.prog 23 #[.agg #[.int .i64 0, .int .i64 0, .int .i64 c, .int .i64 d, .bool false, .slice A 0 f]] w fun e w' => e = .returned (.int .i64 3) ∧ Below w.heap.size w w' := by
  have h1 : inB 0 0 9999 = true := rfl
  have cb := In_any 0 0 9999
  rw [h1] at cb
  have cc := In_any c 0 10000
  rw [h2] at cc
  have cd := In_any d 0 255
  rw [h] at cd
  clear h1 h2 h
  go_enter Try.func23, Try.ntmps23
  go_wp2_with fail
  refine (cb _).mono ?_
  rintro e w' ⟨rfl, rfl⟩
  go_wp2_with fail
  refine (cc _).mono ?_
  rintro e w' ⟨rfl, rfl⟩
  go_wp2_with fail
  refine (cd _).mono ?_
  rintro e w' ⟨rfl, rfl⟩
  go_wp2
  go_ret
  exact ⟨rfl, by go_grown⟩

set_option maxHeartbeats 1000000 in
theorem specCellFault_yk  (c d : Int) (A : Option Addr) (f : Nat) (w : World)  (h2 : inB c 0 10000 = true) (h3 : inB d 0 255 = true) :
    Calls Try.prog 23 #[.agg #[.int .i64 0, .int .i64 0, .int .i64 c, .int .i64 d, .bool false, .slice A 0 f]] w fun e w' => e = .returned (.int .i64 0) ∧ Below w.heap.size w w' := by
  have h1 : inB 0 0 9999 = true := rfl
  have cb := In_any 0 0 9999
  rw [h1] at cb
  have cc := In_any c 0 10000
  rw [h2] at cc
  have cd := In_any d 0 255
  rw [h3] at cd
  clear h1 h2 h3
  go_enter Try.func23, Try.ntmps23
  go_wp2_with fail
  refine (cb _).mono ?_
  rintro e w' ⟨rfl, rfl⟩
  go_wp2_with fail
  refine (cc _).mono ?_
  rintro e w' ⟨rfl, rfl⟩
  go_wp2_with fail
  refine (cd _).mono ?_
  rintro e w' ⟨rfl, rfl⟩
  go_wp2
  go_ret
  exact ⟨rfl, by go_grown⟩

set_option maxHeartbeats 1000000 in
theorem specCellFault_xb (b : Int) (v : Bool) (n : Nat) (c d : Int) (A : Option Addr) (f : Nat) (w : World) (h : inB b 0 9999 = false) :
    Calls Try.prog 23 #[.agg #[.int .i64 1, .int .i64 b, .int .i64 c, .int .i64 d, .bool v, .slice A n f]] w fun e w' => e = .returned (.int .i64 3) ∧ Below w.heap.size w w' := by
  have cb := In_any b 0 9999
  rw [h] at cb
  clear h
  go_enter Try.func23, Try.ntmps23
  go_wp2_with fail
  refine (cb _).mono ?_
  rintro e w' ⟨rfl, rfl⟩
  go_wp2
  go_ret
  exact ⟨rfl, by go_grown⟩

set_option maxHeartbeats 1000000 in
theorem specCellFault_xc (b : Int) (v : Bool) (n : Nat) (c d : Int) (A : Option Addr) (f : Nat) (w : World) (h1 : inB b 0 9999 = true) (h : inB c 0 10000 = false) :
    Calls Try.prog 23 #[.agg #[.int .i64 1, .int .i64 b, .int .i64 c, .int .i64 d, .bool v, .slice A n f]] w fun e w' => e = .returned (.int .i64 3) ∧ Below w.heap.size w w' := by
  have cb := In_any b 0 9999
  rw [h1] at cb
  have cc := In_any c 0 10000
  rw [h] at cc
  clear h1 h
  go_enter Try.func23, Try.ntmps23
  go_wp2_with fail
  refine (cb _).mono ?_
  rintro e w' ⟨rfl, rfl⟩
  go_wp2_with fail
  refine (cc _).mono ?_
  rintro e w' ⟨rfl, rfl⟩
  go_wp2
  go_ret
  exact ⟨rfl, by go_grown⟩

set_option maxHeartbeats 1000000 in
theorem specCellFault_xd (b : Int) (v : Bool) (n : Nat) (c d : Int) (A : Option Addr) (f : Nat) (w : World) (h1 : inB b 0 9999 = true) (h2 : inB c 0 10000 = true) (h : inB d 0 255 = false) :
    Calls Try.prog 23 #[.agg #[.int .i64 1, .int .i64 b, .int .i64 c, .int .i64 d, .bool v, .slice A n f]] w fun e w' => e = .returned (.int .i64 3) ∧ Below w.heap.size w w' := by
  have cb := In_any b 0 9999
  rw [h1] at cb
  have cc := In_any c 0 10000
  rw [h2] at cc
  have cd := In_any d 0 255
  rw [h] at cd
  clear h1 h2 h
  go_enter Try.func23, Try.ntmps23
  go_wp2_with fail
  refine (cb _).mono ?_
  rintro e w' ⟨rfl, rfl⟩
  go_wp2_with fail
  refine (cc _).mono ?_
  rintro e w' ⟨rfl, rfl⟩
  go_wp2_with fail
  refine (cd _).mono ?_
  rintro e w' ⟨rfl, rfl⟩
  go_wp2
  go_ret
  exact ⟨rfl, by go_grown⟩

set_option maxHeartbeats 1000000 in
theorem specCellFault_xm (b : Int) (v : Bool) (n : Nat) (c d : Int) (A : Option Addr) (f : Nat) (w : World) (h1 : inB b 0 9999 = true) (h2 : inB c 0 10000 = true) (h3 : inB d 0 255 = true) (h : 32 < (n : Int)) :
    Calls Try.prog 23 #[.agg #[.int .i64 1, .int .i64 b, .int .i64 c, .int .i64 d, .bool v, .slice A n f]] w fun e w' => e = .returned (.int .i64 2) ∧ Below w.heap.size w w' := by
  have cb := In_any b 0 9999
  rw [h1] at cb
  have cc := In_any c 0 10000
  rw [h2] at cc
  have cd := In_any d 0 255
  rw [h3] at cd
  clear h1 h2 h3
  go_enter Try.func23, Try.ntmps23
  go_wp2_with fail
  refine (cb _).mono ?_
  rintro e w' ⟨rfl, rfl⟩
  go_wp2_with fail
  refine (cc _).mono ?_
  rintro e w' ⟨rfl, rfl⟩
  go_wp2_with fail
  refine (cd _).mono ?_
  rintro e w' ⟨rfl, rfl⟩
  go_wp2
  go_ret
  exact ⟨rfl, by go_grown⟩

set_option maxHeartbeats 1000000 in
theorem specCellFault_xk (b : Int) (v : Bool) (n : Nat) (c d : Int) (A : Option Addr) (f : Nat) (w : World) (h1 : inB b 0 9999 = true) (h2 : inB c 0 10000 = true) (h3 : inB d 0 255 = true) (h : ¬ 32 < (n : Int)) :
    Calls Try.prog 23 #[.agg #[.int .i64 1, .int .i64 b, .int .i64 c, .int .i64 d, .bool v, .slice A n f]] w fun e w' => e = .returned (.int .i64 0) ∧ Below w.heap.size w w' := by
  have cb := In_any b 0 9999
  rw [h1] at cb
  have cc := In_any c 0 10000
  rw [h2] at cc
  have cd := In_any d 0 255
  rw [h3] at cd
  clear h1 h2 h3
  go_enter Try.func23, Try.ntmps23
  go_wp2_with fail
  refine (cb _).mono ?_
  rintro e w' ⟨rfl, rfl⟩
  go_wp2_with fail
  refine (cc _).mono ?_
  rintro e w' ⟨rfl, rfl⟩
  go_wp2_with fail
  refine (cd _).mono ?_
  rintro e w' ⟨rfl, rfl⟩
  go_wp2
  go_ret
  exact ⟨rfl, by go_grown⟩

set_option maxHeartbeats 1000000 in
theorem kindOf_data (b : Int) (v : Bool) (n : Nat) (c d : Int) (A : Option Addr) (f : Nat) (w : World)  :
    Calls Try.prog 51 #[.agg #[.int .i64 1, .int .i64 b, .int .i64 c, .int .i64 d, .bool v, .slice A n f]] w fun e w' => e = .returned (.iface 71 (.agg #[.int .i64 b, .bool v, .slice A n f])) ∧ Below w.heap.size w w' := by
  go_enter Try.func51, Try.ntmps51
  go_wp2
  go_ret
  exact ⟨rfl, by go_grown⟩

set_option maxHeartbeats 1000000 in
theorem kindOf_dummy  (c d : Int) (A : Option Addr) (f : Nat) (w : World)  :
    Calls Try.prog 51 #[.agg #[.int .i64 0, .int .i64 0, .int .i64 c, .int .i64 d, .bool false, .slice A 0 f]] w fun e w' => e = .returned (.iface 69 (.agg #[])) ∧ Below w.heap.size w w' := by
  go_enter Try.func51, Try.ntmps51
  go_wp2
  go_ret
  exact ⟨rfl, by go_grown⟩

set_option maxHeartbeats 1000000 in
theorem kindOf_no (a b : Int) (v : Bool) (n : Nat) (c d : Int) (A : Option Addr) (f : Nat) (w : World) (h0 : (a == 0) = false) (h1 : (a == 1) = false) :
    Calls Try.prog 51 #[.agg #[.int .i64 a, .int .i64 b, .int .i64 c, .int .i64 d, .bool v, .slice A n f]] w fun e w' => e = .returned (.nilIface) ∧ Below w.heap.size w w' := by
  go_enter Try.func51, Try.ntmps51
  go_wp2
  go_ret
  exact ⟨rfl, by go_grown⟩

set_option maxHeartbeats 1000000 in
theorem kindOf_d1 (b : Int) (v : Bool) (n : Nat) (c d : Int) (A : Option Addr) (f : Nat) (w : World) (h0 : (b == 0) = false) :
    Calls Try.prog 51 #[.agg #[.int .i64 0, .int .i64 b, .int .i64 c, .int .i64 d, .bool v, .slice A n f]] w fun e w' => e = .returned (.nilIface) ∧ Below w.heap.size w w' := by
  go_enter Try.func51, Try.ntmps51
  go_wp2
  go_ret
  exact ⟨rfl, by go_grown⟩

set_option maxHeartbeats 1000000 in
theorem kindOf_d2 (n : Nat) (c d : Int) (A : Option Addr) (f : Nat) (w : World)  :
    Calls Try.prog 51 #[.agg #[.int .i64 0, .int .i64 0, .int .i64 c, .int .i64 d, .bool true, .slice A n f]] w fun e w' => e = .returned (.nilIface) ∧ Below w.heap.size w w' := by
  go_enter Try.func51, Try.ntmps51
  go_wp2
  go_ret
  exact ⟨rfl, by go_grown⟩

set_option maxHeartbeats 1000000 in
theorem kindOf_d3 (n : Nat) (c d : Int) (A : Option Addr) (f : Nat) (w : World) (h0 : ((n : Int) == 0) = false) :
    Calls Try.prog 51 #[.agg #[.int .i64 0, .int .i64 0, .int .i64 c, .int .i64 d, .bool false, .slice A n f]] w fun e w' => e = .returned (.nilIface) ∧ Below w.heap.size w w' := by
  go_enter Try.func51, Try.ntmps51
  go_wp2
  go_ret
  exact ⟨rfl, by go_grown⟩

/-- what the fields of all kinds come to -/
def ackC (c d : Int) : Int := if inB c 0 10000 = true ∧ inB d 0 255 = true then 0 else 3
theorem ackFault_any (a b c d : Int) (v : Bool) (A : Option Addr) (n f : Nat) (w : World) :
    Calls Try.prog 52 #[.agg #[.int .i64 a, .int .i64 b, .int .i64 c, .int .i64 d, .bool v, .slice A n f]] w fun e w' => e = .returned (.int .i64 (ackC c d)) ∧ Below w.heap.size w w' := by
  by_cases h : (0 ≤ c ∧ c ≤ 10000) ∧ 0 ≤ d ∧ d ≤ 255
  · have e : ackC c d = 0 := by simp [ackC, inB, h]
    rw [e]
    obtain ⟨⟨c0, c1⟩, d0, d1⟩ := h
    have c0' : ¬ c < 0 := by omega
    have c1' : ¬ 10000 < c := by omega
    have d0' : ¬ d < 0 := by omega
    have d1' : ¬ 255 < d := by omega
    clear e
    go_enter Try.func52, Try.ntmps52
    go_wp2
    go_ret
    exact ⟨rfl, by go_grown⟩
  · have e : ackC c d = 3 := by
      unfold ackC inB
      rw [if_neg]
      simp only [decide_eq_true_eq]
      exact h
    rw [e]
    clear e
    by_cases c0 : c < 0
    · clear h
      go_enter Try.func52, Try.ntmps52
      go_wp2
      go_ret
      exact ⟨rfl, by go_grown⟩
    · by_cases c1 : 10000 < c
      · clear h
        go_enter Try.func52, Try.ntmps52
        go_wp2
        go_ret
        exact ⟨rfl, by go_grown⟩
      · by_cases d0 : d < 0
        · clear h
          go_enter Try.func52, Try.ntmps52
          go_wp2
          go_ret
          exact ⟨rfl, by go_grown⟩
        · have d1 : 255 < d := by omega
          clear h
          go_enter Try.func52, Try.ntmps52
          go_wp2
          go_ret
          exact ⟨rfl, by go_grown⟩

/-- what data of their own come to -/
def dataC (b : Int) (n : Nat) : Int := if inB b 0 9999 = true then (if n ≤ 32 then 0 else 2) else 3
theorem dataFault_any (b : Int) (v : Bool) (A : Option Addr) (n f : Nat) (w : World) :
    Calls Try.prog 53 #[.agg #[.int .i64 b, .bool v, .slice A n f]] w fun e w' => e = .returned (.int .i64 (dataC b n)) ∧ Below w.heap.size w w' := by
  unfold dataC inB
  simp only [decide_eq_true_eq]
  by_cases b0 : b < 0
  · rw [if_neg (by omega)]
    go_enter Try.func53, Try.ntmps53
    go_wp2
    go_ret
    exact ⟨rfl, by go_grown⟩
  · by_cases b1 : 9999 < b
    · rw [if_neg (by omega)]
      go_enter Try.func53, Try.ntmps53
      go_wp2
      go_ret
      exact ⟨rfl, by go_grown⟩
    · rw [if_pos (by omega)]
      by_cases hn : n ≤ 32
      · rw [if_pos hn]
        have hn' : ¬ 32 < (n : Int) := by omega
        clear hn
        go_enter Try.func53, Try.ntmps53
        go_wp2
        go_ret
        exact ⟨rfl, by go_grown⟩
      · rw [if_neg hn]
        have hn' : 32 < (n : Int) := by omega
        clear hn
        go_enter Try.func53, Try.ntmps53
        go_wp2
        go_ret
        exact ⟨rfl, by go_grown⟩

theorem ta_dummy (v : Value) (w : World) : (Instr.typeAssert (.iface 69 v) 66 69 true).run Try.prog w = .ok (.tuple #[v, .bool true]) w := by kernel_rfl
theorem ta_dataDummy (v : Value) (w : World) : (Instr.typeAssert (.iface 71 v) 66 69 true).run Try.prog w = .ok (.tuple #[.agg #[], .bool false]) w := by kernel_rfl
theorem ta_data (v : Value) (w : World) : (Instr.typeAssert (.iface 71 v) 66 71 true).run Try.prog w = .ok (.tuple #[v, .bool true]) w := by kernel_rfl
theorem ta_nilDummy (w : World) : (Instr.typeAssert .nilIface 66 69 true).run Try.prog w = .ok (.tuple #[.agg #[], .bool false]) w := by kernel_rfl
theorem ta_nilData (w : World) : (Instr.typeAssert .nilIface 66 71 true).run Try.prog w = .ok (.tuple #[.agg #[.int .i64 0, .bool false, .slice none 0 0], .bool false]) w := by kernel_rfl

set_option maxHeartbeats 1000000 in
theorem implCellFault_none (a b c d : Int) (v : Bool) (A : Option Addr) (n f : Nat) (w : World) (hk : ∀ W : World, Calls Try.prog 51 #[.agg #[.int .i64 a, .int .i64 b, .int .i64 c, .int .i64 d, .bool v, .slice A n f]] W fun e w' => e = .returned .nilIface ∧ Below W.heap.size W w') :
    Calls Try.prog 20 #[.agg #[.int .i64 a, .int .i64 b, .int .i64 c, .int .i64 d, .bool v, .slice A n f]] w fun e w' => e = .returned (.int .i64 1) ∧ Below w.heap.size w w' := by
  have t0 := ta_dummy
  have t1 := ta_dataDummy
  have t2 := ta_data
  have t3 := ta_nilDummy
  have t4 := ta_nilData
  go_enter Try.func20, Try.ntmps20
  go_wp2_with fail
  refine (hk _).mono ?_
  rintro e w1 ⟨rfl, b1⟩
  go_wp2
  go_ret
  exact ⟨rfl, ac (ab (Below.refl _ w) _) b1⟩

set_option maxHeartbeats 1000000 in
theorem implCellFault_dummy (c d : Int) (A : Option Addr) (f : Nat) (w : World) :
    Calls Try.prog 20 #[.agg #[.int .i64 0, .int .i64 0, .int .i64 c, .int .i64 d, .bool false, .slice A 0 f]] w fun e w' => e = .returned (.int .i64 (ackC c d)) ∧ Below w.heap.size w w' := by
  have S0 := Stc.new w 25 [.int .i64 0, .int .i64 0, .int .i64 c, .int .i64 d, .bool false, .slice A 0 f] _ rfl
  generalize hX : ackC c d = X
  have ca := fun W => ackFault_any 0 0 c d false A 0 f W
  rw [hX] at ca
  clear hX
  have t0 := ta_dummy
  have t1 := ta_dataDummy
  have t2 := ta_data
  have t3 := ta_nilDummy
  have t4 := ta_nilData
  go_enter Try.func20, Try.ntmps20
  go_wp2_with fail
  refine (kindOf_dummy _ _ _ _ _).mono ?_
  rintro e w1 ⟨rfl, b1⟩
  replace S0 := S0.below b1 S0.lt
  have s1 := S0.lt
  have x0 := S0.cell (i := 0) rfl
  have x1 := S0.cell (i := 1) rfl
  have x2 := S0.cell (i := 2) rfl
  have x3 := S0.cell (i := 3) rfl
  have x4 := S0.cell (i := 4) rfl
  have x5 := S0.cell (i := 5) rfl
  have B1 := ac (ab (Below.refl _ w) (.cells #[.int .i64 0, .int .i64 0, .int .i64 c, .int .i64 d, .bool false, .slice A 0 f] 25)) b1
  clear b1
  go_wp2_with fail
  refine (ca _).mono ?_
  rintro e w2 ⟨rfl, b2⟩
  go_wp2
  go_ret
  exact ⟨rfl, ac (ab B1 _) b2⟩

set_option maxHeartbeats 1000000 in
theorem implCellFault_data (b c d : Int) (v : Bool) (A : Option Addr) (n f : Nat) (w : World) :
    Calls Try.prog 20 #[.agg #[.int .i64 1, .int .i64 b, .int .i64 c, .int .i64 d, .bool v, .slice A n f]] w fun e w' => e = .returned (.int .i64 (if ackC c d = 0 then dataC b n else ackC c d)) ∧ Below w.heap.size w w' := by
  have S0 := Stc.new w 25 [.int .i64 1, .int .i64 b, .int .i64 c, .int .i64 d, .bool v, .slice A n f] _ rfl
  have ca := fun W => ackFault_any 1 b c d v A n f W
  have cd := fun W => dataFault_any b v A n f W
  generalize dataC b n = Y at *
  have hx : ackC c d = 0 ∨ ackC c d = 3 := by unfold ackC; split <;> simp
  generalize ackC c d = X at *
  have B0 := ab (Below.refl _ w) (.cells #[.int .i64 1, .int .i64 b, .int .i64 c, .int .i64 d, .bool v, .slice A n f] 25)
  rcases hx with rfl | rfl
  · rw [if_pos rfl]
    have t0 := ta_dummy
    have t1 := ta_dataDummy
    have t2 := ta_data
    have t3 := ta_nilDummy
    have t4 := ta_nilData
    go_enter Try.func20, Try.ntmps20
    go_wp2_with fail
    refine (kindOf_data _ _ _ _ _ _ _ _).mono ?_
    rintro e w1 ⟨rfl, b1⟩
    replace S0 := S0.below b1 S0.lt
    have s1 := S0.lt
    have x0 := S0.cell (i := 0) rfl
    have x1 := S0.cell (i := 1) rfl
    have x2 := S0.cell (i := 2) rfl
    have x3 := S0.cell (i := 3) rfl
    have x4 := S0.cell (i := 4) rfl
    have x5 := S0.cell (i := 5) rfl
    have B1 := ac B0 b1
    clear b1 B0
    go_wp2_with fail
    refine (ca _).mono ?_
    rintro e w2 ⟨rfl, b2⟩
    have D0 := (Stc.new w1 71 [.int .i64 b, .bool v, .slice A n f] _ rfl).below b2 (by simp)
    have y0 := D0.cell (i := 0) rfl
    have y1 := D0.cell (i := 1) rfl
    have y2 := D0.cell (i := 2) rfl
    go_wp2_with fail
    refine (cd _).mono ?_
    rintro e w3 ⟨rfl, b3⟩
    go_wp2
    go_ret
    exact ⟨rfl, ac (ac (ab B1 _) b2) b3⟩
  · rw [if_neg (by omega)]
    have t0 := ta_dummy
    have t1 := ta_dataDummy
    have t2 := ta_data
    have t3 := ta_nilDummy
    have t4 := ta_nilData
    go_enter Try.func20, Try.ntmps20
    go_wp2_with fail
    refine (kindOf_data _ _ _ _ _ _ _ _).mono ?_
    rintro e w1 ⟨rfl, b1⟩
    replace S0 := S0.below b1 S0.lt
    have s1 := S0.lt
    have x0 := S0.cell (i := 0) rfl
    have x1 := S0.cell (i := 1) rfl
    have x2 := S0.cell (i := 2) rfl
    have x3 := S0.cell (i := 3) rfl
    have x4 := S0.cell (i := 4) rfl
    have x5 := S0.cell (i := 5) rfl
    have B1 := ac B0 b1
    clear b1 B0
    go_wp2_with fail
    refine (ca _).mono ?_
    rintro e w2 ⟨rfl, b2⟩
    go_wp2
    go_ret
    exact ⟨rfl, ac (ab B1 _) b2⟩

theorem ackC_bnd (c d : Int) : ackC c d = 0 ∨ ackC c d = 3 := by unfold ackC; split <;> simp

theorem specCellFault_any (a b c d : Int) (v : Bool) (A : Option Addr) (n f : Nat) (w : World) :
    Calls Try.prog 23 #[.agg #[.int .i64 a, .int .i64 b, .int .i64 c, .int .i64 d, .bool v, .slice A n f]] w fun e w' => e = .returned (.int .i64 (cellC a b c d v n)) ∧ Below w.heap.size w w' := by
  have hx : a = 1 → Calls Try.prog 23 #[.agg #[.int .i64 1, .int .i64 b, .int .i64 c, .int .i64 d, .bool v, .slice A n f]] w fun e w' => e = .returned (.int .i64 (if inB b 0 9999 = true ∧ inB c 0 10000 = true ∧ inB d 0 255 = true then (if n ≤ 32 then 0 else 2) else 3)) ∧ Below w.heap.size w w' := fun _ => by
    by_cases h1 : inB b 0 9999 = true
    · by_cases h2 : inB c 0 10000 = true
      · by_cases h3 : inB d 0 255 = true
        · rw [if_pos ⟨h1, h2, h3⟩]
          by_cases hn : n ≤ 32
          · rw [if_pos hn]; exact specCellFault_xk b v n c d A f w h1 h2 h3 (by omega)
          · rw [if_neg hn]; exact specCellFault_xm b v n c d A f w h1 h2 h3 (by omega)
        · rw [if_neg (fun h => h3 h.2.2)]; exact specCellFault_xd b v n c d A f w h1 h2 (by simpa using h3)
      · rw [if_neg (fun h => h2 h.2.1)]; exact specCellFault_xc b v n c d A f w h1 (by simpa using h2)
    · rw [if_neg (fun h => h1 h.1)]; exact specCellFault_xb b v n c d A f w (by simpa using h1)
  unfold cellC
  by_cases h1 : a = 1
  · rw [if_neg (by omega)]
    subst h1
    exact hx rfl
  · by_cases h0 : a = 0
    · subst h0
      by_cases hb : b = 0
      · subst hb
        cases v
        · by_cases hn : n = 0
          · subst hn
            rw [if_neg (by simp), if_pos (show (0 : Nat) ≤ 32 by omega)]
            by_cases h2 : inB c 0 10000 = true
            · by_cases h3 : inB d 0 255 = true
              · rw [if_pos ⟨rfl, h2, h3⟩]; exact specCellFault_yk c d A f w h2 h3
              · rw [if_neg (fun h => h3 h.2.2)]; exact specCellFault_yd c d A f w h2 (by simpa using h3)
            · rw [if_neg (fun h => h2 h.2.1)]; exact specCellFault_yc c d A f w (by simpa using h2)
          · rw [if_pos (.inr ⟨rfl, .inr (.inr hn)⟩)]
            exact specCellFault_d3 n c d A f w (by rw [bne_iff_ne]; omega)
        · rw [if_pos (.inr ⟨rfl, .inr (.inl rfl)⟩)]
          exact specCellFault_d2 n c d A f w
      · rw [if_pos (.inr ⟨rfl, .inl hb⟩)]
        exact specCellFault_d1 b v n c d A f w (by simpa using hb)
    · rw [if_pos (.inl ⟨h0, h1⟩)]
      exact specCellFault_no a b v n c d A f w (by simpa using h0) (by simpa using h1)

theorem implCellFault_any (a b c d : Int) (v : Bool) (A : Option Addr) (n f : Nat) (w : World) :
    Calls Try.prog 20 #[.agg #[.int .i64 a, .int .i64 b, .int .i64 c, .int .i64 d, .bool v, .slice A n f]] w fun e w' => e = .returned (.int .i64 (cellC a b c d v n)) ∧ Below w.heap.size w w' := by
  unfold cellC
  by_cases h1 : a = 1
  · rw [if_neg (by omega)]
    subst h1
    have h := implCellFault_data b c d v A n f w
    have e : (if ackC c d = 0 then dataC b n else ackC c d) = (if inB b 0 9999 = true ∧ inB c 0 10000 = true ∧ inB d 0 255 = true then (if n ≤ 32 then 0 else 2) else 3) := by
      unfold ackC dataC
      by_cases h1 : inB b 0 9999 = true <;> by_cases h2 : inB c 0 10000 = true <;> by_cases h3 : inB d 0 255 = true <;> simp [h1, h2, h3]
    rw [e] at h
    exact h
  · by_cases h0 : a = 0
    · subst h0
      by_cases hb : b = 0
      · subst hb
        cases v
        · by_cases hn : n = 0
          · subst hn
            rw [if_neg (by simp), if_pos (show (0 : Nat) ≤ 32 by omega)]
            have h := implCellFault_dummy c d A f w
            have e : ackC c d = (if inB 0 0 9999 = true ∧ inB c 0 10000 = true ∧ inB d 0 255 = true then 0 else 3) := by
              unfold ackC
              rw [show inB 0 0 9999 = true from rfl]
              simp
            rw [e] at h
            exact h
          · rw [if_pos (.inr ⟨rfl, .inr (.inr hn)⟩)]
            exact implCellFault_none 0 0 c d false A n f w (fun W => kindOf_d3 n c d A f W (by rw [beq_eq_false_iff_ne]; omega))
        · rw [if_pos (.inr ⟨rfl, .inr (.inl rfl)⟩)]
          exact implCellFault_none 0 0 c d true A n f w (fun W => kindOf_d2 n c d A f W)
      · rw [if_pos (.inr ⟨rfl, .inl hb⟩)]
        exact implCellFault_none 0 b c d v A n f w (fun W => kindOf_d1 b v n c d A f W (by simpa using hb))
    · rw [if_pos (.inl ⟨h0, h1⟩)]
      exact implCellFault_none a b c d v A n f w (fun W => kindOf_no a b v n c d A f W (by simpa using h0) (by simpa using h1))

end Go.Proofs.Ytpoiecdifhkegaa
