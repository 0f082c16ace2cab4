import Derived.Test.YtabhcolfkkfonaaGreatDoorSymB
import Derived.Test.YtabhcolfkkfonaaGreatDoorAnwX
import Derived.Test.YtabhcolfkkfonaaGreatDoorPairR

/-! FaultC -/
/- SymFault, of the model and of the program. -/
namespace Go.Proofs.YtabhcolfkkfonaaGreatDoor
open Go.RowKit

/-- what chapter 5 says of a state: its three sizes and its count -/
def symC (h c k : Nat) (n : Int) : Int := if h = 32 ∧ c = 32 ∧ (k = 0 ∨ k = 32) ∧ 0 ≤ n ∧ n ≤ 1000 then (if k = 0 ∧ n ≠ 0 then 8 else 0) else 3

theorem l5Size_any (A : Option Addr) (n c : Nat) (v : Bool) (w : World) (hv : ((n : Int) == 32) = v) :
    Calls Tryz.prog 88 #[.slice A n c] w fun e w' => e = .returned (.bool v) ∧ w' = w := by
  go_enter Tryz.func88, Tryz.ntmps88
  go_wp2
  go_ret
  exact ⟨rfl, rfl⟩

theorem hasKey_any (b o : Nat) (C : Option Addr) (n f : Nat) (v : Bool) (w : World) (hv : ((n : Int) != 0) = v) (h : w.cell? ⟨b, o + 2, none⟩ = some (.slice C n f)) :
    Calls Tryz.prog 87 #[.pointer (some ⟨b, o, none⟩)] w fun e w' => e = .returned (.bool v) ∧ w' = w := by
  go_enter Tryz.func87, Tryz.ntmps87
  go_wp2
  go_ret
  exact ⟨rfl, rfl⟩

set_option maxHeartbeats 1000000 in
theorem sym_spec_h0 (A B C : Option Addr) (h c d e f k : Nat) (n : Int) (w : World) (x0 : ¬ h = 32) :
    Calls Tryz.prog 27 #[.agg #[.slice A h c, .slice B d e, .slice C k f, .int .i64 n]] w fun e w' => e = .returned (.int .i64 3) ∧ Below w.heap.size w w' := by
  have y0 : ((h : Int) == 32) = false := by rw [beq_eq_false_iff_ne]; omega
  have y0' : ((h : Int) != 32) = true := by rw [bne_iff_ne]; omega
  go_enter Tryz.func27, Tryz.ntmps27
  go_wp2_with fail
  refine (l5Size_any A _ _ false _ (by assumption)).mono ?_
  rintro e w' ⟨rfl, rfl⟩
  go_wp2
  go_returns
  exact ⟨rfl, by go_grown⟩

set_option maxHeartbeats 1000000 in
theorem sym_spec_h1 (A B C : Option Addr) (h c d e f k : Nat) (n : Int) (w : World) (x0 : h = 32) (x1 : ¬ d = 32) :
    Calls Tryz.prog 27 #[.agg #[.slice A h c, .slice B d e, .slice C k f, .int .i64 n]] w fun e w' => e = .returned (.int .i64 3) ∧ Below w.heap.size w w' := by
  subst x0
  have y1 : ((d : Int) == 32) = false := by rw [beq_eq_false_iff_ne]; omega
  have y1' : ((d : Int) != 32) = true := by rw [bne_iff_ne]; omega
  go_enter Tryz.func27, Tryz.ntmps27
  go_wp2_with fail
  refine (l5Size_any A _ _ true _ (by rfl)).mono ?_
  rintro e w' ⟨rfl, rfl⟩
  go_wp2_with fail
  refine (l5Size_any B _ _ false _ (by assumption)).mono ?_
  rintro e w' ⟨rfl, rfl⟩
  go_wp2
  go_returns
  exact ⟨rfl, by go_grown⟩

set_option maxHeartbeats 1000000 in
theorem sym_spec_h2 (A B C : Option Addr) (h c d e f k : Nat) (n : Int) (w : World) (x0 : h = 32) (x1 : d = 32) (x2 : ¬ k = 0) (x3 : ¬ k = 32) :
    Calls Tryz.prog 27 #[.agg #[.slice A h c, .slice B d e, .slice C k f, .int .i64 n]] w fun e w' => e = .returned (.int .i64 3) ∧ Below w.heap.size w w' := by
  subst x0
  subst x1
  have y3 : ((k : Int) == 32) = false := by rw [beq_eq_false_iff_ne]; omega
  have y3' : ((k : Int) != 32) = true := by rw [bne_iff_ne]; omega
  have y2 : ((k : Int) != 0) = true := by rw [bne_iff_ne]; omega
  go_enter Tryz.func27, Tryz.ntmps27
  go_wp2_with fail
  refine (l5Size_any A _ _ true _ (by rfl)).mono ?_
  rintro e w' ⟨rfl, rfl⟩
  go_wp2_with fail
  refine (l5Size_any B _ _ true _ (by rfl)).mono ?_
  rintro e w' ⟨rfl, rfl⟩
  go_wp2_with fail
  refine (l5Size_any C _ _ false _ (by assumption)).mono ?_
  rintro e w' ⟨rfl, rfl⟩
  go_wp2
  go_returns
  exact ⟨rfl, by go_grown⟩

set_option maxHeartbeats 1000000 in
theorem sym_spec_h3 (A B C : Option Addr) (h c d e f k : Nat) (n : Int) (w : World) (x0 : h = 32) (x1 : d = 32) (x2 : k = 0) (x4 : ¬ (0 ≤ n ∧ n ≤ 1000)) :
    Calls Tryz.prog 27 #[.agg #[.slice A h c, .slice B d e, .slice C k f, .int .i64 n]] w fun e w' => e = .returned (.int .i64 3) ∧ Below w.heap.size w w' := by
  subst x0
  subst x1
  subst x2
  have hin : inB n 0 1000 = false := by simp only [inB, decide_eq_false_iff_not]; exact x4
  have cin := In_any n 0 1000
  simp only [hin] at cin
  go_enter Tryz.func27, Tryz.ntmps27
  go_wp2_with fail
  refine (l5Size_any A _ _ true _ (by rfl)).mono ?_
  rintro e w' ⟨rfl, rfl⟩
  go_wp2_with fail
  refine (l5Size_any B _ _ true _ (by rfl)).mono ?_
  rintro e w' ⟨rfl, rfl⟩
  go_wp2_with fail
  refine (cin _).mono ?_
  rintro e w' ⟨rfl, rfl⟩
  go_wp2
  go_returns
  exact ⟨rfl, by go_grown⟩

set_option maxHeartbeats 1000000 in
theorem sym_spec_h4 (A B C : Option Addr) (h c d e f k : Nat) (n : Int) (w : World) (x0 : h = 32) (x1 : d = 32) (x3 : k = 32) (x4 : ¬ (0 ≤ n ∧ n ≤ 1000)) :
    Calls Tryz.prog 27 #[.agg #[.slice A h c, .slice B d e, .slice C k f, .int .i64 n]] w fun e w' => e = .returned (.int .i64 3) ∧ Below w.heap.size w w' := by
  subst x0
  subst x1
  subst x3
  have hin : inB n 0 1000 = false := by simp only [inB, decide_eq_false_iff_not]; exact x4
  have cin := In_any n 0 1000
  simp only [hin] at cin
  go_enter Tryz.func27, Tryz.ntmps27
  go_wp2_with fail
  refine (l5Size_any A _ _ true _ (by rfl)).mono ?_
  rintro e w' ⟨rfl, rfl⟩
  go_wp2_with fail
  refine (l5Size_any B _ _ true _ (by rfl)).mono ?_
  rintro e w' ⟨rfl, rfl⟩
  go_wp2_with fail
  refine (l5Size_any C _ _ true _ (by rfl)).mono ?_
  rintro e w' ⟨rfl, rfl⟩
  go_wp2_with fail
  refine (cin _).mono ?_
  rintro e w' ⟨rfl, rfl⟩
  go_wp2
  go_returns
  exact ⟨rfl, by go_grown⟩

set_option maxHeartbeats 1000000 in
theorem sym_spec_h5 (A B C : Option Addr) (h c d e f k : Nat) (n : Int) (w : World) (x0 : h = 32) (x1 : d = 32) (x2 : k = 0) (x4 : 0 ≤ n ∧ n ≤ 1000) (x5 : ¬ n = 0) :
    Calls Tryz.prog 27 #[.agg #[.slice A h c, .slice B d e, .slice C k f, .int .i64 n]] w fun e w' => e = .returned (.int .i64 8) ∧ Below w.heap.size w w' := by
  subst x0
  subst x1
  subst x2
  have y5 : (n != 0) = true := by rw [bne_iff_ne]; omega
  have hin : inB n 0 1000 = true := by simp only [inB, decide_eq_true_iff]; exact x4
  have cin := In_any n 0 1000
  simp only [hin] at cin
  go_enter Tryz.func27, Tryz.ntmps27
  go_wp2_with fail
  refine (l5Size_any A _ _ true _ (by rfl)).mono ?_
  rintro e w' ⟨rfl, rfl⟩
  go_wp2_with fail
  refine (l5Size_any B _ _ true _ (by rfl)).mono ?_
  rintro e w' ⟨rfl, rfl⟩
  go_wp2_with fail
  refine (cin _).mono ?_
  rintro e w' ⟨rfl, rfl⟩
  go_wp2
  go_returns
  exact ⟨rfl, by go_grown⟩

set_option maxHeartbeats 1000000 in
theorem sym_spec_h6 (A B C : Option Addr) (h c d e f k : Nat) (n : Int) (w : World) (x0 : h = 32) (x1 : d = 32) (x2 : k = 0) (x5 : n = 0) :
    Calls Tryz.prog 27 #[.agg #[.slice A h c, .slice B d e, .slice C k f, .int .i64 n]] w fun e w' => e = .returned (.int .i64 0) ∧ Below w.heap.size w w' := by
  subst x0
  subst x1
  subst x2
  subst x5
  have hin : inB 0 0 1000 = true := by decide
  have cin := In_any 0 0 1000
  simp only [hin] at cin
  go_enter Tryz.func27, Tryz.ntmps27
  go_wp2_with fail
  refine (l5Size_any A _ _ true _ (by rfl)).mono ?_
  rintro e w' ⟨rfl, rfl⟩
  go_wp2_with fail
  refine (l5Size_any B _ _ true _ (by rfl)).mono ?_
  rintro e w' ⟨rfl, rfl⟩
  go_wp2_with fail
  refine (cin _).mono ?_
  rintro e w' ⟨rfl, rfl⟩
  go_wp2
  go_returns
  exact ⟨rfl, by go_grown⟩

set_option maxHeartbeats 1000000 in
theorem sym_spec_h7 (A B C : Option Addr) (h c d e f k : Nat) (n : Int) (w : World) (x0 : h = 32) (x1 : d = 32) (x3 : k = 32) (x4 : 0 ≤ n ∧ n ≤ 1000) :
    Calls Tryz.prog 27 #[.agg #[.slice A h c, .slice B d e, .slice C k f, .int .i64 n]] w fun e w' => e = .returned (.int .i64 0) ∧ Below w.heap.size w w' := by
  subst x0
  subst x1
  subst x3
  have hin : inB n 0 1000 = true := by simp only [inB, decide_eq_true_iff]; exact x4
  have cin := In_any n 0 1000
  simp only [hin] at cin
  go_enter Tryz.func27, Tryz.ntmps27
  go_wp2_with fail
  refine (l5Size_any A _ _ true _ (by rfl)).mono ?_
  rintro e w' ⟨rfl, rfl⟩
  go_wp2_with fail
  refine (l5Size_any B _ _ true _ (by rfl)).mono ?_
  rintro e w' ⟨rfl, rfl⟩
  go_wp2_with fail
  refine (l5Size_any C _ _ true _ (by rfl)).mono ?_
  rintro e w' ⟨rfl, rfl⟩
  go_wp2_with fail
  refine (cin _).mono ?_
  rintro e w' ⟨rfl, rfl⟩
  go_wp2
  go_returns
  exact ⟨rfl, by go_grown⟩

set_option maxHeartbeats 1000000 in
theorem sym_impl_h0 (A B C : Option Addr) (h c d e f k : Nat) (n : Int) (w : World) (x0 : ¬ h = 32) :
    Calls Tryz.prog 26 #[.agg #[.slice A h c, .slice B d e, .slice C k f, .int .i64 n]] w fun e w' => e = .returned (.int .i64 3) ∧ Below w.heap.size w w' := by
  have y0 : ((h : Int) == 32) = false := by rw [beq_eq_false_iff_ne]; omega
  have y0' : ((h : Int) != 32) = true := by rw [bne_iff_ne]; omega
  go_enter Tryz.func26, Tryz.ntmps26
  go_wp2
  go_returns
  exact ⟨rfl, by go_grown⟩

set_option maxHeartbeats 1000000 in
theorem sym_impl_h1 (A B C : Option Addr) (h c d e f k : Nat) (n : Int) (w : World) (x0 : h = 32) (x1 : ¬ d = 32) :
    Calls Tryz.prog 26 #[.agg #[.slice A h c, .slice B d e, .slice C k f, .int .i64 n]] w fun e w' => e = .returned (.int .i64 3) ∧ Below w.heap.size w w' := by
  subst x0
  have y1 : ((d : Int) == 32) = false := by rw [beq_eq_false_iff_ne]; omega
  have y1' : ((d : Int) != 32) = true := by rw [bne_iff_ne]; omega
  go_enter Tryz.func26, Tryz.ntmps26
  go_wp2
  go_returns
  exact ⟨rfl, by go_grown⟩

set_option maxHeartbeats 1000000 in
theorem sym_impl_h2 (A B C : Option Addr) (h c d e f k : Nat) (n : Int) (w : World) (x0 : h = 32) (x1 : d = 32) (x2 : ¬ k = 0) (x3 : ¬ k = 32) :
    Calls Tryz.prog 26 #[.agg #[.slice A h c, .slice B d e, .slice C k f, .int .i64 n]] w fun e w' => e = .returned (.int .i64 3) ∧ Below w.heap.size w w' := by
  subst x0
  subst x1
  have y3 : ((k : Int) == 32) = false := by rw [beq_eq_false_iff_ne]; omega
  have y3' : ((k : Int) != 32) = true := by rw [bne_iff_ne]; omega
  have y2 : ((k : Int) != 0) = true := by rw [bne_iff_ne]; omega
  by_cases x6 : n < 0
  · go_enter Tryz.func26, Tryz.ntmps26
    go_wp2
    go_returns
    exact ⟨rfl, by go_grown⟩
  · by_cases x7 : 1000 < n
    · go_enter Tryz.func26, Tryz.ntmps26
      go_wp2
      go_returns
      exact ⟨rfl, by go_grown⟩
    · have x9 : ¬ n > 1000 := x7
      go_enter Tryz.func26, Tryz.ntmps26
      go_wp2_with fail
      refine (hasKey_any w.heap.size 0 C k f true _ y2 ?_).mono ?_
      · simp [go_sem]
      rintro e w' ⟨rfl, rfl⟩
      go_wp2
      go_returns
      exact ⟨rfl, by go_grown⟩
set_option maxHeartbeats 1000000 in
theorem sym_impl_h3 (A B C : Option Addr) (h c d e f k : Nat) (n : Int) (w : World) (x0 : h = 32) (x1 : d = 32) (x2 : k = 0) (x4 : ¬ (0 ≤ n ∧ n ≤ 1000)) :
    Calls Tryz.prog 26 #[.agg #[.slice A h c, .slice B d e, .slice C k f, .int .i64 n]] w fun e w' => e = .returned (.int .i64 3) ∧ Below w.heap.size w w' := by
  subst x0
  subst x1
  subst x2
  by_cases x6 : n < 0
  · go_enter Tryz.func26, Tryz.ntmps26
    go_wp2
    go_returns
    exact ⟨rfl, by go_grown⟩
  · have x7 : 1000 < n := by omega
    go_enter Tryz.func26, Tryz.ntmps26
    go_wp2
    go_returns
    exact ⟨rfl, by go_grown⟩
set_option maxHeartbeats 1000000 in
theorem sym_impl_h4 (A B C : Option Addr) (h c d e f k : Nat) (n : Int) (w : World) (x0 : h = 32) (x1 : d = 32) (x3 : k = 32) (x4 : ¬ (0 ≤ n ∧ n ≤ 1000)) :
    Calls Tryz.prog 26 #[.agg #[.slice A h c, .slice B d e, .slice C k f, .int .i64 n]] w fun e w' => e = .returned (.int .i64 3) ∧ Below w.heap.size w w' := by
  subst x0
  subst x1
  subst x3
  by_cases x6 : n < 0
  · go_enter Tryz.func26, Tryz.ntmps26
    go_wp2
    go_returns
    exact ⟨rfl, by go_grown⟩
  · have x7 : 1000 < n := by omega
    go_enter Tryz.func26, Tryz.ntmps26
    go_wp2
    go_returns
    exact ⟨rfl, by go_grown⟩
set_option maxHeartbeats 1000000 in
theorem sym_impl_h5 (A B C : Option Addr) (h c d e f k : Nat) (n : Int) (w : World) (x0 : h = 32) (x1 : d = 32) (x2 : k = 0) (x4 : 0 ≤ n ∧ n ≤ 1000) (x5 : ¬ n = 0) :
    Calls Tryz.prog 26 #[.agg #[.slice A h c, .slice B d e, .slice C k f, .int .i64 n]] w fun e w' => e = .returned (.int .i64 8) ∧ Below w.heap.size w w' := by
  subst x0
  subst x1
  subst x2
  have y5 : (n != 0) = true := by rw [bne_iff_ne]; omega
  obtain ⟨x6, x7⟩ := x4
  have x8 : ¬ n < 0 := by omega
  have x9 : ¬ 1000 < n := by omega
  go_enter Tryz.func26, Tryz.ntmps26
  go_wp2_with fail
  refine (hasKey_any w.heap.size 0 C 0 f false _ (by first | rfl | assumption) ?_).mono ?_
  · simp [go_sem]
  rintro e w' ⟨rfl, rfl⟩
  go_wp2_with fail
  refine (hasKey_any w.heap.size 0 C 0 f false _ (by first | rfl | assumption) ?_).mono ?_
  · simp [go_sem]
  rintro e w' ⟨rfl, rfl⟩
  go_wp2
  go_returns
  exact ⟨rfl, by go_grown⟩

set_option maxHeartbeats 1000000 in
theorem sym_impl_h6 (A B C : Option Addr) (h c d e f k : Nat) (n : Int) (w : World) (x0 : h = 32) (x1 : d = 32) (x2 : k = 0) (x5 : n = 0) :
    Calls Tryz.prog 26 #[.agg #[.slice A h c, .slice B d e, .slice C k f, .int .i64 n]] w fun e w' => e = .returned (.int .i64 0) ∧ Below w.heap.size w w' := by
  subst x0
  subst x1
  subst x2
  subst x5
  go_enter Tryz.func26, Tryz.ntmps26
  go_wp2_with fail
  refine (hasKey_any w.heap.size 0 C 0 f false _ (by first | rfl | assumption) ?_).mono ?_
  · simp [go_sem]
  rintro e w' ⟨rfl, rfl⟩
  go_wp2_with fail
  refine (hasKey_any w.heap.size 0 C 0 f false _ (by first | rfl | assumption) ?_).mono ?_
  · simp [go_sem]
  rintro e w' ⟨rfl, rfl⟩
  go_wp2
  go_returns
  exact ⟨rfl, by go_grown⟩

set_option maxHeartbeats 1000000 in
theorem sym_impl_h7 (A B C : Option Addr) (h c d e f k : Nat) (n : Int) (w : World) (x0 : h = 32) (x1 : d = 32) (x3 : k = 32) (x4 : 0 ≤ n ∧ n ≤ 1000) :
    Calls Tryz.prog 26 #[.agg #[.slice A h c, .slice B d e, .slice C k f, .int .i64 n]] w fun e w' => e = .returned (.int .i64 0) ∧ Below w.heap.size w w' := by
  subst x0
  subst x1
  subst x3
  obtain ⟨x6, x7⟩ := x4
  have x8 : ¬ n < 0 := by omega
  have x9 : ¬ 1000 < n := by omega
  go_enter Tryz.func26, Tryz.ntmps26
  go_wp2_with fail
  refine (hasKey_any w.heap.size 0 C 32 f true _ (by first | rfl | assumption) ?_).mono ?_
  · simp [go_sem]
  rintro e w' ⟨rfl, rfl⟩
  go_wp2_with fail
  refine (hasKey_any w.heap.size 0 C 32 f true _ (by first | rfl | assumption) ?_).mono ?_
  · simp [go_sem]
  rintro e w' ⟨rfl, rfl⟩
  go_wp2
  go_returns
  exact ⟨rfl, by go_grown⟩

theorem spec_SymFault_any (A B C : Option Addr) (h c d e f k : Nat) (n : Int) (w : World) :
    Calls Tryz.prog 27 #[.agg #[.slice A h c, .slice B d e, .slice C k f, .int .i64 n]] w fun e w' => e = .returned (.int .i64 (symC h d k n)) ∧ Below w.heap.size w w' := by
  by_cases x0 : h = 32
  · by_cases x1 : d = 32
    · by_cases x2 : k = 0
      · by_cases x4 : 0 ≤ n ∧ n ≤ 1000
        · by_cases x5 : n = 0
          · have e1 : symC h d k n = 0 := by simp [symC, x0, x1, x2, x5]
            rw [e1]; exact sym_spec_h6 A B C h c d e f k n w x0 x1 x2 x5
          · have e1 : symC h d k n = 8 := by simp [symC, x0, x1, x2, x4, x5]
            rw [e1]; exact sym_spec_h5 A B C h c d e f k n w x0 x1 x2 x4 x5
        · have e1 : symC h d k n = 3 := by unfold symC; rw [if_neg]; rintro ⟨_, _, _, h4⟩; exact x4 h4
          rw [e1]; exact sym_spec_h3 A B C h c d e f k n w x0 x1 x2 x4
      · by_cases x3 : k = 32
        · by_cases x4 : 0 ≤ n ∧ n ≤ 1000
          · have e1 : symC h d k n = 0 := by simp [symC, x0, x1, x3, x4]
            rw [e1]; exact sym_spec_h7 A B C h c d e f k n w x0 x1 x3 x4
          · have e1 : symC h d k n = 3 := by unfold symC; rw [if_neg]; rintro ⟨_, _, _, h4⟩; exact x4 h4
            rw [e1]; exact sym_spec_h4 A B C h c d e f k n w x0 x1 x3 x4
        · have e1 : symC h d k n = 3 := by simp [symC, x2, x3]
          rw [e1]; exact sym_spec_h2 A B C h c d e f k n w x0 x1 x2 x3
    · have e1 : symC h d k n = 3 := by simp [symC, x1]
      rw [e1]; exact sym_spec_h1 A B C h c d e f k n w x0 x1
  · have e1 : symC h d k n = 3 := by simp [symC, x0]
    rw [e1]; exact sym_spec_h0 A B C h c d e f k n w x0

theorem impl_SymFault_any (A B C : Option Addr) (h c d e f k : Nat) (n : Int) (w : World) :
    Calls Tryz.prog 26 #[.agg #[.slice A h c, .slice B d e, .slice C k f, .int .i64 n]] w fun e w' => e = .returned (.int .i64 (symC h d k n)) ∧ Below w.heap.size w w' := by
  by_cases x0 : h = 32
  · by_cases x1 : d = 32
    · by_cases x2 : k = 0
      · by_cases x4 : 0 ≤ n ∧ n ≤ 1000
        · by_cases x5 : n = 0
          · have e1 : symC h d k n = 0 := by simp [symC, x0, x1, x2, x5]
            rw [e1]; exact sym_impl_h6 A B C h c d e f k n w x0 x1 x2 x5
          · have e1 : symC h d k n = 8 := by simp [symC, x0, x1, x2, x4, x5]
            rw [e1]; exact sym_impl_h5 A B C h c d e f k n w x0 x1 x2 x4 x5
        · have e1 : symC h d k n = 3 := by unfold symC; rw [if_neg]; rintro ⟨_, _, _, h4⟩; exact x4 h4
          rw [e1]; exact sym_impl_h3 A B C h c d e f k n w x0 x1 x2 x4
      · by_cases x3 : k = 32
        · by_cases x4 : 0 ≤ n ∧ n ≤ 1000
          · have e1 : symC h d k n = 0 := by simp [symC, x0, x1, x3, x4]
            rw [e1]; exact sym_impl_h7 A B C h c d e f k n w x0 x1 x3 x4
          · have e1 : symC h d k n = 3 := by unfold symC; rw [if_neg]; rintro ⟨_, _, _, h4⟩; exact x4 h4
            rw [e1]; exact sym_impl_h4 A B C h c d e f k n w x0 x1 x3 x4
        · have e1 : symC h d k n = 3 := by simp [symC, x2, x3]
          rw [e1]; exact sym_impl_h2 A B C h c d e f k n w x0 x1 x2 x3
    · have e1 : symC h d k n = 3 := by simp [symC, x1]
      rw [e1]; exact sym_impl_h1 A B C h c d e f k n w x0 x1
  · have e1 : symC h d k n = 3 := by simp [symC, x0]
    rw [e1]; exact sym_impl_h0 A B C h c d e f k n w x0

end Go.Proofs.YtabhcolfkkfonaaGreatDoor

/-! SplitC -/
/- SplitSym, of the model and of the program. -/
namespace Go.Proofs.YtabhcolfkkfonaaGreatDoor
open Go.RowKit

def codN (c : Int) (n : Nat) : Nat := if c = 0 then n else 0
def codL (c : Int) (l : List Int) : List Int := if c = 0 then l else []
theorem codN_le (c : Int) (n : Nat) : codN c n ≤ n := by unfold codN; split <;> omega
theorem symC_zero {h d k : Nat} {n : Int} (e : symC h d k n = 0) : h = 32 ∧ d = 32 ∧ ((k = 0 ∧ n = 0) ∨ (k = 32 ∧ 0 ≤ n ∧ n ≤ 1000)) := by
  unfold symC at e
  split at e
  · rename_i hh
    obtain ⟨h1, h2, h3, h4, h5⟩ := hh
    split at e
    · omega
    · rename_i hk
      refine ⟨h1, h2, ?_⟩
      rcases h3 with rfl | rfl
      · left; exact ⟨rfl, by omega⟩
      · right; exact ⟨rfl, h4, h5⟩
  · omega
theorem symC_small (h d k : Nat) (n : Int) : 0 ≤ symC h d k n ∧ symC h d k n ≤ 8 := by
  unfold symC; repeat' split <;> omega

theorem Rs.nil2 (w : World) (B : Nat) : Rs w B [(none, 0, []), (none, 0, [])] := by
  refine Rs.cons (Ow.nil_ _ _) ?_ (Rs.cons (Ow.nil_ _ _) ?_ (Rs.nil _ _))
  · intro y hy hn; exact absurd hn (by omega)
  · intro y hy; cases hy

set_option maxHeartbeats 1000000 in
theorem specSplitSym_any (A B C : Option Addr) (h c d e f k : Nat) (n : Int) (l : List Int) (w : World) (hb : Bs w B d l) :
    Calls Tryz.prog 25 #[.agg #[.slice A h c, .slice B d e, .slice C k f, .int .i64 n]] w (PairRs (symC h d k n) (codN (symC h d k n) 32) (codN (symC h d k n) 32) (codL (symC h d k n) (firstW l [])) (codL (symC h d k n) (otherW l [])) w) := by
  have cs := fun W => spec_SymFault_any A B C h c d e f k n W
  by_cases hz : symC h d k n = 0
  · have hk := fun W (hW : Bs W B d l) => l2Keys_any B none d e 0 0 l [] W hW (Bs.none_ W) (fun _ => rfl) (by omega)
    rw [hz] at cs ⊢
    have e1 : codN 0 32 = 32 := rfl
    have e2 : codL 0 (firstW l []) = firstW l [] := rfl
    have e3 : codL 0 (otherW l []) = otherW l [] := rfl
    rw [e1, e2, e3]
    clear e1 e2 e3 hz
    generalize firstW l [] = F at *
    generalize otherW l [] = O at *
    have S0 := (Stc.new w 25 [.slice A h c, .slice B d e, .slice C k f, .int .i64 n] _ rfl).alloc (.cells #[.int .i64 0, .slice none 0 0, .slice none 0 0] 33)
    have S1 := Stc.new (w.alloc (.cells #[.slice A h c, .slice B d e, .slice C k f, .int .i64 n] 25)) 33 [.int .i64 0, .slice none 0 0, .slice none 0 0] _ rfl
    have B0 := ab (ab (Below.refl _ w) (.cells #[.slice A h c, .slice B d e, .slice C k f, .int .i64 n] 25)) (.cells #[.int .i64 0, .slice none 0 0, .slice none 0 0] 33)
    simp only [World.size_alloc] at S1
    go_enter Tryz.func25, Tryz.ntmps25
    go_wp2_with fail
    refine (cs _).mono ?_
    rintro e w1 ⟨rfl, b1⟩
    replace S0 := S0.below b1 S0.lt
    replace S1 := S1.below b1 S1.lt
    have B1 := ac B0 b1
    have x0 := S0.cell (i := 1) rfl
    go_wp2_with fail
    refine (hk _ (hb.below B1)).mono ?_
    rintro e w2 ⟨⟨A1, c1, A2, c2, rfl, o1, o2, ha⟩, b2⟩
    replace S1 := S1.below b2 S1.lt
    have B2 := ac B1 b2
    have z1 := B1.size
    have z2 := S1.lt
    have y0 := S1.cell (i := 0) rfl
    have y1 := S1.cell (i := 1) rfl
    have y2 := S1.cell (i := 2) rfl
    have y3 := S1.frozen
    have zz : w.heap.size + 1 < w1.heap.size := by have := b1.size; simp only [World.size_alloc] at this; omega
    go_wp2
    refine bodyPost_ret (v := .agg #[.int .i64 0, .slice A1 32 c1, .slice A2 32 c2]) (by simp [results, Tryz.results25, go_sem, y0, y1, y2]) rfl ?_
    refine ⟨⟨A1, c1, A2, c2, rfl, Rs.cons ?_ ?_ (Rs.cons ?_ ?_ (Rs.nil _ _))⟩, ?_⟩
    · exact (((o1.far (p := ⟨w.heap.size + 1, 0, none⟩) zz _).far (p := ⟨w.heap.size + 1, 1, none⟩) zz _).far (p := ⟨w.heap.size + 1, 2, none⟩) zz _).mono (by omega)
    · intro y hy
      simp only [List.mem_cons, List.not_mem_nil, or_false] at hy
      subst hy
      exact ha
    · exact (((o2.far (p := ⟨w.heap.size + 1, 0, none⟩) zz _).far (p := ⟨w.heap.size + 1, 1, none⟩) zz _).far (p := ⟨w.heap.size + 1, 2, none⟩) zz _).mono (by omega)
    · intro y hy; cases hy
    · exact ((B2.setCell (by simp) _).setCell (by simp) _).setCell (by simp) _
  · have hp : (symC h d k n != 0) = true := by rw [bne_iff_ne]; exact hz
    have e1 : codN (symC h d k n) 32 = 0 := by simp [codN, hz]
    have e2 : codL (symC h d k n) (firstW l []) = [] := by simp [codL, hz]
    have e3 : codL (symC h d k n) (otherW l []) = [] := by simp [codL, hz]
    rw [e1, e2, e3]
    clear e1 e2 e3
    generalize symC h d k n = Z at *
    have S1 := Stc.new (w.alloc (.cells #[.slice A h c, .slice B d e, .slice C k f, .int .i64 n] 25)) 33 [.int .i64 0, .slice none 0 0, .slice none 0 0] _ rfl
    have B0 := ab (ab (Below.refl _ w) (.cells #[.slice A h c, .slice B d e, .slice C k f, .int .i64 n] 25)) (.cells #[.int .i64 0, .slice none 0 0, .slice none 0 0] 33)
    simp only [World.size_alloc] at S1
    go_enter Tryz.func25, Tryz.ntmps25
    go_wp2_with fail
    refine (cs _).mono ?_
    rintro e w1 ⟨rfl, b1⟩
    replace S1 := S1.below b1 S1.lt
    have B1 := ac B0 b1
    have y0 := S1.cell (i := 0) rfl
    have y1 := S1.cell (i := 1) rfl
    have y2 := S1.cell (i := 2) rfl
    have y3 := S1.frozen
    go_wp2
    refine bodyPost_ret (v := .agg #[.int .i64 Z, .slice none 0 0, .slice none 0 0]) (by simp [results, Tryz.results25, go_sem, y0, y1, y2]) rfl ?_
    exact ⟨⟨none, 0, none, 0, rfl, Rs.nil2 _ _⟩, ((B1.setCell (by simp) _).setCell (by simp) _).setCell (by simp) _⟩

set_option maxHeartbeats 1000000 in
theorem split_any (b o : Nat) (B : Option Addr) (e : Nat) (l : List Int) (w : World) (hT : Tabs w) (hc : w.cell? ⟨b, o + 1, none⟩ = some (.slice B 32 e)) (hb : Bs w B 32 l) :
    Calls Tryz.prog 77 #[.pointer (some ⟨b, o, none⟩)] w (PairRs 0 32 32 (firstW l []) (otherW l []) w) := by
  have hk := fun W (hW : Below w.heap.size w W) => implKeysOf_any B none 32 e 0 0 l [] W (hT.keep hW) (hb.below hW) (Bs.none_ W) (fun _ => rfl) (by omega) (by omega)
  have e0 : kcode 32 0 = 0 := rfl
  have e1 : klen 32 0 = 32 := rfl
  have e2 : kbytes 32 0 (firstW l []) = firstW l [] := rfl
  have e3 : kbytes 32 0 (otherW l []) = otherW l [] := rfl
  simp only [e0, e1, e2, e3] at hk
  clear e0 e1 e2 e3
  generalize firstW l [] = F at *
  generalize otherW l [] = O at *
  have S1 := Stc.new w 33 [.int .i64 0, .slice none 0 0, .slice none 0 0] _ rfl
  have B0 := ab (Below.refl _ w) (.cells #[.int .i64 0, .slice none 0 0, .slice none 0 0] 33)
  have x0 := cell_past (.cells #[.int .i64 0, .slice none 0 0, .slice none 0 0] 33) hc
  go_enter Tryz.func77, Tryz.ntmps77
  go_wp2_with fail
  refine (hk _ B0).mono ?_
  rintro e w1 ⟨⟨A1, c1, A2, c2, rfl, o1, o2, ha⟩, b1⟩
  have B1 := ac B0 b1
  replace S1 := S1.below b1 S1.lt
  simp only [World.size_alloc] at o1 o2
  have zz : w.heap.size < w.heap.size + 1 := Nat.lt_succ_self _
  have y0 := S1.cell (i := 0) rfl
  have y1 := S1.cell (i := 1) rfl
  have y2 := S1.cell (i := 2) rfl
  have y3 := S1.frozen
  go_wp2
  refine bodyPost_ret (v := .agg #[.int .i64 0, .slice A1 32 c1, .slice A2 32 c2]) (by simp [results, Tryz.results77, go_sem, y0, y1, y2]) rfl ?_
  refine ⟨⟨A1, c1, A2, c2, rfl, Rs.cons ?_ ?_ (Rs.cons ?_ ?_ (Rs.nil _ _))⟩, ?_⟩
  · exact (((o1.far (p := ⟨w.heap.size, 0, none⟩) zz _).far (p := ⟨w.heap.size, 1, none⟩) zz _).far (p := ⟨w.heap.size, 2, none⟩) zz _).mono (by omega)
  · intro y hy
    simp only [List.mem_cons, List.not_mem_nil, or_false] at hy
    subst hy
    exact ha
  · exact (((o2.far (p := ⟨w.heap.size, 0, none⟩) zz _).far (p := ⟨w.heap.size, 1, none⟩) zz _).far (p := ⟨w.heap.size, 2, none⟩) zz _).mono (by omega)
  · intro y hy; cases hy
  · exact ((B1.setCell (by simp) _).setCell (by simp) _).setCell (by simp) _

set_option maxHeartbeats 1000000 in
theorem implSplitSym_any (A B C : Option Addr) (h c d e f k : Nat) (n : Int) (l : List Int) (w : World) (hT : Tabs w) (hb : Bs w B d l) :
    Calls Tryz.prog 18 #[.agg #[.slice A h c, .slice B d e, .slice C k f, .int .i64 n]] w (PairRs (symC h d k n) (codN (symC h d k n) 32) (codN (symC h d k n) 32) (codL (symC h d k n) (firstW l [])) (codL (symC h d k n) (otherW l [])) w) := by
  have cs := fun W => impl_SymFault_any A B C h c d e f k n W
  by_cases hz : symC h d k n = 0
  · obtain ⟨-, hd, -⟩ := symC_zero hz
    rw [hz] at cs ⊢
    have hk := fun W b (hW : Below w.heap.size w W) (hc : W.cell? ⟨b, 1, none⟩ = some (.slice B d e)) => split_any b 0 B e l W (hT.keep hW) (by rw [← hd]; exact hc) (by rw [← hd]; exact hb.below hW)
    have e1 : codN 0 32 = 32 := rfl
    have e2 : codL 0 (firstW l []) = firstW l [] := rfl
    have e3 : codL 0 (otherW l []) = otherW l [] := rfl
    rw [e1, e2, e3]
    clear e1 e2 e3 hz hd
    generalize firstW l [] = F at *
    generalize otherW l [] = O at *
    have S0 := (Stc.new w 25 [.slice A h c, .slice B d e, .slice C k f, .int .i64 n] _ rfl).alloc (.cells #[.int .i64 0, .slice none 0 0, .slice none 0 0] 33)
    have S1 := Stc.new (w.alloc (.cells #[.slice A h c, .slice B d e, .slice C k f, .int .i64 n] 25)) 33 [.int .i64 0, .slice none 0 0, .slice none 0 0] _ rfl
    have B0 := ab (ab (Below.refl _ w) (.cells #[.slice A h c, .slice B d e, .slice C k f, .int .i64 n] 25)) (.cells #[.int .i64 0, .slice none 0 0, .slice none 0 0] 33)
    simp only [World.size_alloc] at S1
    go_enter Tryz.func18, Tryz.ntmps18
    go_wp2_with fail
    refine (cs _).mono ?_
    rintro e w1 ⟨rfl, b1⟩
    replace S0 := S0.below b1 S0.lt
    replace S1 := S1.below b1 S1.lt
    have B1 := ac B0 b1
    have zz : w.heap.size + 1 < w1.heap.size := by have := b1.size; simp only [World.size_alloc] at this; omega
    go_wp2_with fail
    have y1 := S0.cell (i := 1) rfl
    have hk1 := hk w1 w.heap.size B1 y1
    clear hk y1
    refine hk1.mono ?_
    clear hk1
    rintro e w2 ⟨⟨A1, c1, A2, c2, rfl, R⟩, b2⟩
    replace S1 := S1.below b2 S1.lt
    have B2 := ac B1 b2
    have z1 := B1.size
    have y0 := S1.cell (i := 0) rfl
    have y1 := S1.cell (i := 1) rfl
    have y2 := S1.cell (i := 2) rfl
    have y3 := S1.frozen
    go_wp2
    refine bodyPost_ret (v := .agg #[.int .i64 0, .slice A1 32 c1, .slice A2 32 c2]) (by simp [results, Tryz.results18, go_sem, y0, y1, y2]) rfl ?_
    exact ⟨⟨A1, c1, A2, c2, rfl, (((R.far (p := ⟨w.heap.size + 1, 0, none⟩) zz _).far (p := ⟨w.heap.size + 1, 1, none⟩) zz _).far (p := ⟨w.heap.size + 1, 2, none⟩) zz _).mono (by omega)⟩, ((B2.setCell (by simp) _).setCell (by simp) _).setCell (by simp) _⟩
  · have hp : (symC h d k n != 0) = true := by rw [bne_iff_ne]; exact hz
    have e1 : codN (symC h d k n) 32 = 0 := by simp [codN, hz]
    have e2 : codL (symC h d k n) (firstW l []) = [] := by simp [codL, hz]
    have e3 : codL (symC h d k n) (otherW l []) = [] := by simp [codL, hz]
    rw [e1, e2, e3]
    clear e1 e2 e3
    generalize symC h d k n = Z at *
    have S1 := Stc.new (w.alloc (.cells #[.slice A h c, .slice B d e, .slice C k f, .int .i64 n] 25)) 33 [.int .i64 0, .slice none 0 0, .slice none 0 0] _ rfl
    have B0 := ab (ab (Below.refl _ w) (.cells #[.slice A h c, .slice B d e, .slice C k f, .int .i64 n] 25)) (.cells #[.int .i64 0, .slice none 0 0, .slice none 0 0] 33)
    simp only [World.size_alloc] at S1
    go_enter Tryz.func18, Tryz.ntmps18
    go_wp2_with fail
    refine (cs _).mono ?_
    rintro e w1 ⟨rfl, b1⟩
    replace S1 := S1.below b1 S1.lt
    have B1 := ac B0 b1
    have y0 := S1.cell (i := 0) rfl
    have y1 := S1.cell (i := 1) rfl
    have y2 := S1.cell (i := 2) rfl
    have y3 := S1.frozen
    go_wp2
    refine bodyPost_ret (v := .agg #[.int .i64 Z, .slice none 0 0, .slice none 0 0]) (by simp [results, Tryz.results18, go_sem, y0, y1, y2]) rfl ?_
    exact ⟨⟨none, 0, none, 0, rfl, Rs.nil2 _ _⟩, ((B1.setCell (by simp) _).setCell (by simp) _).setCell (by simp) _⟩
end Go.Proofs.YtabhcolfkkfonaaGreatDoor

/-! MixC -/
/- What is mixed into a state, by the model and by the program. -/
namespace Go.Proofs.YtabhcolfkkfonaaGreatDoor
open Go.RowKit

theorem Stc.drew {w : World} {b : Nat} {l : List Value} {t : TypeId} (h : Stc w b l t) : Stc w.drew b l t := h
theorem Rs.drew {w : World} {B : Nat} {L : List (Option Addr × Nat × List Int)} (h : Rs w B L) : Rs w.drew B L := h.map fun _ _ k => k.drew
theorem Save.drew {x : Nat} {w w' : World} (h : Save x w w') : Save x w w'.drew := ⟨h.os, h.tape, h.output, h.size, h.block⟩
/-- a run whose room is known -/
theorem Roomy.nil {A : Option Addr} {n c : Nat} (h : Roomy A n c) : A = none → c = 0 := h.2

set_option maxHeartbeats 1000000 in
theorem l5MixHash_any (b o : Nat) (L : List Value) (t : TypeId) (A : Option Addr) (c : Nat) (l : List Int) (D : Option Addr) (m d : Nat) (r : List Int) (w : World) (hs : Stc w b L t) (hL : L[o]? = some (.slice A 32 c)) (h1 : Bs w A 32 l) (hc : A = none → c = 0) (h2 : Bs w D m r) (hd : D = none → d = 0) (hm : m ≤ 100000000) :
    Calls Tryz.prog 84 #[.pointer (some ⟨b, o, none⟩), .slice D m d] w fun e w' => e = .returned (.tuple #[]) ∧ ∃ A' c', Stc w' b (L.set o (.slice A' 32 c')) t ∧ Ow w' w.heap.size A' 32 (hashW (l ++ r)) ∧ Roomy A' 32 c' ∧ Save b w w' := by
  have x0 := hs.cell hL
  have x1 := hs.frozen o
  have hb := hs.lt
  have hl := h1.len
  have hr := h2.len
  go_enter Tryz.func84, Tryz.ntmps84
  go_wp2_with fail
  refine (copyb_any _ _ _ _ _ h1 hc (by omega)).mono ?_
  rintro e w1 ⟨⟨A1, c1, rfl, r1⟩, b1⟩
  clear x0 x1
  go_wp2_with (at_builtin; refine wpList_row_join rfl _ _ rfl _ w.heap.size (.slice A1 32 c1) _ _ rfl r1 b1.size D m d rfl (h2.below b1) hd (by rw [hl]; omega) ?_; intro v2 w2 r2 b2 s2)
  obtain ⟨A2, c2, rfl, o2⟩ := r2.ow (n := 32 + m) (by rw [List.length_append, hl, hr])
  refine (l2Hash_any A2 (32 + m) c2 (l ++ r) w2 o2.bs (o2.bs.cap_ (by omega)) (by omega)).mono ?_
  rintro e w3 ⟨⟨A3, c3, rfl, r3⟩, b3⟩
  have s1 := b1.size
  have BB : Below w.heap.size w w3 := (b1.trans b2).trans (b3.mono (by omega))
  have S3 := hs.below BB hb
  have x0 := S3.cell hL
  have x1 := S3.frozen o
  have o3 := r3.ow' (hashW_len (l ++ r))
  have hro : Roomy A3 32 c3 := ⟨r3.cap_, r3.cap0⟩
  go_wp2
  go_end0
  refine ⟨rfl, A3, c3, S3.set_ _, (o3.far (by simp; omega) _).mono (by omega), hro, (Save.ofBelow BB).set_ _ _⟩

set_option maxHeartbeats 1000000 in
theorem l5MixKey_any (b o : Nat) (L : List Value) (t : TypeId) (A : Option Addr) (n c : Nat) (l : List Int) (D : Option Addr) (m d : Nat) (r : List Int) (u2 u3 : Value) (w : World) (hs : Stc w b L t) (hL : L[o + 1]? = some (.slice A n c)) (hL2 : L[o + 2]? = some u2) (hL3 : L[o + 3]? = some u3) (h1 : Bs w A n l) (h2 : Bs w D m r) (hd : D = none → d = 0) (hm : m ≤ 100000000) :
    Calls Tryz.prog 85 #[.pointer (some ⟨b, o, none⟩), .slice D m d] w fun e w' => e = .returned (.tuple #[]) ∧ ∃ A' c' B' d', Stc w' b (((L.set (o + 1) (.slice A' 32 c')).set (o + 2) (.slice B' 32 d')).set (o + 3) (.int .i64 0)) t ∧ Rs w' w.heap.size [(A', 32, firstW l r), (B', 32, otherW l r)] ∧ Save b w w' := by
  have x0 := hs.cell hL
  have x1 := hs.frozen
  have hb := hs.lt
  go_enter Tryz.func85, Tryz.ntmps85
  go_wp2_with fail
  refine (l2Keys_any _ _ _ _ _ _ _ _ _ h1 h2 hd hm).mono ?_
  rintro e w1 ⟨⟨A1, c1, A2, c2, rfl, o1, o2, ha⟩, b1⟩
  clear x0 x1
  have S1 := hs.below b1 hb
  have x0 := S1.cell hL
  have x2 := S1.cell hL2
  have x3 := S1.cell hL3
  have x1 := S1.frozen
  go_wp2
  go_end0
  have R : Rs w1 w.heap.size [(A1, 32, firstW l r), (A2, 32, otherW l r)] := by
    refine Rs.cons o1 ?_ (Rs.cons o2 ?_ (Rs.nil _ _))
    · intro y hy
      simp only [List.mem_cons, List.not_mem_nil, or_false] at hy
      subst hy
      exact ha
    · intro y hy; cases hy
  exact ⟨rfl, A1, c1, A2, c2, ((S1.set_ _).set_ _).set_ _, ((R.far hb _).far hb _).far hb _, (((Save.ofBelow b1).set_ _ _).set_ _ _).set_ _ _⟩

set_option maxHeartbeats 1000000 in
theorem mixHash_any (b o : Nat) (L : List Value) (t : TypeId) (A : Option Addr) (c : Nat) (l : List Int) (D : Option Addr) (m d : Nat) (r : List Int) (w : World) (hT : Tabs w) (hs : Stc w b L t) (hL : L[o]? = some (.slice A 32 c)) (h1 : Bs w A 32 l) (hc : A = none → c = 0) (h2 : Bs w D m r) (hd : D = none → d = 0) (hm : m ≤ 100000) :
    Calls Tryz.prog 74 #[.pointer (some ⟨b, o, none⟩), .slice D m d] w fun e w' => e = .returned (.tuple #[]) ∧ ∃ A' c', Stc w' b (L.set o (.slice A' 32 c')) t ∧ Ow w' w.heap.size A' 32 (hashW (l ++ r)) ∧ Roomy A' 32 c' ∧ Save b w w' := by
  have x0 := hs.cell hL
  have x1 := hs.frozen o
  have hb := hs.lt
  have P0 : Pts (w.alloc (.cells #[.slice A 32 c, .slice D m d] 22)) w.heap.size [⟨A, 32, c, l⟩, ⟨D, m, d, r⟩] := by
    refine ⟨by simp, ?_, ?_, ?_⟩
    · intro i p hp
      rcases i with _ | _ | i
      · simp at hp; subst hp; simp [go_sem]
      · simp at hp; subst hp; simp [go_sem]
      · simp at hp
    · intro i p hp
      rcases i with _ | _ | i
      · simp at hp; subst hp; exact h1.alloc _
      · simp at hp; subst hp; exact h2.alloc _
      · simp at hp
    · intro i p hp
      rcases i with _ | _ | i
      · simp at hp; subst hp; exact hc
      · simp at hp; subst hp; exact hd
      · simp at hp
  have hcat : catL [⟨A, 32, c, l⟩, ⟨D, m, d, r⟩] = l ++ r := by simp [catL]
  have B0 := ab (Below.refl _ w) (.cells #[.slice A 32 c, .slice D m d] 22)
  have hp := hashParts_any w.heap.size 2 2 _ _ (hT.keep B0) P0 rfl (by omega) (by simp [sumN]; omega)
  rw [hcat] at hp
  clear P0 hcat
  go_enter Tryz.func74, Tryz.ntmps74
  go_wp2_with fail
  refine hp.mono ?_
  rintro e w1 ⟨⟨A3, c3, rfl, r3⟩, b1⟩
  have BB := ac B0 b1
  have S3 := hs.below BB hb
  clear x0 x1 hp
  have x0 := S3.cell hL
  have x1 := S3.frozen o
  have o3 := r3.ow' (hashW_len (l ++ r))
  have hro : Roomy A3 32 c3 := ⟨r3.cap_, r3.cap0⟩
  go_wp2
  go_end0
  refine ⟨rfl, A3, c3, S3.set_ _, (o3.far (by simp; omega) _).mono (by simp), hro, (Save.ofBelow BB).set_ _ _⟩

set_option maxRecDepth 100000 in
set_option maxHeartbeats 1000000 in
theorem mixKey_any (b o : Nat) (L : List Value) (t : TypeId) (A : Option Addr) (c : Nat) (l : List Int) (D : Option Addr) (m d : Nat) (r : List Int) (u2 u3 : Value) (w : World) (hT : Tabs w) (hs : Stc w b L t) (hL : L[o + 1]? = some (.slice A 32 c)) (hL2 : L[o + 2]? = some u2) (hL3 : L[o + 3]? = some u3) (h1 : Bs w A 32 l) (h2 : Bs w D m r) (hd : D = none → d = 0) (hm : m ≤ 1000) :
    Calls Tryz.prog 76 #[.pointer (some ⟨b, o, none⟩), .slice D m d] w fun e w' => e = .returned (.tuple #[]) ∧ ∃ A' c' B' d', Stc w' b (((L.set (o + 1) (.slice A' 32 c')).set (o + 2) (.slice B' 32 d')).set (o + 3) (.int .i64 0)) t ∧ Rs w' w.heap.size [(A', 32, firstW l r), (B', 32, otherW l r)] ∧ Save b w w' := by
  have x0 := hs.cell hL
  have hb := hs.lt
  have hk := fun W (hW : Below w.heap.size w W) => implKeysOf_any A D 32 c m d l r W (hT.keep hW) (h1.below hW) (h2.below hW) hd (by omega) (by omega)
  have e0 : kcode 32 m = 0 := by simp [kcode, hm]
  have e1 : klen 32 m = 32 := by simp [klen, hm]
  have e2 : kbytes 32 m (firstW l r) = firstW l r := by simp [kbytes, hm]
  have e3 : kbytes 32 m (otherW l r) = otherW l r := by simp [kbytes, hm]
  simp only [e0, e1, e2, e3] at hk
  clear e0 e1 e2 e3
  generalize firstW l r = F at *
  generalize otherW l r = O at *
  go_enter Tryz.func76, Tryz.ntmps76
  go_wp2_with fail
  refine (hk _ (Below.refl _ _)).mono ?_
  rintro e w1 ⟨⟨A1, c1, A2, c2, rfl, o1, o2, ha⟩, b1⟩
  clear hk x0
  have S1 := hs.below b1 hb
  have s1 := b1.size
  have hb1 := S1.lt
  have x0 := (S1.alloc (.cells #[.int .i64 0, .slice A1 32 c1, .slice A2 32 c2] 33)).cell hL
  have x2 := (S1.alloc (.cells #[.int .i64 0, .slice A1 32 c1, .slice A2 32 c2] 33)).cell hL2
  have x3 := (S1.alloc (.cells #[.int .i64 0, .slice A1 32 c1, .slice A2 32 c2] 33)).cell hL3
  have x1 := (S1.alloc (.cells #[.int .i64 0, .slice A1 32 c1, .slice A2 32 c2] 33)).frozen
  have T1 := Stc.new w1 33 [.int .i64 0, .slice A1 32 c1, .slice A2 32 c2] _ rfl
  have y1 := T1.cell (i := 1) rfl
  have y2 := T1.cell (i := 2) rfl
  have y3 := T1.frozen
  have v0 := S1.cell hL
  have v2 := S1.cell hL2
  have v3 := S1.cell hL3
  have v1 := S1.frozen
  have hne : ¬ b = w1.heap.size := by omega
  have hne2 : ¬ w1.heap.size = b := by omega
  go_wp2_with fail
  go_region
  go_end0
  have R : Rs w1 w.heap.size [(A1, 32, F), (A2, 32, O)] := by
    refine Rs.cons o1 ?_ (Rs.cons o2 ?_ (Rs.nil _ _))
    · intro y hy
      simp only [List.mem_cons, List.not_mem_nil, or_false] at hy
      subst hy
      exact ha
    · intro y hy; cases hy
  exact ⟨rfl, A1, c1, A2, c2, Stc.drew ((((S1.set_ _).set_ _).set_ _).alloc _), Rs.drew ((((R.far hb _).far hb _).far hb _).alloc _), Save.drew (((((Save.ofBelow b1).set_ _ _).set_ _ _).set_ _ _).trans (Save.ofBelow (ab (Below.refl _ _) _)))⟩
end Go.Proofs.YtabhcolfkkfonaaGreatDoor

/-! AskP -/
/- What is asked ahead of a mixing, and the two closures that mix. -/
namespace Go.Proofs.YtabhcolfkkfonaaGreatDoor
open Go.RowKit

def askedC (h d k : Nat) (n : Int) (m : Nat) : Int := if symC h d k n = 0 then (if m ≤ 900 then 0 else 2) else symC h d k n

theorem l5Asked_any (b : Nat) (A B C : Option Addr) (h c d e k f : Nat) (n : Int) (t : TypeId) (D : Option Addr) (m g : Nat) (w : World) (hs : Stc w b [.slice A h c, .slice B d e, .slice C k f, .int .i64 n] t) :
    Calls Tryz.prog 79 #[.pointer (some ⟨b, 0, none⟩), .slice D m g] w fun e w' => e = .returned (.int .i64 (askedC h d k n m)) ∧ Below w.heap.size w w' := by
  have x0 := hs.cell (i := 0) rfl
  have x1 := hs.cell (i := 1) rfl
  have x2 := hs.cell (i := 2) rfl
  have x3 := hs.cell (i := 3) rfl
  have cs := spec_SymFault_any A B C h c d e f k n w
  by_cases hz : symC h d k n = 0
  · rw [hz] at cs
    by_cases hm : m ≤ 900
    · have ha : askedC h d k n m = 0 := by simp [askedC, hz, hm]
      rw [ha]
      clear ha hz
      go_enter Tryz.func79, Tryz.ntmps79
      go_wp2_with fail
      refine cs.mono ?_
      rintro e w1 ⟨rfl, b1⟩
      go_wp2
      go_ret
      exact ⟨rfl, b1⟩
    · have ha : askedC h d k n m = 2 := by simp [askedC, hz, hm]
      have hm2 : 900 < m := by omega
      rw [ha]
      clear ha hz hm
      go_enter Tryz.func79, Tryz.ntmps79
      go_wp2_with fail
      refine cs.mono ?_
      rintro e w1 ⟨rfl, b1⟩
      go_wp2
      go_ret
      exact ⟨rfl, b1⟩
  · have ha : askedC h d k n m = symC h d k n := by simp [askedC, hz]
    have hp : (symC h d k n != 0) = true := by rw [bne_iff_ne]; exact hz
    rw [ha]
    clear ha hz
    generalize symC h d k n = Z at *
    go_enter Tryz.func79, Tryz.ntmps79
    go_wp2_with fail
    refine cs.mono ?_
    rintro e w1 ⟨rfl, b1⟩
    go_wp2
    go_ret
    exact ⟨rfl, b1⟩

theorem mixHash1_any (b : Nat) (A B C : Option Addr) (c d e q f : Nat) (l r s : List Int) (k : Int) (t : TypeId) (D : Option Addr) (m g X : Nat) (u : List Int) (w : World) (hT : Tabs w) (hs : Stc w b [.slice A 32 c, .slice B d e, .slice C q f, .int .i64 k] t) (hR : Rs w X [(A, 32, l), (B, d, r), (C, q, s)]) (hX : X ≤ b) (h2 : Bs w D m u) (hd : D = none → g = 0) (hm : m ≤ 900) :
    Calls Tryz.prog 73 #[.pointer (some ⟨b, 0, none⟩), .slice D m g] w fun e' w' => ∃ A' c', e' = .returned (.slice none 0 0) ∧ Stc w' b [.slice A' 32 c', .slice B d e, .slice C q f, .int .i64 k] t ∧ Rs w' X [(A', 32, hashW (l ++ u)), (B, d, r), (C, q, s), (none, 0, [])] ∧ Save b w w' := by
  have hc := mixHash_any b 0 _ t A c l D m g u w hT hs rfl hR.head.bs (hR.head.bs.cap_ (by omega)) h2 hd (by omega)
  have hb := hs.lt
  have hN : NoByte [.slice A 32 c, .slice B d e, .slice C q f, .int .i64 k] := by intro v hv x; simp only [List.mem_cons, List.not_mem_nil, or_false] at hv; rcases hv with rfl | rfl | rfl | rfl <;> simp
  go_enter Tryz.func73, Tryz.ntmps73
  go_wp2_with fail
  refine hc.mono ?_
  rintro e' w1 ⟨rfl, A', c', S1, o1, _, sv⟩
  go_wp2
  go_returns
  obtain ⟨o0, s0, o2, s2, o3, _⟩ := hR
  have q2 := o2.save' hs hN sv
  have q3 := o3.save' hs hN sv
  refine ⟨A', c', rfl, S1, Rs.cons (o1.mono (by omega)) ?_ (Rs.cons q2 ?_ (Rs.cons q3 ?_ (Rs.cons (Ow.nil_ _ _) ?_ (Rs.nil _ _)))), sv⟩
  · intro y hy
    simp only [List.mem_cons, List.not_mem_nil, or_false] at hy
    rcases hy with rfl | rfl | rfl
    · intro hn hm' a b' ea eb; have h1 := o1.base hn a ea; have h2 := o2.top hm' b' eb; omega
    · intro hn hm' a b' ea eb; have h1 := o1.base hn a ea; have h2 := o3.top hm' b' eb; omega
    · intro _ h0; exact absurd h0 (by simp)
  · intro y hy
    simp only [List.mem_cons, List.not_mem_nil, or_false] at hy
    rcases hy with rfl | rfl
    · exact s2 _ (by simp)
    · intro _ h0; exact absurd h0 (by simp)
  · intro y hy
    simp only [List.mem_cons, List.not_mem_nil, or_false] at hy
    subst hy
    intro _ h0; exact absurd h0 (by simp)
  · intro y hy; cases hy

theorem mixKey1_any (b : Nat) (A B C : Option Addr) (c e q f : Nat) (l r s : List Int) (k : Int) (t : TypeId) (D : Option Addr) (m g X : Nat) (u : List Int) (w : World) (hT : Tabs w) (hs : Stc w b [.slice A 32 c, .slice B 32 e, .slice C q f, .int .i64 k] t) (hR : Rs w X [(A, 32, l), (B, 32, r), (C, q, s)]) (hX : X ≤ b) (h2 : Bs w D m u) (hd : D = none → g = 0) (hm : m ≤ 900) :
    Calls Tryz.prog 75 #[.pointer (some ⟨b, 0, none⟩), .slice D m g] w fun e' w' => ∃ B' d' C' f', e' = .returned (.slice none 0 0) ∧ Stc w' b [.slice A 32 c, .slice B' 32 d', .slice C' 32 f', .int .i64 0] t ∧ Rs w' X [(A, 32, l), (B', 32, firstW r u), (C', 32, otherW r u), (none, 0, [])] ∧ Save b w w' := by
  have hc := mixKey_any b 0 _ t B e r D m g u _ _ w hT hs rfl rfl rfl hR.rest.head.bs h2 hd (by omega)
  have hb := hs.lt
  have hN : NoByte [.slice A 32 c, .slice B 32 e, .slice C q f, .int .i64 k] := by intro v hv x; simp only [List.mem_cons, List.not_mem_nil, or_false] at hv; rcases hv with rfl | rfl | rfl | rfl <;> simp
  go_enter Tryz.func75, Tryz.ntmps75
  go_wp2_with fail
  refine hc.mono ?_
  rintro e' w1 ⟨rfl, B', d', C', f', S1, R1, sv⟩
  go_wp2
  go_returns
  obtain ⟨o0, _⟩ := hR
  have q0 := o0.save' hs hN sv
  obtain ⟨o2, s2, o3, _⟩ := R1
  refine ⟨B', d', C', f', rfl, S1, Rs.cons q0 ?_ (Rs.cons (o2.mono (by omega)) ?_ (Rs.cons (o3.mono (by omega)) ?_ (Rs.cons (Ow.nil_ _ _) ?_ (Rs.nil _ _)))), sv⟩
  · intro y hy
    simp only [List.mem_cons, List.not_mem_nil, or_false] at hy
    rcases hy with rfl | rfl | rfl
    · intro hn hm' a b' ea eb; have h1 := o0.top hn a ea; have h2 := o2.base hm' b' eb; omega
    · intro hn hm' a b' ea eb; have h1 := o0.top hn a ea; have h2 := o3.base hm' b' eb; omega
    · intro _ h0; exact absurd h0 (by simp)
  · intro y hy
    simp only [List.mem_cons, List.not_mem_nil, or_false] at hy
    rcases hy with rfl | rfl
    · exact s2 _ (by simp)
    · intro _ h0; exact absurd h0 (by simp)
  · intro y hy
    simp only [List.mem_cons, List.not_mem_nil, or_false] at hy
    subst hy
    intro _ h0; exact absurd h0 (by simp)
  · intro y hy; cases hy
end Go.Proofs.YtabhcolfkkfonaaGreatDoor
