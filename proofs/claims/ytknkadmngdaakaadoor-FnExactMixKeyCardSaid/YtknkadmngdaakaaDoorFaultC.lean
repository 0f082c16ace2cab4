/- SymFault, of the model and of the program. -/
import Derived.Test.YtknkadmngdaakaaDoorSymA
namespace Go.Proofs.YtknkadmngdaakaaDoor
open Go.RowKit

/-- what chapter 5 says of a state: its three sizes and its count -/
def symC (h c k : Nat) (n : Int) : Int := if h = 32 ∧ c = 32 ∧ (k = 0 ∨ k = 32) ∧ 0 ≤ n ∧ n ≤ 1000 then (if k = 0 ∧ n ≠ 0 then 8 else 0) else 3

theorem l5Size_any (A : Option Addr) (n c : Nat) (v : Bool) (w : World) (hv : ((n : Int) == 32) = v) :
    Calls Tryd.prog 55 #[.slice A n c] w fun e w' => e = .returned (.bool v) ∧ w' = w := by
  go_enter Tryd.func55, Tryd.ntmps55
  go_wp2
  go_ret
  exact ⟨rfl, rfl⟩

theorem hasKey_any (b o : Nat) (C : Option Addr) (n f : Nat) (v : Bool) (w : World) (hv : ((n : Int) != 0) = v) (h : w.cell? ⟨b, o + 2, none⟩ = some (.slice C n f)) :
    Calls Tryd.prog 57 #[.pointer (some ⟨b, o, none⟩)] w fun e w' => e = .returned (.bool v) ∧ w' = w := by
  go_enter Tryd.func57, Tryd.ntmps57
  go_wp2
  go_ret
  exact ⟨rfl, rfl⟩

set_option maxHeartbeats 1000000 in
theorem sym_spec_h0 (A B C : Option Addr) (h c d e f k : Nat) (n : Int) (w : World) (x0 : ¬ h = 32) :
    Calls Tryd.prog 41 #[.agg #[.slice A h c, .slice B d e, .slice C k f, .int .i64 n]] w fun e w' => e = .returned (.int .i64 3) ∧ Below w.heap.size w w' := by
  have y0 : ((h : Int) == 32) = false := by rw [beq_eq_false_iff_ne]; omega
  have y0' : ((h : Int) != 32) = true := by rw [bne_iff_ne]; omega
  go_enter Tryd.func41, Tryd.ntmps41
  go_wp2_with fail
  refine (l5Size_any A _ _ false _ (by assumption)).mono ?_
  rintro e w' ⟨rfl, rfl⟩
  go_wp2
  go_returns
  exact ⟨rfl, by go_grown⟩

set_option maxHeartbeats 1000000 in
theorem sym_spec_h1 (A B C : Option Addr) (h c d e f k : Nat) (n : Int) (w : World) (x0 : h = 32) (x1 : ¬ d = 32) :
    Calls Tryd.prog 41 #[.agg #[.slice A h c, .slice B d e, .slice C k f, .int .i64 n]] w fun e w' => e = .returned (.int .i64 3) ∧ Below w.heap.size w w' := by
  subst x0
  have y1 : ((d : Int) == 32) = false := by rw [beq_eq_false_iff_ne]; omega
  have y1' : ((d : Int) != 32) = true := by rw [bne_iff_ne]; omega
  go_enter Tryd.func41, Tryd.ntmps41
  go_wp2_with fail
  refine (l5Size_any A _ _ true _ (by rfl)).mono ?_
  rintro e w' ⟨rfl, rfl⟩
  go_wp2_with fail
  refine (l5Size_any B _ _ false _ (by assumption)).mono ?_
  rintro e w' ⟨rfl, rfl⟩
  go_wp2
  go_returns
  exact ⟨rfl, by go_grown⟩

set_option maxHeartbeats 1000000 in
theorem sym_spec_h2 (A B C : Option Addr) (h c d e f k : Nat) (n : Int) (w : World) (x0 : h = 32) (x1 : d = 32) (x2 : ¬ k = 0) (x3 : ¬ k = 32) :
    Calls Tryd.prog 41 #[.agg #[.slice A h c, .slice B d e, .slice C k f, .int .i64 n]] w fun e w' => e = .returned (.int .i64 3) ∧ Below w.heap.size w w' := by
  subst x0
  subst x1
  have y3 : ((k : Int) == 32) = false := by rw [beq_eq_false_iff_ne]; omega
  have y3' : ((k : Int) != 32) = true := by rw [bne_iff_ne]; omega
  have y2 : ((k : Int) != 0) = true := by rw [bne_iff_ne]; omega
  go_enter Tryd.func41, Tryd.ntmps41
  go_wp2_with fail
  refine (l5Size_any A _ _ true _ (by rfl)).mono ?_
  rintro e w' ⟨rfl, rfl⟩
  go_wp2_with fail
  refine (l5Size_any B _ _ true _ (by rfl)).mono ?_
  rintro e w' ⟨rfl, rfl⟩
  go_wp2_with fail
  refine (l5Size_any C _ _ false _ (by assumption)).mono ?_
  rintro e w' ⟨rfl, rfl⟩
  go_wp2
  go_returns
  exact ⟨rfl, by go_grown⟩

set_option maxHeartbeats 1000000 in
theorem sym_spec_h3 (A B C : Option Addr) (h c d e f k : Nat) (n : Int) (w : World) (x0 : h = 32) (x1 : d = 32) (x2 : k = 0) (x4 : ¬ (0 ≤ n ∧ n ≤ 1000)) :
    Calls Tryd.prog 41 #[.agg #[.slice A h c, .slice B d e, .slice C k f, .int .i64 n]] w fun e w' => e = .returned (.int .i64 3) ∧ Below w.heap.size w w' := by
  subst x0
  subst x1
  subst x2
  have hin : inB n 0 1000 = false := by simp only [inB, decide_eq_false_iff_not]; exact x4
  have cin := In_any n 0 1000
  simp only [hin] at cin
  go_enter Tryd.func41, Tryd.ntmps41
  go_wp2_with fail
  refine (l5Size_any A _ _ true _ (by rfl)).mono ?_
  rintro e w' ⟨rfl, rfl⟩
  go_wp2_with fail
  refine (l5Size_any B _ _ true _ (by rfl)).mono ?_
  rintro e w' ⟨rfl, rfl⟩
  go_wp2_with fail
  refine (cin _).mono ?_
  rintro e w' ⟨rfl, rfl⟩
  go_wp2
  go_returns
  exact ⟨rfl, by go_grown⟩

set_option maxHeartbeats 1000000 in
theorem sym_spec_h4 (A B C : Option Addr) (h c d e f k : Nat) (n : Int) (w : World) (x0 : h = 32) (x1 : d = 32) (x3 : k = 32) (x4 : ¬ (0 ≤ n ∧ n ≤ 1000)) :
    Calls Tryd.prog 41 #[.agg #[.slice A h c, .slice B d e, .slice C k f, .int .i64 n]] w fun e w' => e = .returned (.int .i64 3) ∧ Below w.heap.size w w' := by
  subst x0
  subst x1
  subst x3
  have hin : inB n 0 1000 = false := by simp only [inB, decide_eq_false_iff_not]; exact x4
  have cin := In_any n 0 1000
  simp only [hin] at cin
  go_enter Tryd.func41, Tryd.ntmps41
  go_wp2_with fail
  refine (l5Size_any A _ _ true _ (by rfl)).mono ?_
  rintro e w' ⟨rfl, rfl⟩
  go_wp2_with fail
  refine (l5Size_any B _ _ true _ (by rfl)).mono ?_
  rintro e w' ⟨rfl, rfl⟩
  go_wp2_with fail
  refine (l5Size_any C _ _ true _ (by rfl)).mono ?_
  rintro e w' ⟨rfl, rfl⟩
  go_wp2_with fail
  refine (cin _).mono ?_
  rintro e w' ⟨rfl, rfl⟩
  go_wp2
  go_returns
  exact ⟨rfl, by go_grown⟩

set_option maxHeartbeats 1000000 in
theorem sym_spec_h5 (A B C : Option Addr) (h c d e f k : Nat) (n : Int) (w : World) (x0 : h = 32) (x1 : d = 32) (x2 : k = 0) (x4 : 0 ≤ n ∧ n ≤ 1000) (x5 : ¬ n = 0) :
    Calls Tryd.prog 41 #[.agg #[.slice A h c, .slice B d e, .slice C k f, .int .i64 n]] w fun e w' => e = .returned (.int .i64 8) ∧ Below w.heap.size w w' := by
  subst x0
  subst x1
  subst x2
  have y5 : (n != 0) = true := by rw [bne_iff_ne]; omega
  have hin : inB n 0 1000 = true := by simp only [inB, decide_eq_true_iff]; exact x4
  have cin := In_any n 0 1000
  simp only [hin] at cin
  go_enter Tryd.func41, Tryd.ntmps41
  go_wp2_with fail
  refine (l5Size_any A _ _ true _ (by rfl)).mono ?_
  rintro e w' ⟨rfl, rfl⟩
  go_wp2_with fail
  refine (l5Size_any B _ _ true _ (by rfl)).mono ?_
  rintro e w' ⟨rfl, rfl⟩
  go_wp2_with fail
  refine (cin _).mono ?_
  rintro e w' ⟨rfl, rfl⟩
  go_wp2
  go_returns
  exact ⟨rfl, by go_grown⟩

set_option maxHeartbeats 1000000 in
theorem sym_spec_h6 (A B C : Option Addr) (h c d e f k : Nat) (n : Int) (w : World) (x0 : h = 32) (x1 : d = 32) (x2 : k = 0) (x5 : n = 0) :
    Calls Tryd.prog 41 #[.agg #[.slice A h c, .slice B d e, .slice C k f, .int .i64 n]] w fun e w' => e = .returned (.int .i64 0) ∧ Below w.heap.size w w' := by
  subst x0
  subst x1
  subst x2
  subst x5
  have hin : inB 0 0 1000 = true := by decide
  have cin := In_any 0 0 1000
  simp only [hin] at cin
  go_enter Tryd.func41, Tryd.ntmps41
  go_wp2_with fail
  refine (l5Size_any A _ _ true _ (by rfl)).mono ?_
  rintro e w' ⟨rfl, rfl⟩
  go_wp2_with fail
  refine (l5Size_any B _ _ true _ (by rfl)).mono ?_
  rintro e w' ⟨rfl, rfl⟩
  go_wp2_with fail
  refine (cin _).mono ?_
  rintro e w' ⟨rfl, rfl⟩
  go_wp2
  go_returns
  exact ⟨rfl, by go_grown⟩

set_option maxHeartbeats 1000000 in
theorem sym_spec_h7 (A B C : Option Addr) (h c d e f k : Nat) (n : Int) (w : World) (x0 : h = 32) (x1 : d = 32) (x3 : k = 32) (x4 : 0 ≤ n ∧ n ≤ 1000) :
    Calls Tryd.prog 41 #[.agg #[.slice A h c, .slice B d e, .slice C k f, .int .i64 n]] w fun e w' => e = .returned (.int .i64 0) ∧ Below w.heap.size w w' := by
  subst x0
  subst x1
  subst x3
  have hin : inB n 0 1000 = true := by simp only [inB, decide_eq_true_iff]; exact x4
  have cin := In_any n 0 1000
  simp only [hin] at cin
  go_enter Tryd.func41, Tryd.ntmps41
  go_wp2_with fail
  refine (l5Size_any A _ _ true _ (by rfl)).mono ?_
  rintro e w' ⟨rfl, rfl⟩
  go_wp2_with fail
  refine (l5Size_any B _ _ true _ (by rfl)).mono ?_
  rintro e w' ⟨rfl, rfl⟩
  go_wp2_with fail
  refine (l5Size_any C _ _ true _ (by rfl)).mono ?_
  rintro e w' ⟨rfl, rfl⟩
  go_wp2_with fail
  refine (cin _).mono ?_
  rintro e w' ⟨rfl, rfl⟩
  go_wp2
  go_returns
  exact ⟨rfl, by go_grown⟩

set_option maxHeartbeats 1000000 in
theorem sym_impl_h0 (A B C : Option Addr) (h c d e f k : Nat) (n : Int) (w : World) (x0 : ¬ h = 32) :
    Calls Tryd.prog 43 #[.agg #[.slice A h c, .slice B d e, .slice C k f, .int .i64 n]] w fun e w' => e = .returned (.int .i64 3) ∧ Below w.heap.size w w' := by
  have y0 : ((h : Int) == 32) = false := by rw [beq_eq_false_iff_ne]; omega
  have y0' : ((h : Int) != 32) = true := by rw [bne_iff_ne]; omega
  go_enter Tryd.func43, Tryd.ntmps43
  go_wp2
  go_returns
  exact ⟨rfl, by go_grown⟩

set_option maxHeartbeats 1000000 in
theorem sym_impl_h1 (A B C : Option Addr) (h c d e f k : Nat) (n : Int) (w : World) (x0 : h = 32) (x1 : ¬ d = 32) :
    Calls Tryd.prog 43 #[.agg #[.slice A h c, .slice B d e, .slice C k f, .int .i64 n]] w fun e w' => e = .returned (.int .i64 3) ∧ Below w.heap.size w w' := by
  subst x0
  have y1 : ((d : Int) == 32) = false := by rw [beq_eq_false_iff_ne]; omega
  have y1' : ((d : Int) != 32) = true := by rw [bne_iff_ne]; omega
  go_enter Tryd.func43, Tryd.ntmps43
  go_wp2
  go_returns
  exact ⟨rfl, by go_grown⟩

set_option maxHeartbeats 1000000 in
theorem sym_impl_h2 (A B C : Option Addr) (h c d e f k : Nat) (n : Int) (w : World) (x0 : h = 32) (x1 : d = 32) (x2 : ¬ k = 0) (x3 : ¬ k = 32) :
    Calls Tryd.prog 43 #[.agg #[.slice A h c, .slice B d e, .slice C k f, .int .i64 n]] w fun e w' => e = .returned (.int .i64 3) ∧ Below w.heap.size w w' := by
  subst x0
  subst x1
  have y3 : ((k : Int) == 32) = false := by rw [beq_eq_false_iff_ne]; omega
  have y3' : ((k : Int) != 32) = true := by rw [bne_iff_ne]; omega
  have y2 : ((k : Int) != 0) = true := by rw [bne_iff_ne]; omega
  by_cases x6 : n < 0
  · go_enter Tryd.func43, Tryd.ntmps43
    go_wp2
    go_returns
    exact ⟨rfl, by go_grown⟩
  · by_cases x7 : 1000 < n
    · go_enter Tryd.func43, Tryd.ntmps43
      go_wp2
      go_returns
      exact ⟨rfl, by go_grown⟩
    · have x9 : ¬ n > 1000 := x7
      go_enter Tryd.func43, Tryd.ntmps43
      go_wp2_with fail
      refine (hasKey_any w.heap.size 0 C k f true _ y2 ?_).mono ?_
      · simp [go_sem]
      rintro e w' ⟨rfl, rfl⟩
      go_wp2
      go_returns
      exact ⟨rfl, by go_grown⟩
set_option maxHeartbeats 1000000 in
theorem sym_impl_h3 (A B C : Option Addr) (h c d e f k : Nat) (n : Int) (w : World) (x0 : h = 32) (x1 : d = 32) (x2 : k = 0) (x4 : ¬ (0 ≤ n ∧ n ≤ 1000)) :
    Calls Tryd.prog 43 #[.agg #[.slice A h c, .slice B d e, .slice C k f, .int .i64 n]] w fun e w' => e = .returned (.int .i64 3) ∧ Below w.heap.size w w' := by
  subst x0
  subst x1
  subst x2
  by_cases x6 : n < 0
  · go_enter Tryd.func43, Tryd.ntmps43
    go_wp2
    go_returns
    exact ⟨rfl, by go_grown⟩
  · have x7 : 1000 < n := by omega
    go_enter Tryd.func43, Tryd.ntmps43
    go_wp2
    go_returns
    exact ⟨rfl, by go_grown⟩
set_option maxHeartbeats 1000000 in
theorem sym_impl_h4 (A B C : Option Addr) (h c d e f k : Nat) (n : Int) (w : World) (x0 : h = 32) (x1 : d = 32) (x3 : k = 32) (x4 : ¬ (0 ≤ n ∧ n ≤ 1000)) :
    Calls Tryd.prog 43 #[.agg #[.slice A h c, .slice B d e, .slice C k f, .int .i64 n]] w fun e w' => e = .returned (.int .i64 3) ∧ Below w.heap.size w w' := by
  subst x0
  subst x1
  subst x3
  by_cases x6 : n < 0
  · go_enter Tryd.func43, Tryd.ntmps43
    go_wp2
    go_returns
    exact ⟨rfl, by go_grown⟩
  · have x7 : 1000 < n := by omega
    go_enter Tryd.func43, Tryd.ntmps43
    go_wp2
    go_returns
    exact ⟨rfl, by go_grown⟩
set_option maxHeartbeats 1000000 in
theorem sym_impl_h5 (A B C : Option Addr) (h c d e f k : Nat) (n : Int) (w : World) (x0 : h = 32) (x1 : d = 32) (x2 : k = 0) (x4 : 0 ≤ n ∧ n ≤ 1000) (x5 : ¬ n = 0) :
    Calls Tryd.prog 43 #[.agg #[.slice A h c, .slice B d e, .slice C k f, .int .i64 n]] w fun e w' => e = .returned (.int .i64 8) ∧ Below w.heap.size w w' := by
  subst x0
  subst x1
  subst x2
  have y5 : (n != 0) = true := by rw [bne_iff_ne]; omega
  obtain ⟨x6, x7⟩ := x4
  have x8 : ¬ n < 0 := by omega
  have x9 : ¬ 1000 < n := by omega
  go_enter Tryd.func43, Tryd.ntmps43
  go_wp2_with fail
  refine (hasKey_any w.heap.size 0 C 0 f false _ (by first | rfl | assumption) ?_).mono ?_
  · simp [go_sem]
  rintro e w' ⟨rfl, rfl⟩
  go_wp2_with fail
  refine (hasKey_any w.heap.size 0 C 0 f false _ (by first | rfl | assumption) ?_).mono ?_
  · simp [go_sem]
  rintro e w' ⟨rfl, rfl⟩
  go_wp2
  go_returns
  exact ⟨rfl, by go_grown⟩

set_option maxHeartbeats 1000000 in
theorem sym_impl_h6 (A B C : Option Addr) (h c d e f k : Nat) (n : Int) (w : World) (x0 : h = 32) (x1 : d = 32) (x2 : k = 0) (x5 : n = 0) :
    Calls Tryd.prog 43 #[.agg #[.slice A h c, .slice B d e, .slice C k f, .int .i64 n]] w fun e w' => e = .returned (.int .i64 0) ∧ Below w.heap.size w w' := by
  subst x0
  subst x1
  subst x2
  subst x5
  go_enter Tryd.func43, Tryd.ntmps43
  go_wp2_with fail
  refine (hasKey_any w.heap.size 0 C 0 f false _ (by first | rfl | assumption) ?_).mono ?_
  · simp [go_sem]
  rintro e w' ⟨rfl, rfl⟩
  go_wp2_with fail
  refine (hasKey_any w.heap.size 0 C 0 f false _ (by first | rfl | assumption) ?_).mono ?_
  · simp [go_sem]
  rintro e w' ⟨rfl, rfl⟩
  go_wp2
  go_returns
  exact ⟨rfl, by go_grown⟩

set_option maxHeartbeats 1000000 in
theorem sym_impl_h7 (A B C : Option Addr) (h c d e f k : Nat) (n : Int) (w : World) (x0 : h = 32) (x1 : d = 32) (x3 : k = 32) (x4 : 0 ≤ n ∧ n ≤ 1000) :
    Calls Tryd.prog 43 #[.agg #[.slice A h c, .slice B d e, .slice C k f, .int .i64 n]] w fun e w' => e = .returned (.int .i64 0) ∧ Below w.heap.size w w' := by
  subst x0
  subst x1
  subst x3
  obtain ⟨x6, x7⟩ := x4
  have x8 : ¬ n < 0 := by omega
  have x9 : ¬ 1000 < n := by omega
  go_enter Tryd.func43, Tryd.ntmps43
  go_wp2_with fail
  refine (hasKey_any w.heap.size 0 C 32 f true _ (by first | rfl | assumption) ?_).mono ?_
  · simp [go_sem]
  rintro e w' ⟨rfl, rfl⟩
  go_wp2_with fail
  refine (hasKey_any w.heap.size 0 C 32 f true _ (by first | rfl | assumption) ?_).mono ?_
  · simp [go_sem]
  rintro e w' ⟨rfl, rfl⟩
  go_wp2
  go_returns
  exact ⟨rfl, by go_grown⟩

theorem spec_SymFault_any (A B C : Option Addr) (h c d e f k : Nat) (n : Int) (w : World) :
    Calls Tryd.prog 41 #[.agg #[.slice A h c, .slice B d e, .slice C k f, .int .i64 n]] w fun e w' => e = .returned (.int .i64 (symC h d k n)) ∧ Below w.heap.size w w' := by
  by_cases x0 : h = 32
  · by_cases x1 : d = 32
    · by_cases x2 : k = 0
      · by_cases x4 : 0 ≤ n ∧ n ≤ 1000
        · by_cases x5 : n = 0
          · have e1 : symC h d k n = 0 := by simp [symC, x0, x1, x2, x5]
            rw [e1]; exact sym_spec_h6 A B C h c d e f k n w x0 x1 x2 x5
          · have e1 : symC h d k n = 8 := by simp [symC, x0, x1, x2, x4, x5]
            rw [e1]; exact sym_spec_h5 A B C h c d e f k n w x0 x1 x2 x4 x5
        · have e1 : symC h d k n = 3 := by unfold symC; rw [if_neg]; rintro ⟨_, _, _, h4⟩; exact x4 h4
          rw [e1]; exact sym_spec_h3 A B C h c d e f k n w x0 x1 x2 x4
      · by_cases x3 : k = 32
        · by_cases x4 : 0 ≤ n ∧ n ≤ 1000
          · have e1 : symC h d k n = 0 := by simp [symC, x0, x1, x3, x4]
            rw [e1]; exact sym_spec_h7 A B C h c d e f k n w x0 x1 x3 x4
          · have e1 : symC h d k n = 3 := by unfold symC; rw [if_neg]; rintro ⟨_, _, _, h4⟩; exact x4 h4
            rw [e1]; exact sym_spec_h4 A B C h c d e f k n w x0 x1 x3 x4
        · have e1 : symC h d k n = 3 := by simp [symC, x2, x3]
          rw [e1]; exact sym_spec_h2 A B C h c d e f k n w x0 x1 x2 x3
    · have e1 : symC h d k n = 3 := by simp [symC, x1]
      rw [e1]; exact sym_spec_h1 A B C h c d e f k n w x0 x1
  · have e1 : symC h d k n = 3 := by simp [symC, x0]
    rw [e1]; exact sym_spec_h0 A B C h c d e f k n w x0

theorem impl_SymFault_any (A B C : Option Addr) (h c d e f k : Nat) (n : Int) (w : World) :
    Calls Tryd.prog 43 #[.agg #[.slice A h c, .slice B d e, .slice C k f, .int .i64 n]] w fun e w' => e = .returned (.int .i64 (symC h d k n)) ∧ Below w.heap.size w w' := by
  by_cases x0 : h = 32
  · by_cases x1 : d = 32
    · by_cases x2 : k = 0
      · by_cases x4 : 0 ≤ n ∧ n ≤ 1000
        · by_cases x5 : n = 0
          · have e1 : symC h d k n = 0 := by simp [symC, x0, x1, x2, x5]
            rw [e1]; exact sym_impl_h6 A B C h c d e f k n w x0 x1 x2 x5
          · have e1 : symC h d k n = 8 := by simp [symC, x0, x1, x2, x4, x5]
            rw [e1]; exact sym_impl_h5 A B C h c d e f k n w x0 x1 x2 x4 x5
        · have e1 : symC h d k n = 3 := by unfold symC; rw [if_neg]; rintro ⟨_, _, _, h4⟩; exact x4 h4
          rw [e1]; exact sym_impl_h3 A B C h c d e f k n w x0 x1 x2 x4
      · by_cases x3 : k = 32
        · by_cases x4 : 0 ≤ n ∧ n ≤ 1000
          · have e1 : symC h d k n = 0 := by simp [symC, x0, x1, x3, x4]
            rw [e1]; exact sym_impl_h7 A B C h c d e f k n w x0 x1 x3 x4
          · have e1 : symC h d k n = 3 := by unfold symC; rw [if_neg]; rintro ⟨_, _, _, h4⟩; exact x4 h4
            rw [e1]; exact sym_impl_h4 A B C h c d e f k n w x0 x1 x3 x4
        · have e1 : symC h d k n = 3 := by simp [symC, x2, x3]
          rw [e1]; exact sym_impl_h2 A B C h c d e f k n w x0 x1 x2 x3
    · have e1 : symC h d k n = 3 := by simp [symC, x1]
      rw [e1]; exact sym_impl_h1 A B C h c d e f k n w x0 x1
  · have e1 : symC h d k n = 3 := by simp [symC, x0]
    rw [e1]; exact sym_impl_h0 A B C h c d e f k n w x0

end Go.Proofs.YtknkadmngdaakaaDoor
