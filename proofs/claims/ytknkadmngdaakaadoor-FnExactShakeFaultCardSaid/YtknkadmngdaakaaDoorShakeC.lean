/- ShakeFault, of the model and of the program. -/
import Derived.Test.YtknkadmngdaakaaDoorRowsC
namespace Go.Proofs.YtknkadmngdaakaaDoor
open Go.RowKit

/-- a secret's bounds -/
def scB (a : Int) : Bool := inB a 1 2305843009213693949
def lastP : List Int := [0, 7, 47, 39]
/-- what is turned: a message, a place, a mask -/
def turnB (t p m : Int) : Bool := inB t 0 3 && (if t = 0 then decide (p = 0) && decide (m = 0) else inB p 0 (lastP.getD t.toNat 0) && inB m 1 255)
def shakeC (a b c d t p m : Int) : Int := if (scB a && scB b && scB c && scB d && turnB t p m) = true then 0 else 3

theorem l4Secret_is (a : Int) (v : Bool) (w : World) (hv : scB a = v) :
    Calls Tryd.prog 45 #[.int .i64 a] w fun e w' => e = .returned (.bool v) ∧ w' = w := by
  have c := In_any a 1 2305843009213693949 w
  have hc : inB a 1 2305843009213693949 = v := hv
  rw [hc] at c
  clear hc hv
  go_enter Tryd.func45, Tryd.ntmps45
  go_wp2_with fail
  refine c.mono ?_
  rintro e w' ⟨rfl, rfl⟩
  go_wp2
  go_ret
  exact ⟨rfl, rfl⟩

theorem inQuiet {f : FuncId} {args : Array Value} {v : Value} {w : World} (h : Calls Tryd.prog f args w fun e w' => e = .returned v ∧ w' = w) : Calls Tryd.prog f args w fun e w' => e = .returned v ∧ ∃ n, w' = w.drewN n :=
  h.mono fun _ _ ⟨h1, h2⟩ => ⟨h1, 0, h2⟩

theorem isSecret_is (a : Int) (v : Bool) (w : World) (hv : scB a = v) :
    Calls Tryd.prog 47 #[.int .i64 a] w fun e w' => e = .returned (.bool v) ∧ w' = w := by
  have h : scB a = decide (1 ≤ a ∧ a ≤ 2305843009213693949) := rfl
  rw [h] at hv
  by_cases h1 : 1 ≤ a
  · by_cases h2 : a ≤ 2305843009213693949
    · have : v = true := by rw [← hv]; simp [h1, h2]
      subst this
      clear hv h
      go_enter Tryd.func47, Tryd.ntmps47
      go_wp2
      go_ret
      exact ⟨rfl, rfl⟩
    · have : v = false := by rw [← hv]; simp [h2]
      subst this
      clear hv h
      go_enter Tryd.func47, Tryd.ntmps47
      go_wp2
      go_ret
      exact ⟨rfl, rfl⟩
  · have : v = false := by rw [← hv]; simp [h1]
    subst this
    clear hv h
    go_enter Tryd.func47, Tryd.ntmps47
    go_wp2
    go_ret
    exact ⟨rfl, rfl⟩

set_option maxHeartbeats 1000000 in
theorem shm_s0 (a b c d t p m : Int) (w : World)  (s0 : scB a = false) :
    Calls Tryd.prog 26 #[.agg #[.int .i64 a, .int .i64 b, .int .i64 c, .int .i64 d, .int .i64 t, .int .i64 p, .int .i64 m]] w fun e w' => e = .returned (.int .i64 3) ∧ Below w.heap.size w w' := by
  go_enter Tryd.func26, Tryd.ntmps26
  go_wp2_with fail
  refine (l4Secret_is a false _ s0).mono ?_
  rintro e w' ⟨rfl, rfl⟩
  go_wp2
  go_returns
  exact ⟨rfl, by go_grown⟩

set_option maxHeartbeats 1000000 in
theorem shm_s1 (a b c d t p m : Int) (w : World) (s0 : scB a = true) (s1 : scB b = false) :
    Calls Tryd.prog 26 #[.agg #[.int .i64 a, .int .i64 b, .int .i64 c, .int .i64 d, .int .i64 t, .int .i64 p, .int .i64 m]] w fun e w' => e = .returned (.int .i64 3) ∧ Below w.heap.size w w' := by
  go_enter Tryd.func26, Tryd.ntmps26
  go_wp2_with fail
  refine (l4Secret_is a true _ s0).mono ?_
  rintro e w' ⟨rfl, rfl⟩
  go_wp2_with fail
  refine (l4Secret_is b false _ s1).mono ?_
  rintro e w' ⟨rfl, rfl⟩
  go_wp2
  go_returns
  exact ⟨rfl, by go_grown⟩

set_option maxHeartbeats 1000000 in
theorem shm_s2 (a b c d t p m : Int) (w : World) (s0 : scB a = true) (s1 : scB b = true) (s2 : scB c = false) :
    Calls Tryd.prog 26 #[.agg #[.int .i64 a, .int .i64 b, .int .i64 c, .int .i64 d, .int .i64 t, .int .i64 p, .int .i64 m]] w fun e w' => e = .returned (.int .i64 3) ∧ Below w.heap.size w w' := by
  go_enter Tryd.func26, Tryd.ntmps26
  go_wp2_with fail
  refine (l4Secret_is a true _ s0).mono ?_
  rintro e w' ⟨rfl, rfl⟩
  go_wp2_with fail
  refine (l4Secret_is b true _ s1).mono ?_
  rintro e w' ⟨rfl, rfl⟩
  go_wp2_with fail
  refine (l4Secret_is c false _ s2).mono ?_
  rintro e w' ⟨rfl, rfl⟩
  go_wp2
  go_returns
  exact ⟨rfl, by go_grown⟩

set_option maxHeartbeats 1000000 in
theorem shm_s3 (a b c d t p m : Int) (w : World) (s0 : scB a = true) (s1 : scB b = true) (s2 : scB c = true) (s3 : scB d = false) :
    Calls Tryd.prog 26 #[.agg #[.int .i64 a, .int .i64 b, .int .i64 c, .int .i64 d, .int .i64 t, .int .i64 p, .int .i64 m]] w fun e w' => e = .returned (.int .i64 3) ∧ Below w.heap.size w w' := by
  go_enter Tryd.func26, Tryd.ntmps26
  go_wp2_with fail
  refine (l4Secret_is a true _ s0).mono ?_
  rintro e w' ⟨rfl, rfl⟩
  go_wp2_with fail
  refine (l4Secret_is b true _ s1).mono ?_
  rintro e w' ⟨rfl, rfl⟩
  go_wp2_with fail
  refine (l4Secret_is c true _ s2).mono ?_
  rintro e w' ⟨rfl, rfl⟩
  go_wp2_with fail
  refine (l4Secret_is d false _ s3).mono ?_
  rintro e w' ⟨rfl, rfl⟩
  go_wp2
  go_returns
  exact ⟨rfl, by go_grown⟩

set_option maxHeartbeats 1000000 in
theorem shm_t (a b c d t p m : Int) (w : World) (s0 : scB a = true) (s1 : scB b = true) (s2 : scB c = true) (s3 : scB d = true) (ht : inB t 0 3 = false) :
    Calls Tryd.prog 26 #[.agg #[.int .i64 a, .int .i64 b, .int .i64 c, .int .i64 d, .int .i64 t, .int .i64 p, .int .i64 m]] w fun e w' => e = .returned (.int .i64 3) ∧ Below w.heap.size w w' := by
  have ct := fun w => In_any t 0 3 w
  rw [ht] at ct
  go_enter Tryd.func26, Tryd.ntmps26
  go_wp2_with fail
  refine (l4Secret_is a true _ s0).mono ?_
  rintro e w' ⟨rfl, rfl⟩
  go_wp2_with fail
  refine (l4Secret_is b true _ s1).mono ?_
  rintro e w' ⟨rfl, rfl⟩
  go_wp2_with fail
  refine (l4Secret_is c true _ s2).mono ?_
  rintro e w' ⟨rfl, rfl⟩
  go_wp2_with fail
  refine (l4Secret_is d true _ s3).mono ?_
  rintro e w' ⟨rfl, rfl⟩
  go_wp2_with fail
  refine (ct _).mono ?_
  rintro e w' ⟨rfl, rfl⟩
  go_wp2
  go_returns
  exact ⟨rfl, by go_grown⟩

set_option maxHeartbeats 1000000 in
theorem shm_0_p (a b c d p m : Int) (w : World) (s0 : scB a = true) (s1 : scB b = true) (s2 : scB c = true) (s3 : scB d = true) (hp : inB p 0 0 = false) :
    Calls Tryd.prog 26 #[.agg #[.int .i64 a, .int .i64 b, .int .i64 c, .int .i64 d, .int .i64 0, .int .i64 p, .int .i64 m]] w fun e w' => e = .returned (.int .i64 3) ∧ Below w.heap.size w w' := by
  have ct := fun w => In_any 0 0 3 w
  have ht : inB 0 0 3 = true := by decide
  rw [ht] at ct
  have cp := fun w => In_any p 0 0 w
  rw [hp] at cp
  replace cp := Shut.mk cp
  go_enter Tryd.func26, Tryd.ntmps26
  go_wp2_with fail
  refine (l4Secret_is a true _ s0).mono ?_
  rintro e w' ⟨rfl, rfl⟩
  go_wp2_with fail
  refine (l4Secret_is b true _ s1).mono ?_
  rintro e w' ⟨rfl, rfl⟩
  go_wp2_with fail
  refine (l4Secret_is c true _ s2).mono ?_
  rintro e w' ⟨rfl, rfl⟩
  go_wp2_with fail
  refine (l4Secret_is d true _ s3).mono ?_
  rintro e w' ⟨rfl, rfl⟩
  go_wp2_with fail
  refine (ct _).mono ?_
  rintro e w' ⟨rfl, rfl⟩
  go_wp2_with fail
  go_quiet (first | (go_at_call_of 46 (Value.int .i64 p); refine Calls.quiet_of_same ((cp.out _).mono fun _ _ h => ⟨h.1, h.2.symm⟩)))
  go_wp2
  go_returns
  exact ⟨rfl, ad (ab (ab (Below.refl _ _) _) _) _⟩

set_option maxHeartbeats 1000000 in
theorem shm_0_m (a b c d p m : Int) (w : World) (s0 : scB a = true) (s1 : scB b = true) (s2 : scB c = true) (s3 : scB d = true) (hp : inB p 0 0 = true) (hm : (m != 0) = true) :
    Calls Tryd.prog 26 #[.agg #[.int .i64 a, .int .i64 b, .int .i64 c, .int .i64 d, .int .i64 0, .int .i64 p, .int .i64 m]] w fun e w' => e = .returned (.int .i64 3) ∧ Below w.heap.size w w' := by
  have ct := fun w => In_any 0 0 3 w
  have ht : inB 0 0 3 = true := by decide
  rw [ht] at ct
  have cp := fun w => In_any p 0 0 w
  rw [hp] at cp
  replace cp := Shut.mk cp
  go_enter Tryd.func26, Tryd.ntmps26
  go_wp2_with fail
  refine (l4Secret_is a true _ s0).mono ?_
  rintro e w' ⟨rfl, rfl⟩
  go_wp2_with fail
  refine (l4Secret_is b true _ s1).mono ?_
  rintro e w' ⟨rfl, rfl⟩
  go_wp2_with fail
  refine (l4Secret_is c true _ s2).mono ?_
  rintro e w' ⟨rfl, rfl⟩
  go_wp2_with fail
  refine (l4Secret_is d true _ s3).mono ?_
  rintro e w' ⟨rfl, rfl⟩
  go_wp2_with fail
  refine (ct _).mono ?_
  rintro e w' ⟨rfl, rfl⟩
  go_wp2_with fail
  go_quiet (first | (go_at_call_of 46 (Value.int .i64 p); refine Calls.quiet_of_same ((cp.out _).mono fun _ _ h => ⟨h.1, h.2.symm⟩)))
  go_wp2
  go_returns
  exact ⟨rfl, ad (ab (ab (Below.refl _ _) _) _) _⟩

set_option maxHeartbeats 1000000 in
theorem shm_0_ok (a b c d p m : Int) (w : World) (s0 : scB a = true) (s1 : scB b = true) (s2 : scB c = true) (s3 : scB d = true) (hp : inB p 0 0 = true) (hm : (m != 0) = false) :
    Calls Tryd.prog 26 #[.agg #[.int .i64 a, .int .i64 b, .int .i64 c, .int .i64 d, .int .i64 0, .int .i64 p, .int .i64 m]] w fun e w' => e = .returned (.int .i64 0) ∧ Below w.heap.size w w' := by
  have ct := fun w => In_any 0 0 3 w
  have ht : inB 0 0 3 = true := by decide
  rw [ht] at ct
  have cp := fun w => In_any p 0 0 w
  rw [hp] at cp
  replace cp := Shut.mk cp
  go_enter Tryd.func26, Tryd.ntmps26
  go_wp2_with fail
  refine (l4Secret_is a true _ s0).mono ?_
  rintro e w' ⟨rfl, rfl⟩
  go_wp2_with fail
  refine (l4Secret_is b true _ s1).mono ?_
  rintro e w' ⟨rfl, rfl⟩
  go_wp2_with fail
  refine (l4Secret_is c true _ s2).mono ?_
  rintro e w' ⟨rfl, rfl⟩
  go_wp2_with fail
  refine (l4Secret_is d true _ s3).mono ?_
  rintro e w' ⟨rfl, rfl⟩
  go_wp2_with fail
  refine (ct _).mono ?_
  rintro e w' ⟨rfl, rfl⟩
  go_wp2_with fail
  go_quiet (first | (go_at_call_of 46 (Value.int .i64 p); refine Calls.quiet_of_same ((cp.out _).mono fun _ _ h => ⟨h.1, h.2.symm⟩)))
  go_wp2
  go_returns
  exact ⟨rfl, ad (ab (ab (Below.refl _ _) _) _) _⟩

set_option maxHeartbeats 1000000 in
theorem shm_1_p (a b c d p m : Int) (w : World) (s0 : scB a = true) (s1 : scB b = true) (s2 : scB c = true) (s3 : scB d = true) (hp : inB p 0 7 = false) :
    Calls Tryd.prog 26 #[.agg #[.int .i64 a, .int .i64 b, .int .i64 c, .int .i64 d, .int .i64 1, .int .i64 p, .int .i64 m]] w fun e w' => e = .returned (.int .i64 3) ∧ Below w.heap.size w w' := by
  have ct := fun w => In_any 1 0 3 w
  have ht : inB 1 0 3 = true := by decide
  rw [ht] at ct
  have cp := fun w => In_any p 0 7 w
  rw [hp] at cp
  replace cp := Shut.mk cp
  go_enter Tryd.func26, Tryd.ntmps26
  go_wp2_with fail
  refine (l4Secret_is a true _ s0).mono ?_
  rintro e w' ⟨rfl, rfl⟩
  go_wp2_with fail
  refine (l4Secret_is b true _ s1).mono ?_
  rintro e w' ⟨rfl, rfl⟩
  go_wp2_with fail
  refine (l4Secret_is c true _ s2).mono ?_
  rintro e w' ⟨rfl, rfl⟩
  go_wp2_with fail
  refine (l4Secret_is d true _ s3).mono ?_
  rintro e w' ⟨rfl, rfl⟩
  go_wp2_with fail
  refine (ct _).mono ?_
  rintro e w' ⟨rfl, rfl⟩
  go_wp2_with fail
  go_quiet (first | (go_at_call_of 46 (Value.int .i64 p); refine Calls.quiet_of_same ((cp.out _).mono fun _ _ h => ⟨h.1, h.2.symm⟩)))
  go_wp2
  go_returns
  exact ⟨rfl, ad (ab (ab (Below.refl _ _) _) _) _⟩

set_option maxHeartbeats 1000000 in
theorem shm_1_m (a b c d p m : Int) (w : World) (s0 : scB a = true) (s1 : scB b = true) (s2 : scB c = true) (s3 : scB d = true) (hp : inB p 0 7 = true) (hm : inB m 1 255 = false) :
    Calls Tryd.prog 26 #[.agg #[.int .i64 a, .int .i64 b, .int .i64 c, .int .i64 d, .int .i64 1, .int .i64 p, .int .i64 m]] w fun e w' => e = .returned (.int .i64 3) ∧ Below w.heap.size w w' := by
  have ct := fun w => In_any 1 0 3 w
  have ht : inB 1 0 3 = true := by decide
  rw [ht] at ct
  have cp := fun w => In_any p 0 7 w
  rw [hp] at cp
  replace cp := Shut.mk cp
  have cm := fun w => In_any m 1 255 w
  rw [hm] at cm
  replace cm := Shut.mk cm
  go_enter Tryd.func26, Tryd.ntmps26
  go_wp2_with fail
  refine (l4Secret_is a true _ s0).mono ?_
  rintro e w' ⟨rfl, rfl⟩
  go_wp2_with fail
  refine (l4Secret_is b true _ s1).mono ?_
  rintro e w' ⟨rfl, rfl⟩
  go_wp2_with fail
  refine (l4Secret_is c true _ s2).mono ?_
  rintro e w' ⟨rfl, rfl⟩
  go_wp2_with fail
  refine (l4Secret_is d true _ s3).mono ?_
  rintro e w' ⟨rfl, rfl⟩
  go_wp2_with fail
  refine (ct _).mono ?_
  rintro e w' ⟨rfl, rfl⟩
  go_wp2_with fail
  go_quiet (first | (go_at_call_of 46 (Value.int .i64 p); refine Calls.quiet_of_same ((cp.out _).mono fun _ _ h => ⟨h.1, h.2.symm⟩)) | (go_at_call_of 46 (Value.int .i64 m); refine Calls.quiet_of_same ((cm.out _).mono fun _ _ h => ⟨h.1, h.2.symm⟩)))
  go_wp2
  go_returns
  exact ⟨rfl, ad (ab (ab (Below.refl _ _) _) _) _⟩

set_option maxHeartbeats 1000000 in
theorem shm_1_ok (a b c d p m : Int) (w : World) (s0 : scB a = true) (s1 : scB b = true) (s2 : scB c = true) (s3 : scB d = true) (hp : inB p 0 7 = true) (hm : inB m 1 255 = true) :
    Calls Tryd.prog 26 #[.agg #[.int .i64 a, .int .i64 b, .int .i64 c, .int .i64 d, .int .i64 1, .int .i64 p, .int .i64 m]] w fun e w' => e = .returned (.int .i64 0) ∧ Below w.heap.size w w' := by
  have ct := fun w => In_any 1 0 3 w
  have ht : inB 1 0 3 = true := by decide
  rw [ht] at ct
  have cp := fun w => In_any p 0 7 w
  rw [hp] at cp
  replace cp := Shut.mk cp
  have cm := fun w => In_any m 1 255 w
  rw [hm] at cm
  replace cm := Shut.mk cm
  go_enter Tryd.func26, Tryd.ntmps26
  go_wp2_with fail
  refine (l4Secret_is a true _ s0).mono ?_
  rintro e w' ⟨rfl, rfl⟩
  go_wp2_with fail
  refine (l4Secret_is b true _ s1).mono ?_
  rintro e w' ⟨rfl, rfl⟩
  go_wp2_with fail
  refine (l4Secret_is c true _ s2).mono ?_
  rintro e w' ⟨rfl, rfl⟩
  go_wp2_with fail
  refine (l4Secret_is d true _ s3).mono ?_
  rintro e w' ⟨rfl, rfl⟩
  go_wp2_with fail
  refine (ct _).mono ?_
  rintro e w' ⟨rfl, rfl⟩
  go_wp2_with fail
  go_quiet (first | (go_at_call_of 46 (Value.int .i64 p); refine Calls.quiet_of_same ((cp.out _).mono fun _ _ h => ⟨h.1, h.2.symm⟩)) | (go_at_call_of 46 (Value.int .i64 m); refine Calls.quiet_of_same ((cm.out _).mono fun _ _ h => ⟨h.1, h.2.symm⟩)))
  go_wp2
  go_returns
  exact ⟨rfl, ad (ab (ab (Below.refl _ _) _) _) _⟩

set_option maxHeartbeats 1000000 in
theorem shm_2_p (a b c d p m : Int) (w : World) (s0 : scB a = true) (s1 : scB b = true) (s2 : scB c = true) (s3 : scB d = true) (hp : inB p 0 47 = false) :
    Calls Tryd.prog 26 #[.agg #[.int .i64 a, .int .i64 b, .int .i64 c, .int .i64 d, .int .i64 2, .int .i64 p, .int .i64 m]] w fun e w' => e = .returned (.int .i64 3) ∧ Below w.heap.size w w' := by
  have ct := fun w => In_any 2 0 3 w
  have ht : inB 2 0 3 = true := by decide
  rw [ht] at ct
  have cp := fun w => In_any p 0 47 w
  rw [hp] at cp
  replace cp := Shut.mk cp
  go_enter Tryd.func26, Tryd.ntmps26
  go_wp2_with fail
  refine (l4Secret_is a true _ s0).mono ?_
  rintro e w' ⟨rfl, rfl⟩
  go_wp2_with fail
  refine (l4Secret_is b true _ s1).mono ?_
  rintro e w' ⟨rfl, rfl⟩
  go_wp2_with fail
  refine (l4Secret_is c true _ s2).mono ?_
  rintro e w' ⟨rfl, rfl⟩
  go_wp2_with fail
  refine (l4Secret_is d true _ s3).mono ?_
  rintro e w' ⟨rfl, rfl⟩
  go_wp2_with fail
  refine (ct _).mono ?_
  rintro e w' ⟨rfl, rfl⟩
  go_wp2_with fail
  go_quiet (first | (go_at_call_of 46 (Value.int .i64 p); refine Calls.quiet_of_same ((cp.out _).mono fun _ _ h => ⟨h.1, h.2.symm⟩)))
  go_wp2
  go_returns
  exact ⟨rfl, ad (ab (ab (Below.refl _ _) _) _) _⟩

set_option maxHeartbeats 1000000 in
theorem shm_2_m (a b c d p m : Int) (w : World) (s0 : scB a = true) (s1 : scB b = true) (s2 : scB c = true) (s3 : scB d = true) (hp : inB p 0 47 = true) (hm : inB m 1 255 = false) :
    Calls Tryd.prog 26 #[.agg #[.int .i64 a, .int .i64 b, .int .i64 c, .int .i64 d, .int .i64 2, .int .i64 p, .int .i64 m]] w fun e w' => e = .returned (.int .i64 3) ∧ Below w.heap.size w w' := by
  have ct := fun w => In_any 2 0 3 w
  have ht : inB 2 0 3 = true := by decide
  rw [ht] at ct
  have cp := fun w => In_any p 0 47 w
  rw [hp] at cp
  replace cp := Shut.mk cp
  have cm := fun w => In_any m 1 255 w
  rw [hm] at cm
  replace cm := Shut.mk cm
  go_enter Tryd.func26, Tryd.ntmps26
  go_wp2_with fail
  refine (l4Secret_is a true _ s0).mono ?_
  rintro e w' ⟨rfl, rfl⟩
  go_wp2_with fail
  refine (l4Secret_is b true _ s1).mono ?_
  rintro e w' ⟨rfl, rfl⟩
  go_wp2_with fail
  refine (l4Secret_is c true _ s2).mono ?_
  rintro e w' ⟨rfl, rfl⟩
  go_wp2_with fail
  refine (l4Secret_is d true _ s3).mono ?_
  rintro e w' ⟨rfl, rfl⟩
  go_wp2_with fail
  refine (ct _).mono ?_
  rintro e w' ⟨rfl, rfl⟩
  go_wp2_with fail
  go_quiet (first | (go_at_call_of 46 (Value.int .i64 p); refine Calls.quiet_of_same ((cp.out _).mono fun _ _ h => ⟨h.1, h.2.symm⟩)) | (go_at_call_of 46 (Value.int .i64 m); refine Calls.quiet_of_same ((cm.out _).mono fun _ _ h => ⟨h.1, h.2.symm⟩)))
  go_wp2
  go_returns
  exact ⟨rfl, ad (ab (ab (Below.refl _ _) _) _) _⟩

set_option maxHeartbeats 1000000 in
theorem shm_2_ok (a b c d p m : Int) (w : World) (s0 : scB a = true) (s1 : scB b = true) (s2 : scB c = true) (s3 : scB d = true) (hp : inB p 0 47 = true) (hm : inB m 1 255 = true) :
    Calls Tryd.prog 26 #[.agg #[.int .i64 a, .int .i64 b, .int .i64 c, .int .i64 d, .int .i64 2, .int .i64 p, .int .i64 m]] w fun e w' => e = .returned (.int .i64 0) ∧ Below w.heap.size w w' := by
  have ct := fun w => In_any 2 0 3 w
  have ht : inB 2 0 3 = true := by decide
  rw [ht] at ct
  have cp := fun w => In_any p 0 47 w
  rw [hp] at cp
  replace cp := Shut.mk cp
  have cm := fun w => In_any m 1 255 w
  rw [hm] at cm
  replace cm := Shut.mk cm
  go_enter Tryd.func26, Tryd.ntmps26
  go_wp2_with fail
  refine (l4Secret_is a true _ s0).mono ?_
  rintro e w' ⟨rfl, rfl⟩
  go_wp2_with fail
  refine (l4Secret_is b true _ s1).mono ?_
  rintro e w' ⟨rfl, rfl⟩
  go_wp2_with fail
  refine (l4Secret_is c true _ s2).mono ?_
  rintro e w' ⟨rfl, rfl⟩
  go_wp2_with fail
  refine (l4Secret_is d true _ s3).mono ?_
  rintro e w' ⟨rfl, rfl⟩
  go_wp2_with fail
  refine (ct _).mono ?_
  rintro e w' ⟨rfl, rfl⟩
  go_wp2_with fail
  go_quiet (first | (go_at_call_of 46 (Value.int .i64 p); refine Calls.quiet_of_same ((cp.out _).mono fun _ _ h => ⟨h.1, h.2.symm⟩)) | (go_at_call_of 46 (Value.int .i64 m); refine Calls.quiet_of_same ((cm.out _).mono fun _ _ h => ⟨h.1, h.2.symm⟩)))
  go_wp2
  go_returns
  exact ⟨rfl, ad (ab (ab (Below.refl _ _) _) _) _⟩

set_option maxHeartbeats 1000000 in
theorem shm_3_p (a b c d p m : Int) (w : World) (s0 : scB a = true) (s1 : scB b = true) (s2 : scB c = true) (s3 : scB d = true) (hp : inB p 0 39 = false) :
    Calls Tryd.prog 26 #[.agg #[.int .i64 a, .int .i64 b, .int .i64 c, .int .i64 d, .int .i64 3, .int .i64 p, .int .i64 m]] w fun e w' => e = .returned (.int .i64 3) ∧ Below w.heap.size w w' := by
  have ct := fun w => In_any 3 0 3 w
  have ht : inB 3 0 3 = true := by decide
  rw [ht] at ct
  have cp := fun w => In_any p 0 39 w
  rw [hp] at cp
  replace cp := Shut.mk cp
  go_enter Tryd.func26, Tryd.ntmps26
  go_wp2_with fail
  refine (l4Secret_is a true _ s0).mono ?_
  rintro e w' ⟨rfl, rfl⟩
  go_wp2_with fail
  refine (l4Secret_is b true _ s1).mono ?_
  rintro e w' ⟨rfl, rfl⟩
  go_wp2_with fail
  refine (l4Secret_is c true _ s2).mono ?_
  rintro e w' ⟨rfl, rfl⟩
  go_wp2_with fail
  refine (l4Secret_is d true _ s3).mono ?_
  rintro e w' ⟨rfl, rfl⟩
  go_wp2_with fail
  refine (ct _).mono ?_
  rintro e w' ⟨rfl, rfl⟩
  go_wp2_with fail
  go_quiet (first | (go_at_call_of 46 (Value.int .i64 p); refine Calls.quiet_of_same ((cp.out _).mono fun _ _ h => ⟨h.1, h.2.symm⟩)))
  go_wp2
  go_returns
  exact ⟨rfl, ad (ab (ab (Below.refl _ _) _) _) _⟩

set_option maxHeartbeats 1000000 in
theorem shm_3_m (a b c d p m : Int) (w : World) (s0 : scB a = true) (s1 : scB b = true) (s2 : scB c = true) (s3 : scB d = true) (hp : inB p 0 39 = true) (hm : inB m 1 255 = false) :
    Calls Tryd.prog 26 #[.agg #[.int .i64 a, .int .i64 b, .int .i64 c, .int .i64 d, .int .i64 3, .int .i64 p, .int .i64 m]] w fun e w' => e = .returned (.int .i64 3) ∧ Below w.heap.size w w' := by
  have ct := fun w => In_any 3 0 3 w
  have ht : inB 3 0 3 = true := by decide
  rw [ht] at ct
  have cp := fun w => In_any p 0 39 w
  rw [hp] at cp
  replace cp := Shut.mk cp
  have cm := fun w => In_any m 1 255 w
  rw [hm] at cm
  replace cm := Shut.mk cm
  go_enter Tryd.func26, Tryd.ntmps26
  go_wp2_with fail
  refine (l4Secret_is a true _ s0).mono ?_
  rintro e w' ⟨rfl, rfl⟩
  go_wp2_with fail
  refine (l4Secret_is b true _ s1).mono ?_
  rintro e w' ⟨rfl, rfl⟩
  go_wp2_with fail
  refine (l4Secret_is c true _ s2).mono ?_
  rintro e w' ⟨rfl, rfl⟩
  go_wp2_with fail
  refine (l4Secret_is d true _ s3).mono ?_
  rintro e w' ⟨rfl, rfl⟩
  go_wp2_with fail
  refine (ct _).mono ?_
  rintro e w' ⟨rfl, rfl⟩
  go_wp2_with fail
  go_quiet (first | (go_at_call_of 46 (Value.int .i64 p); refine Calls.quiet_of_same ((cp.out _).mono fun _ _ h => ⟨h.1, h.2.symm⟩)) | (go_at_call_of 46 (Value.int .i64 m); refine Calls.quiet_of_same ((cm.out _).mono fun _ _ h => ⟨h.1, h.2.symm⟩)))
  go_wp2
  go_returns
  exact ⟨rfl, ad (ab (ab (Below.refl _ _) _) _) _⟩

set_option maxHeartbeats 1000000 in
theorem shm_3_ok (a b c d p m : Int) (w : World) (s0 : scB a = true) (s1 : scB b = true) (s2 : scB c = true) (s3 : scB d = true) (hp : inB p 0 39 = true) (hm : inB m 1 255 = true) :
    Calls Tryd.prog 26 #[.agg #[.int .i64 a, .int .i64 b, .int .i64 c, .int .i64 d, .int .i64 3, .int .i64 p, .int .i64 m]] w fun e w' => e = .returned (.int .i64 0) ∧ Below w.heap.size w w' := by
  have ct := fun w => In_any 3 0 3 w
  have ht : inB 3 0 3 = true := by decide
  rw [ht] at ct
  have cp := fun w => In_any p 0 39 w
  rw [hp] at cp
  replace cp := Shut.mk cp
  have cm := fun w => In_any m 1 255 w
  rw [hm] at cm
  replace cm := Shut.mk cm
  go_enter Tryd.func26, Tryd.ntmps26
  go_wp2_with fail
  refine (l4Secret_is a true _ s0).mono ?_
  rintro e w' ⟨rfl, rfl⟩
  go_wp2_with fail
  refine (l4Secret_is b true _ s1).mono ?_
  rintro e w' ⟨rfl, rfl⟩
  go_wp2_with fail
  refine (l4Secret_is c true _ s2).mono ?_
  rintro e w' ⟨rfl, rfl⟩
  go_wp2_with fail
  refine (l4Secret_is d true _ s3).mono ?_
  rintro e w' ⟨rfl, rfl⟩
  go_wp2_with fail
  refine (ct _).mono ?_
  rintro e w' ⟨rfl, rfl⟩
  go_wp2_with fail
  go_quiet (first | (go_at_call_of 46 (Value.int .i64 p); refine Calls.quiet_of_same ((cp.out _).mono fun _ _ h => ⟨h.1, h.2.symm⟩)) | (go_at_call_of 46 (Value.int .i64 m); refine Calls.quiet_of_same ((cm.out _).mono fun _ _ h => ⟨h.1, h.2.symm⟩)))
  go_wp2
  go_returns
  exact ⟨rfl, ad (ab (ab (Below.refl _ _) _) _) _⟩


/-- the table of the last places, as it lies -/
def Last (w : World) : Prop := ∃ t f, w.heap[0]? = some (.cells #[.int .i64 0, .int .i64 7, .int .i64 47, .int .i64 39] t f)
theorem Last.keep {w w' : World} (h : Last w) (hb : Below w.heap.size w w') : Last w' := by
  obtain ⟨t, f, h⟩ := h
  exact ⟨t, f, (hb.block _ (Array.getElem?_eq_some_iff.1 h).1).trans h⟩
theorem Last.at_ {w : World} (h : Last w) : w.cell? ⟨0, 1, none⟩ = some (.int .i64 7) ∧ w.cell? ⟨0, 2, none⟩ = some (.int .i64 47) ∧ w.cell? ⟨0, 3, none⟩ = some (.int .i64 39) := by
  obtain ⟨t, f, h⟩ := h
  refine ⟨?_, ?_, ?_⟩
  · simpa using cell_of_row w _ 1 _ _ f h
  · simpa using cell_of_row w _ 2 _ _ f h
  · simpa using cell_of_row w _ 3 _ _ f h

theorem itm_lo (t p m : Int) (w : World) (hT : Last w) (h : t < 0) :
    Calls Tryd.prog 48 #[.int .i64 t, .int .i64 p, .int .i64 m] w fun e w' => e = .returned (.bool false) ∧ w' = w := by
  obtain ⟨x1, x2, x3⟩ := hT.at_
  go_enter Tryd.func48, Tryd.ntmps48
  go_wp2
  go_ret
  first
    | exact ⟨rfl, rfl⟩
    | exact ⟨by simp; omega, rfl⟩

theorem itm_hi (t p m : Int) (w : World) (hT : Last w) (h : 3 < t) :
    Calls Tryd.prog 48 #[.int .i64 t, .int .i64 p, .int .i64 m] w fun e w' => e = .returned (.bool false) ∧ w' = w := by
  obtain ⟨x1, x2, x3⟩ := hT.at_
  go_enter Tryd.func48, Tryd.ntmps48
  go_wp2
  go_ret
  first
    | exact ⟨rfl, rfl⟩
    | exact ⟨by simp; omega, rfl⟩

theorem itm_0p (p m : Int) (w : World) (hT : Last w) (_ : ¬ p = 0) (h2 : (p == 0) = false) :
    Calls Tryd.prog 48 #[.int .i64 0, .int .i64 p, .int .i64 m] w fun e w' => e = .returned (.bool false) ∧ w' = w := by
  obtain ⟨x1, x2, x3⟩ := hT.at_
  go_enter Tryd.func48, Tryd.ntmps48
  go_wp2
  go_ret
  first
    | exact ⟨rfl, rfl⟩
    | exact ⟨by simp; omega, rfl⟩

theorem itm_0m (p m : Int) (w : World) (hT : Last w) (h : p = 0) (_ : ¬ m = 0) (h3 : (m == 0) = false) :
    Calls Tryd.prog 48 #[.int .i64 0, .int .i64 p, .int .i64 m] w fun e w' => e = .returned (.bool false) ∧ w' = w := by
  obtain ⟨x1, x2, x3⟩ := hT.at_
  go_enter Tryd.func48, Tryd.ntmps48
  go_wp2
  go_ret
  first
    | exact ⟨rfl, rfl⟩
    | exact ⟨by simp; omega, rfl⟩

theorem itm_0 (p m : Int) (w : World) (hT : Last w) (h : p = 0) (h2 : m = 0) :
    Calls Tryd.prog 48 #[.int .i64 0, .int .i64 p, .int .i64 m] w fun e w' => e = .returned (.bool true) ∧ w' = w := by
  obtain ⟨x1, x2, x3⟩ := hT.at_
  go_enter Tryd.func48, Tryd.ntmps48
  go_wp2
  go_ret
  first
    | exact ⟨rfl, rfl⟩
    | exact ⟨by simp; omega, rfl⟩

theorem itm_1_a (p m : Int) (w : World) (hT : Last w) (h : p < 0) :
    Calls Tryd.prog 48 #[.int .i64 1, .int .i64 p, .int .i64 m] w fun e w' => e = .returned (.bool false) ∧ w' = w := by
  obtain ⟨x1, x2, x3⟩ := hT.at_
  go_enter Tryd.func48, Tryd.ntmps48
  go_wp2
  go_ret
  first
    | exact ⟨rfl, rfl⟩
    | exact ⟨by simp; omega, rfl⟩

theorem itm_1_b (p m : Int) (w : World) (hT : Last w) (h : 0 ≤ p) (h2 : 7 < p) :
    Calls Tryd.prog 48 #[.int .i64 1, .int .i64 p, .int .i64 m] w fun e w' => e = .returned (.bool false) ∧ w' = w := by
  obtain ⟨x1, x2, x3⟩ := hT.at_
  go_enter Tryd.func48, Tryd.ntmps48
  go_wp2
  go_ret
  first
    | exact ⟨rfl, rfl⟩
    | exact ⟨by simp; omega, rfl⟩

theorem itm_1_c (p m : Int) (w : World) (hT : Last w) (h : 0 ≤ p) (h2 : p ≤ 7) (h3 : m < 1) :
    Calls Tryd.prog 48 #[.int .i64 1, .int .i64 p, .int .i64 m] w fun e w' => e = .returned (.bool false) ∧ w' = w := by
  obtain ⟨x1, x2, x3⟩ := hT.at_
  go_enter Tryd.func48, Tryd.ntmps48
  go_wp2
  go_ret
  first
    | exact ⟨rfl, rfl⟩
    | exact ⟨by simp; omega, rfl⟩

theorem itm_1_d (p m : Int) (w : World) (hT : Last w) (h : 0 ≤ p) (h2 : p ≤ 7) (h3 : 1 ≤ m) (h4 : 255 < m) :
    Calls Tryd.prog 48 #[.int .i64 1, .int .i64 p, .int .i64 m] w fun e w' => e = .returned (.bool false) ∧ w' = w := by
  obtain ⟨x1, x2, x3⟩ := hT.at_
  go_enter Tryd.func48, Tryd.ntmps48
  go_wp2
  go_ret
  first
    | exact ⟨rfl, rfl⟩
    | exact ⟨by simp; omega, rfl⟩

theorem itm_1 (p m : Int) (w : World) (hT : Last w) (h : 0 ≤ p) (h2 : p ≤ 7) (h3 : 1 ≤ m) (h4 : m ≤ 255) :
    Calls Tryd.prog 48 #[.int .i64 1, .int .i64 p, .int .i64 m] w fun e w' => e = .returned (.bool true) ∧ w' = w := by
  obtain ⟨x1, x2, x3⟩ := hT.at_
  go_enter Tryd.func48, Tryd.ntmps48
  go_wp2
  go_ret
  first
    | exact ⟨rfl, rfl⟩
    | exact ⟨by simp; omega, rfl⟩

theorem itm_2_a (p m : Int) (w : World) (hT : Last w) (h : p < 0) :
    Calls Tryd.prog 48 #[.int .i64 2, .int .i64 p, .int .i64 m] w fun e w' => e = .returned (.bool false) ∧ w' = w := by
  obtain ⟨x1, x2, x3⟩ := hT.at_
  go_enter Tryd.func48, Tryd.ntmps48
  go_wp2
  go_ret
  first
    | exact ⟨rfl, rfl⟩
    | exact ⟨by simp; omega, rfl⟩

theorem itm_2_b (p m : Int) (w : World) (hT : Last w) (h : 0 ≤ p) (h2 : 47 < p) :
    Calls Tryd.prog 48 #[.int .i64 2, .int .i64 p, .int .i64 m] w fun e w' => e = .returned (.bool false) ∧ w' = w := by
  obtain ⟨x1, x2, x3⟩ := hT.at_
  go_enter Tryd.func48, Tryd.ntmps48
  go_wp2
  go_ret
  first
    | exact ⟨rfl, rfl⟩
    | exact ⟨by simp; omega, rfl⟩

theorem itm_2_c (p m : Int) (w : World) (hT : Last w) (h : 0 ≤ p) (h2 : p ≤ 47) (h3 : m < 1) :
    Calls Tryd.prog 48 #[.int .i64 2, .int .i64 p, .int .i64 m] w fun e w' => e = .returned (.bool false) ∧ w' = w := by
  obtain ⟨x1, x2, x3⟩ := hT.at_
  go_enter Tryd.func48, Tryd.ntmps48
  go_wp2
  go_ret
  first
    | exact ⟨rfl, rfl⟩
    | exact ⟨by simp; omega, rfl⟩

theorem itm_2_d (p m : Int) (w : World) (hT : Last w) (h : 0 ≤ p) (h2 : p ≤ 47) (h3 : 1 ≤ m) (h4 : 255 < m) :
    Calls Tryd.prog 48 #[.int .i64 2, .int .i64 p, .int .i64 m] w fun e w' => e = .returned (.bool false) ∧ w' = w := by
  obtain ⟨x1, x2, x3⟩ := hT.at_
  go_enter Tryd.func48, Tryd.ntmps48
  go_wp2
  go_ret
  first
    | exact ⟨rfl, rfl⟩
    | exact ⟨by simp; omega, rfl⟩

theorem itm_2 (p m : Int) (w : World) (hT : Last w) (h : 0 ≤ p) (h2 : p ≤ 47) (h3 : 1 ≤ m) (h4 : m ≤ 255) :
    Calls Tryd.prog 48 #[.int .i64 2, .int .i64 p, .int .i64 m] w fun e w' => e = .returned (.bool true) ∧ w' = w := by
  obtain ⟨x1, x2, x3⟩ := hT.at_
  go_enter Tryd.func48, Tryd.ntmps48
  go_wp2
  go_ret
  first
    | exact ⟨rfl, rfl⟩
    | exact ⟨by simp; omega, rfl⟩

theorem itm_3_a (p m : Int) (w : World) (hT : Last w) (h : p < 0) :
    Calls Tryd.prog 48 #[.int .i64 3, .int .i64 p, .int .i64 m] w fun e w' => e = .returned (.bool false) ∧ w' = w := by
  obtain ⟨x1, x2, x3⟩ := hT.at_
  go_enter Tryd.func48, Tryd.ntmps48
  go_wp2
  go_ret
  first
    | exact ⟨rfl, rfl⟩
    | exact ⟨by simp; omega, rfl⟩

theorem itm_3_b (p m : Int) (w : World) (hT : Last w) (h : 0 ≤ p) (h2 : 39 < p) :
    Calls Tryd.prog 48 #[.int .i64 3, .int .i64 p, .int .i64 m] w fun e w' => e = .returned (.bool false) ∧ w' = w := by
  obtain ⟨x1, x2, x3⟩ := hT.at_
  go_enter Tryd.func48, Tryd.ntmps48
  go_wp2
  go_ret
  first
    | exact ⟨rfl, rfl⟩
    | exact ⟨by simp; omega, rfl⟩

theorem itm_3_c (p m : Int) (w : World) (hT : Last w) (h : 0 ≤ p) (h2 : p ≤ 39) (h3 : m < 1) :
    Calls Tryd.prog 48 #[.int .i64 3, .int .i64 p, .int .i64 m] w fun e w' => e = .returned (.bool false) ∧ w' = w := by
  obtain ⟨x1, x2, x3⟩ := hT.at_
  go_enter Tryd.func48, Tryd.ntmps48
  go_wp2
  go_ret
  first
    | exact ⟨rfl, rfl⟩
    | exact ⟨by simp; omega, rfl⟩

theorem itm_3_d (p m : Int) (w : World) (hT : Last w) (h : 0 ≤ p) (h2 : p ≤ 39) (h3 : 1 ≤ m) (h4 : 255 < m) :
    Calls Tryd.prog 48 #[.int .i64 3, .int .i64 p, .int .i64 m] w fun e w' => e = .returned (.bool false) ∧ w' = w := by
  obtain ⟨x1, x2, x3⟩ := hT.at_
  go_enter Tryd.func48, Tryd.ntmps48
  go_wp2
  go_ret
  first
    | exact ⟨rfl, rfl⟩
    | exact ⟨by simp; omega, rfl⟩

theorem itm_3 (p m : Int) (w : World) (hT : Last w) (h : 0 ≤ p) (h2 : p ≤ 39) (h3 : 1 ≤ m) (h4 : m ≤ 255) :
    Calls Tryd.prog 48 #[.int .i64 3, .int .i64 p, .int .i64 m] w fun e w' => e = .returned (.bool true) ∧ w' = w := by
  obtain ⟨x1, x2, x3⟩ := hT.at_
  go_enter Tryd.func48, Tryd.ntmps48
  go_wp2
  go_ret
  first
    | exact ⟨rfl, rfl⟩
    | exact ⟨by simp; omega, rfl⟩

theorem isTurn_any (t p m : Int) (w : World) (hT : Last w) :
    Calls Tryd.prog 48 #[.int .i64 t, .int .i64 p, .int .i64 m] w fun e w' => e = .returned (.bool (turnB t p m)) ∧ w' = w := by
  by_cases a : t < 0
  · have e : turnB t p m = false := by unfold turnB inB; simp; omega
    rw [e]; exact itm_lo t p m w hT a
  by_cases b : 3 < t
  · have e : turnB t p m = false := by unfold turnB inB; simp; omega
    rw [e]; exact itm_hi t p m w hT b
  have hc : t = 0 ∨ t = 1 ∨ t = 2 ∨ t = 3 := by omega
  rcases hc with rfl | rfl | rfl | rfl
  · by_cases c : p = 0
    · by_cases d : m = 0
      · have e : turnB 0 p m = true := by unfold turnB inB; simp [c, d]
        rw [e]; exact itm_0 p m w hT c d
      · have e : turnB 0 p m = false := by unfold turnB inB; simp [d]
        rw [e]; exact itm_0m p m w hT c d (by simpa using d)
    · have e : turnB 0 p m = false := by unfold turnB inB; simp [c]
      rw [e]; exact itm_0p p m w hT c (by simpa using c)
  · have hl : turnB 1 p m = (decide (0 ≤ p ∧ p ≤ 7) && decide (1 ≤ m ∧ m ≤ 255)) := by unfold turnB inB lastP; simp
    by_cases c : p < 0
    · have e : turnB 1 p m = false := by rw [hl]; simp; omega
      rw [e]; exact itm_1_a p m w hT c
    by_cases d : 7 < p
    · have e : turnB 1 p m = false := by rw [hl]; simp; omega
      rw [e]; exact itm_1_b p m w hT (by omega) d
    by_cases f : m < 1
    · have e : turnB 1 p m = false := by rw [hl]; simp; omega
      rw [e]; exact itm_1_c p m w hT (by omega) (by omega) f
    by_cases g : 255 < m
    · have e : turnB 1 p m = false := by rw [hl]; simp; omega
      rw [e]; exact itm_1_d p m w hT (by omega) (by omega) (by omega) g
    · have e : turnB 1 p m = true := by rw [hl]; simp; omega
      rw [e]; exact itm_1 p m w hT (by omega) (by omega) (by omega) (by omega)
  · have hl : turnB 2 p m = (decide (0 ≤ p ∧ p ≤ 47) && decide (1 ≤ m ∧ m ≤ 255)) := by unfold turnB inB lastP; simp
    by_cases c : p < 0
    · have e : turnB 2 p m = false := by rw [hl]; simp; omega
      rw [e]; exact itm_2_a p m w hT c
    by_cases d : 47 < p
    · have e : turnB 2 p m = false := by rw [hl]; simp; omega
      rw [e]; exact itm_2_b p m w hT (by omega) d
    by_cases f : m < 1
    · have e : turnB 2 p m = false := by rw [hl]; simp; omega
      rw [e]; exact itm_2_c p m w hT (by omega) (by omega) f
    by_cases g : 255 < m
    · have e : turnB 2 p m = false := by rw [hl]; simp; omega
      rw [e]; exact itm_2_d p m w hT (by omega) (by omega) (by omega) g
    · have e : turnB 2 p m = true := by rw [hl]; simp; omega
      rw [e]; exact itm_2 p m w hT (by omega) (by omega) (by omega) (by omega)
  · have hl : turnB 3 p m = (decide (0 ≤ p ∧ p ≤ 39) && decide (1 ≤ m ∧ m ≤ 255)) := by unfold turnB inB lastP; simp
    by_cases c : p < 0
    · have e : turnB 3 p m = false := by rw [hl]; simp; omega
      rw [e]; exact itm_3_a p m w hT c
    by_cases d : 39 < p
    · have e : turnB 3 p m = false := by rw [hl]; simp; omega
      rw [e]; exact itm_3_b p m w hT (by omega) d
    by_cases f : m < 1
    · have e : turnB 3 p m = false := by rw [hl]; simp; omega
      rw [e]; exact itm_3_c p m w hT (by omega) (by omega) f
    by_cases g : 255 < m
    · have e : turnB 3 p m = false := by rw [hl]; simp; omega
      rw [e]; exact itm_3_d p m w hT (by omega) (by omega) (by omega) g
    · have e : turnB 3 p m = true := by rw [hl]; simp; omega
      rw [e]; exact itm_3 p m w hT (by omega) (by omega) (by omega) (by omega)

set_option maxHeartbeats 2000000 in
theorem shi_s0 (a b c d t p m : Int) (w : World)  (s0 : scB a = false) :
    Calls Tryd.prog 28 #[.agg #[.int .i64 a, .int .i64 b, .int .i64 c, .int .i64 d, .int .i64 t, .int .i64 p, .int .i64 m]] w fun e w' => e = .returned (.int .i64 3) ∧ Below w.heap.size w w' := by
  have B0 := ab (ab (Below.refl _ w) (.cells #[.int .i64 a, .int .i64 b, .int .i64 c, .int .i64 d, .int .i64 t, .int .i64 p, .int .i64 m] 48)) (.cells #[.int .i64 a, .int .i64 b, .int .i64 c, .int .i64 d] 2)
  go_enter Tryd.func28, Tryd.ntmps28
  go_wp2
  go_loopw [15] (fun i wr => ∃ k : Nat, k ≤ 0 ∧ i = .int .i64 k ∧ wr = (w.alloc (.cells #[.int .i64 a, .int .i64 b, .int .i64 c, .int .i64 d, .int .i64 t, .int .i64 p, .int .i64 m] 48)).alloc (.cells #[.int .i64 a, .int .i64 b, .int .i64 c, .int .i64 d] 2)) (fun i _ => 0 - (intOf i).toNat)
  case atStart => exact ⟨0, Nat.zero_le _, rfl, rfl⟩
  case round =>
    obtain ⟨k, hk, rfl, rfl⟩ := hrel
    have hc : k = 0 := by omega
    rcases hc with rfl
    · go_wp2_with fail
      refine (isSecret_is a false _ s0).mono ?_
      rintro e w' ⟨rfl, rfl⟩
      go_wp2
      go_ret
      exact ⟨rfl, B0⟩

set_option maxHeartbeats 2000000 in
theorem shi_s1 (a b c d t p m : Int) (w : World) (s0 : scB a = true) (s1 : scB b = false) :
    Calls Tryd.prog 28 #[.agg #[.int .i64 a, .int .i64 b, .int .i64 c, .int .i64 d, .int .i64 t, .int .i64 p, .int .i64 m]] w fun e w' => e = .returned (.int .i64 3) ∧ Below w.heap.size w w' := by
  have B0 := ab (ab (Below.refl _ w) (.cells #[.int .i64 a, .int .i64 b, .int .i64 c, .int .i64 d, .int .i64 t, .int .i64 p, .int .i64 m] 48)) (.cells #[.int .i64 a, .int .i64 b, .int .i64 c, .int .i64 d] 2)
  go_enter Tryd.func28, Tryd.ntmps28
  go_wp2
  go_loopw [15] (fun i wr => ∃ k : Nat, k ≤ 1 ∧ i = .int .i64 k ∧ wr = (w.alloc (.cells #[.int .i64 a, .int .i64 b, .int .i64 c, .int .i64 d, .int .i64 t, .int .i64 p, .int .i64 m] 48)).alloc (.cells #[.int .i64 a, .int .i64 b, .int .i64 c, .int .i64 d] 2)) (fun i _ => 1 - (intOf i).toNat)
  case atStart => exact ⟨0, Nat.zero_le _, rfl, rfl⟩
  case round =>
    obtain ⟨k, hk, rfl, rfl⟩ := hrel
    have hc : k = 0 ∨ k = 1 := by omega
    rcases hc with rfl | rfl
    · go_wp2_with fail
      refine (isSecret_is a true _ s0).mono ?_
      rintro e w' ⟨rfl, rfl⟩
      go_wp2
      exact ⟨⟨1, by omega, by go_num, by first | rfl | trivial⟩, by simp [intOf]⟩
    · go_wp2_with fail
      refine (isSecret_is b false _ s1).mono ?_
      rintro e w' ⟨rfl, rfl⟩
      go_wp2
      go_ret
      exact ⟨rfl, B0⟩

set_option maxHeartbeats 2000000 in
theorem shi_s2 (a b c d t p m : Int) (w : World) (s0 : scB a = true) (s1 : scB b = true) (s2 : scB c = false) :
    Calls Tryd.prog 28 #[.agg #[.int .i64 a, .int .i64 b, .int .i64 c, .int .i64 d, .int .i64 t, .int .i64 p, .int .i64 m]] w fun e w' => e = .returned (.int .i64 3) ∧ Below w.heap.size w w' := by
  have B0 := ab (ab (Below.refl _ w) (.cells #[.int .i64 a, .int .i64 b, .int .i64 c, .int .i64 d, .int .i64 t, .int .i64 p, .int .i64 m] 48)) (.cells #[.int .i64 a, .int .i64 b, .int .i64 c, .int .i64 d] 2)
  go_enter Tryd.func28, Tryd.ntmps28
  go_wp2
  go_loopw [15] (fun i wr => ∃ k : Nat, k ≤ 2 ∧ i = .int .i64 k ∧ wr = (w.alloc (.cells #[.int .i64 a, .int .i64 b, .int .i64 c, .int .i64 d, .int .i64 t, .int .i64 p, .int .i64 m] 48)).alloc (.cells #[.int .i64 a, .int .i64 b, .int .i64 c, .int .i64 d] 2)) (fun i _ => 2 - (intOf i).toNat)
  case atStart => exact ⟨0, Nat.zero_le _, rfl, rfl⟩
  case round =>
    obtain ⟨k, hk, rfl, rfl⟩ := hrel
    have hc : k = 0 ∨ k = 1 ∨ k = 2 := by omega
    rcases hc with rfl | rfl | rfl
    · go_wp2_with fail
      refine (isSecret_is a true _ s0).mono ?_
      rintro e w' ⟨rfl, rfl⟩
      go_wp2
      exact ⟨⟨1, by omega, by go_num, by first | rfl | trivial⟩, by simp [intOf]⟩
    · go_wp2_with fail
      refine (isSecret_is b true _ s1).mono ?_
      rintro e w' ⟨rfl, rfl⟩
      go_wp2
      exact ⟨⟨2, by omega, by go_num, by first | rfl | trivial⟩, by simp [intOf]⟩
    · go_wp2_with fail
      refine (isSecret_is c false _ s2).mono ?_
      rintro e w' ⟨rfl, rfl⟩
      go_wp2
      go_ret
      exact ⟨rfl, B0⟩

set_option maxHeartbeats 2000000 in
theorem shi_s3 (a b c d t p m : Int) (w : World) (s0 : scB a = true) (s1 : scB b = true) (s2 : scB c = true) (s3 : scB d = false) :
    Calls Tryd.prog 28 #[.agg #[.int .i64 a, .int .i64 b, .int .i64 c, .int .i64 d, .int .i64 t, .int .i64 p, .int .i64 m]] w fun e w' => e = .returned (.int .i64 3) ∧ Below w.heap.size w w' := by
  have B0 := ab (ab (Below.refl _ w) (.cells #[.int .i64 a, .int .i64 b, .int .i64 c, .int .i64 d, .int .i64 t, .int .i64 p, .int .i64 m] 48)) (.cells #[.int .i64 a, .int .i64 b, .int .i64 c, .int .i64 d] 2)
  go_enter Tryd.func28, Tryd.ntmps28
  go_wp2
  go_loopw [15] (fun i wr => ∃ k : Nat, k ≤ 3 ∧ i = .int .i64 k ∧ wr = (w.alloc (.cells #[.int .i64 a, .int .i64 b, .int .i64 c, .int .i64 d, .int .i64 t, .int .i64 p, .int .i64 m] 48)).alloc (.cells #[.int .i64 a, .int .i64 b, .int .i64 c, .int .i64 d] 2)) (fun i _ => 3 - (intOf i).toNat)
  case atStart => exact ⟨0, Nat.zero_le _, rfl, rfl⟩
  case round =>
    obtain ⟨k, hk, rfl, rfl⟩ := hrel
    have hc : k = 0 ∨ k = 1 ∨ k = 2 ∨ k = 3 := by omega
    rcases hc with rfl | rfl | rfl | rfl
    · go_wp2_with fail
      refine (isSecret_is a true _ s0).mono ?_
      rintro e w' ⟨rfl, rfl⟩
      go_wp2
      exact ⟨⟨1, by omega, by go_num, by first | rfl | trivial⟩, by simp [intOf]⟩
    · go_wp2_with fail
      refine (isSecret_is b true _ s1).mono ?_
      rintro e w' ⟨rfl, rfl⟩
      go_wp2
      exact ⟨⟨2, by omega, by go_num, by first | rfl | trivial⟩, by simp [intOf]⟩
    · go_wp2_with fail
      refine (isSecret_is c true _ s2).mono ?_
      rintro e w' ⟨rfl, rfl⟩
      go_wp2
      exact ⟨⟨3, by omega, by go_num, by first | rfl | trivial⟩, by simp [intOf]⟩
    · go_wp2_with fail
      refine (isSecret_is d false _ s3).mono ?_
      rintro e w' ⟨rfl, rfl⟩
      go_wp2
      go_ret
      exact ⟨rfl, B0⟩

set_option maxHeartbeats 2000000 in
theorem shi_t (a b c d t p m : Int) (w : World) (hT : Last w) (s0 : scB a = true) (s1 : scB b = true) (s2 : scB c = true) (s3 : scB d = true) (ht : turnB t p m = false) :
    Calls Tryd.prog 28 #[.agg #[.int .i64 a, .int .i64 b, .int .i64 c, .int .i64 d, .int .i64 t, .int .i64 p, .int .i64 m]] w fun e w' => e = .returned (.int .i64 3) ∧ Below w.heap.size w w' := by
  have B0 := ab (ab (Below.refl _ w) (.cells #[.int .i64 a, .int .i64 b, .int .i64 c, .int .i64 d, .int .i64 t, .int .i64 p, .int .i64 m] 48)) (.cells #[.int .i64 a, .int .i64 b, .int .i64 c, .int .i64 d] 2)
  have ct := isTurn_any t p m _ (hT.keep B0)
  rw [ht] at ct
  go_enter Tryd.func28, Tryd.ntmps28
  go_wp2
  go_loopw [15] (fun i wr => ∃ k : Nat, k ≤ 4 ∧ i = .int .i64 k ∧ wr = (w.alloc (.cells #[.int .i64 a, .int .i64 b, .int .i64 c, .int .i64 d, .int .i64 t, .int .i64 p, .int .i64 m] 48)).alloc (.cells #[.int .i64 a, .int .i64 b, .int .i64 c, .int .i64 d] 2)) (fun i _ => 4 - (intOf i).toNat)
  case atStart => exact ⟨0, Nat.zero_le _, rfl, rfl⟩
  case round =>
    obtain ⟨k, hk, rfl, rfl⟩ := hrel
    have hc : k = 0 ∨ k = 1 ∨ k = 2 ∨ k = 3 ∨ k = 4 := by omega
    rcases hc with rfl | rfl | rfl | rfl | rfl
    · go_wp2_with fail
      refine (isSecret_is a true _ s0).mono ?_
      rintro e w' ⟨rfl, rfl⟩
      go_wp2
      exact ⟨⟨1, by omega, by go_num, by first | rfl | trivial⟩, by simp [intOf]⟩
    · go_wp2_with fail
      refine (isSecret_is b true _ s1).mono ?_
      rintro e w' ⟨rfl, rfl⟩
      go_wp2
      exact ⟨⟨2, by omega, by go_num, by first | rfl | trivial⟩, by simp [intOf]⟩
    · go_wp2_with fail
      refine (isSecret_is c true _ s2).mono ?_
      rintro e w' ⟨rfl, rfl⟩
      go_wp2
      exact ⟨⟨3, by omega, by go_num, by first | rfl | trivial⟩, by simp [intOf]⟩
    · go_wp2_with fail
      refine (isSecret_is d true _ s3).mono ?_
      rintro e w' ⟨rfl, rfl⟩
      go_wp2
      exact ⟨⟨4, by omega, by go_num, by first | rfl | trivial⟩, by simp [intOf]⟩
    · go_wp2_with fail
      refine ct.mono ?_
      rintro e w' ⟨rfl, rfl⟩
      go_wp2
      go_ret
      exact ⟨rfl, B0⟩

set_option maxHeartbeats 2000000 in
theorem shi_ok (a b c d t p m : Int) (w : World) (hT : Last w) (s0 : scB a = true) (s1 : scB b = true) (s2 : scB c = true) (s3 : scB d = true) (ht : turnB t p m = true) :
    Calls Tryd.prog 28 #[.agg #[.int .i64 a, .int .i64 b, .int .i64 c, .int .i64 d, .int .i64 t, .int .i64 p, .int .i64 m]] w fun e w' => e = .returned (.int .i64 0) ∧ Below w.heap.size w w' := by
  have B0 := ab (ab (Below.refl _ w) (.cells #[.int .i64 a, .int .i64 b, .int .i64 c, .int .i64 d, .int .i64 t, .int .i64 p, .int .i64 m] 48)) (.cells #[.int .i64 a, .int .i64 b, .int .i64 c, .int .i64 d] 2)
  have ct := isTurn_any t p m _ (hT.keep B0)
  rw [ht] at ct
  go_enter Tryd.func28, Tryd.ntmps28
  go_wp2
  go_loopw [15] (fun i wr => ∃ k : Nat, k ≤ 4 ∧ i = .int .i64 k ∧ wr = (w.alloc (.cells #[.int .i64 a, .int .i64 b, .int .i64 c, .int .i64 d, .int .i64 t, .int .i64 p, .int .i64 m] 48)).alloc (.cells #[.int .i64 a, .int .i64 b, .int .i64 c, .int .i64 d] 2)) (fun i _ => 4 - (intOf i).toNat)
  case atStart => exact ⟨0, Nat.zero_le _, rfl, rfl⟩
  case round =>
    obtain ⟨k, hk, rfl, rfl⟩ := hrel
    have hc : k = 0 ∨ k = 1 ∨ k = 2 ∨ k = 3 ∨ k = 4 := by omega
    rcases hc with rfl | rfl | rfl | rfl | rfl
    · go_wp2_with fail
      refine (isSecret_is a true _ s0).mono ?_
      rintro e w' ⟨rfl, rfl⟩
      go_wp2
      exact ⟨⟨1, by omega, by go_num, by first | rfl | trivial⟩, by simp [intOf]⟩
    · go_wp2_with fail
      refine (isSecret_is b true _ s1).mono ?_
      rintro e w' ⟨rfl, rfl⟩
      go_wp2
      exact ⟨⟨2, by omega, by go_num, by first | rfl | trivial⟩, by simp [intOf]⟩
    · go_wp2_with fail
      refine (isSecret_is c true _ s2).mono ?_
      rintro e w' ⟨rfl, rfl⟩
      go_wp2
      exact ⟨⟨3, by omega, by go_num, by first | rfl | trivial⟩, by simp [intOf]⟩
    · go_wp2_with fail
      refine (isSecret_is d true _ s3).mono ?_
      rintro e w' ⟨rfl, rfl⟩
      go_wp2
      exact ⟨⟨4, by omega, by go_num, by first | rfl | trivial⟩, by simp [intOf]⟩
    · go_wp2_with fail
      refine ct.mono ?_
      rintro e w' ⟨rfl, rfl⟩
      go_wp2
      go_ret
      exact ⟨rfl, B0⟩

theorem specShakeFault_any (a b c d t p m : Int) (w : World) :
    Calls Tryd.prog 26 #[.agg #[.int .i64 a, .int .i64 b, .int .i64 c, .int .i64 d, .int .i64 t, .int .i64 p, .int .i64 m]] w fun e w' => e = .returned (.int .i64 (shakeC a b c d t p m)) ∧ Below w.heap.size w w' := by
  by_cases s0 : scB a = true
  rotate_left
  · have e : shakeC a b c d t p m = 3 := by simp [shakeC, s0]
    rw [e]; exact shm_s0 a b c d t p m w  (Bool.eq_false_iff.2 s0)
  by_cases s1 : scB b = true
  rotate_left
  · have e : shakeC a b c d t p m = 3 := by simp [shakeC, s1]
    rw [e]; exact shm_s1 a b c d t p m w s0 (Bool.eq_false_iff.2 s1)
  by_cases s2 : scB c = true
  rotate_left
  · have e : shakeC a b c d t p m = 3 := by simp [shakeC, s2]
    rw [e]; exact shm_s2 a b c d t p m w s0 s1 (Bool.eq_false_iff.2 s2)
  by_cases s3 : scB d = true
  rotate_left
  · have e : shakeC a b c d t p m = 3 := by simp [shakeC, s3]
    rw [e]; exact shm_s3 a b c d t p m w s0 s1 s2 (Bool.eq_false_iff.2 s3)
  by_cases ht : inB t 0 3 = true
  rotate_left
  · have e : shakeC a b c d t p m = 3 := by simp [shakeC, turnB, ht]
    rw [e]; exact shm_t a b c d t p m w s0 s1 s2 s3 (Bool.eq_false_iff.2 ht)
  have hc : t = 0 ∨ t = 1 ∨ t = 2 ∨ t = 3 := by have : 0 ≤ t ∧ t ≤ 3 := by simpa [inB] using ht
                                                omega
  rcases hc with rfl | rfl | rfl | rfl
  · by_cases hp : inB p 0 0 = true
    · have hp0 : p = 0 := by have : 0 ≤ p ∧ p ≤ 0 := by simpa [inB] using hp
                             omega
      by_cases hm : m = 0
      · have e : shakeC a b c d 0 p m = 0 := by simp [shakeC, turnB, inB, s0, s1, s2, s3, hp0, hm]
        rw [e]; exact shm_0_ok a b c d p m w s0 s1 s2 s3 hp (by simp [hm])
      · have e : shakeC a b c d 0 p m = 3 := by simp [shakeC, turnB, hm]
        rw [e]; exact shm_0_m a b c d p m w s0 s1 s2 s3 hp (by simpa using hm)
    · have hp0 : ¬ p = 0 := by intro h; subst h; exact hp (by decide)
      have e : shakeC a b c d 0 p m = 3 := by simp [shakeC, turnB, hp0]
      rw [e]; exact shm_0_p a b c d p m w s0 s1 s2 s3 (Bool.eq_false_iff.2 hp)
  · by_cases hp : inB p 0 7 = true
    · by_cases hm : inB m 1 255 = true
      · have e : shakeC a b c d 1 p m = 0 := by simp [shakeC, turnB, lastP, s0, s1, s2, s3, hp, hm, ht]
        rw [e]; exact shm_1_ok a b c d p m w s0 s1 s2 s3 hp hm
      · have e : shakeC a b c d 1 p m = 3 := by simp [shakeC, turnB, lastP, hm]
        rw [e]; exact shm_1_m a b c d p m w s0 s1 s2 s3 hp (Bool.eq_false_iff.2 hm)
    · have e : shakeC a b c d 1 p m = 3 := by simp [shakeC, turnB, lastP, hp]
      rw [e]; exact shm_1_p a b c d p m w s0 s1 s2 s3 (Bool.eq_false_iff.2 hp)
  · by_cases hp : inB p 0 47 = true
    · by_cases hm : inB m 1 255 = true
      · have e : shakeC a b c d 2 p m = 0 := by simp [shakeC, turnB, lastP, s0, s1, s2, s3, hp, hm, ht]
        rw [e]; exact shm_2_ok a b c d p m w s0 s1 s2 s3 hp hm
      · have e : shakeC a b c d 2 p m = 3 := by simp [shakeC, turnB, lastP, hm]
        rw [e]; exact shm_2_m a b c d p m w s0 s1 s2 s3 hp (Bool.eq_false_iff.2 hm)
    · have e : shakeC a b c d 2 p m = 3 := by simp [shakeC, turnB, lastP, hp]
      rw [e]; exact shm_2_p a b c d p m w s0 s1 s2 s3 (Bool.eq_false_iff.2 hp)
  · by_cases hp : inB p 0 39 = true
    · by_cases hm : inB m 1 255 = true
      · have e : shakeC a b c d 3 p m = 0 := by simp [shakeC, turnB, lastP, s0, s1, s2, s3, hp, hm, ht]
        rw [e]; exact shm_3_ok a b c d p m w s0 s1 s2 s3 hp hm
      · have e : shakeC a b c d 3 p m = 3 := by simp [shakeC, turnB, lastP, hm]
        rw [e]; exact shm_3_m a b c d p m w s0 s1 s2 s3 hp (Bool.eq_false_iff.2 hm)
    · have e : shakeC a b c d 3 p m = 3 := by simp [shakeC, turnB, lastP, hp]
      rw [e]; exact shm_3_p a b c d p m w s0 s1 s2 s3 (Bool.eq_false_iff.2 hp)

theorem implShakeFault_any (a b c d t p m : Int) (w : World) (hT : Last w) :
    Calls Tryd.prog 28 #[.agg #[.int .i64 a, .int .i64 b, .int .i64 c, .int .i64 d, .int .i64 t, .int .i64 p, .int .i64 m]] w fun e w' => e = .returned (.int .i64 (shakeC a b c d t p m)) ∧ Below w.heap.size w w' := by
  by_cases s0 : scB a = true
  rotate_left
  · have e : shakeC a b c d t p m = 3 := by simp [shakeC, s0]
    rw [e]; exact shi_s0 a b c d t p m w  (Bool.eq_false_iff.2 s0)
  by_cases s1 : scB b = true
  rotate_left
  · have e : shakeC a b c d t p m = 3 := by simp [shakeC, s1]
    rw [e]; exact shi_s1 a b c d t p m w s0 (Bool.eq_false_iff.2 s1)
  by_cases s2 : scB c = true
  rotate_left
  · have e : shakeC a b c d t p m = 3 := by simp [shakeC, s2]
    rw [e]; exact shi_s2 a b c d t p m w s0 s1 (Bool.eq_false_iff.2 s2)
  by_cases s3 : scB d = true
  rotate_left
  · have e : shakeC a b c d t p m = 3 := by simp [shakeC, s3]
    rw [e]; exact shi_s3 a b c d t p m w s0 s1 s2 (Bool.eq_false_iff.2 s3)
  by_cases ht : turnB t p m = true
  · have e : shakeC a b c d t p m = 0 := by simp [shakeC, s0, s1, s2, s3, ht]
    rw [e]; exact shi_ok a b c d t p m w hT s0 s1 s2 s3 ht
  · have e : shakeC a b c d t p m = 3 := by simp [shakeC, ht]
    rw [e]; exact shi_t a b c d t p m w hT s0 s1 s2 s3 (Bool.eq_false_iff.2 ht)

end Go.Proofs.YtknkadmngdaakaaDoor
