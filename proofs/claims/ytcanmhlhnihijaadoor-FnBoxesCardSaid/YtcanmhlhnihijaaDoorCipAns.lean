/- What chapter 3 asks of its arguments, of the model. -/
import Derived.Test.YtcanmhlhnihijaaDoorSealC
namespace Go.Proofs.YtcanmhlhnihijaaDoor
open Go.RowKit

/-- what chapter 3 says of a key, a counter, a nonce and a size -/
def askOk (n1 : Nat) (k : Int) (n2 : Nat) : Bool := decide (n1 = 32) && decide (n2 = 12) && inB k 0 1000000
def askCode (n1 : Nat) (k : Int) (n2 : Nat) (s : Int) : Int := if askOk n1 k n2 = true then (if s ≤ 1000 then 0 else 2) else 3

set_option maxHeartbeats 1000000 in
theorem l3Asked_any (A : Option Addr) (n1 c1 : Nat) (k : Int) (A2 : Option Addr) (n2 c2 : Nat) (s : Int) (w : World) :
    Calls Tryd.prog 41 #[.slice A n1 c1, .int .i64 k, .slice A2 n2 c2, .int .i64 s] w fun e w' => e = .returned (.int .i64 (askCode n1 k n2 s)) ∧ w' = w := by
  by_cases h1 : n1 = 32
  · by_cases h2 : n2 = 12
    · subst h1 h2
      have hin := In_any k 0 1000000 w
      have e : askCode 32 k 12 s = if inB k 0 1000000 = true then (if s ≤ 1000 then 0 else 2) else 3 := by simp [askCode, askOk]
      rw [e]
      clear e
      by_cases h3 : inB k 0 1000000 = true
      · rw [h3] at hin
        rw [if_pos h3]
        clear h3
        by_cases h4 : s ≤ 1000
        · rw [if_pos h4]
          go_enter Tryd.func41, Tryd.ntmps41
          go_wp2_with fail
          refine hin.mono ?_
          rintro e w' ⟨rfl, rfl⟩
          go_wp2
          go_ret
          exact ⟨rfl, rfl⟩
        · rw [if_neg h4]
          go_enter Tryd.func41, Tryd.ntmps41
          go_wp2_with fail
          refine hin.mono ?_
          rintro e w' ⟨rfl, rfl⟩
          go_wp2
          go_ret
          exact ⟨rfl, rfl⟩
      · rw [Bool.eq_false_iff.2 h3] at hin
        rw [if_neg h3]
        clear h3
        go_enter Tryd.func41, Tryd.ntmps41
        go_wp2_with fail
        refine hin.mono ?_
        rintro e w' ⟨rfl, rfl⟩
        go_wp2
        go_ret
        exact ⟨rfl, rfl⟩
    · have e : askCode n1 k n2 s = 3 := by simp [askCode, askOk, h2]
      have hb : ((n2 : Int) != 12) = true := by rw [bne_iff_ne]; omega
      rw [e]
      subst h1
      clear h2 e
      go_enter Tryd.func41, Tryd.ntmps41
      go_wp2
      go_ret
      exact ⟨rfl, rfl⟩
  · have e : askCode n1 k n2 s = 3 := by simp [askCode, askOk, h1]
    have hb : ((n1 : Int) != 32) = true := by rw [bne_iff_ne]; omega
    rw [e]
    clear h1 e
    go_enter Tryd.func41, Tryd.ntmps41
    go_wp2
    go_ret
    exact ⟨rfl, rfl⟩
end Go.Proofs.YtcanmhlhnihijaaDoor
