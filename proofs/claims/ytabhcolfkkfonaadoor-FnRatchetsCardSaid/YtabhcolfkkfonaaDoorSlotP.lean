/- The slot of a wire, of the model and of the program; the walk of its law. -/
import Derived.Test.YtabhcolfkkfonaaDoorBase
namespace Go.Proofs.YtabhcolfkkfonaaDoor
open Go.RowKit

/-- the slot that a wire of the right size tells, if it is one -/
def slotC (n : Nat) (l : List Int) : Int := if n = 64 then (if hi (l.take 4) ≤ 400 then 0 else 3) else 2
def slotV (n : Nat) (l : List Int) : Int := if n = 64 then (if hi (l.take 4) ≤ 400 then hi (l.take 4) else 0) else 0

theorem hi4_bd {l : List Int} (h : By l) : 0 ≤ hi (l.take 4) ∧ hi (l.take 4) ≤ 281474976710656 := by
  have := hi_take_bd l h 4 (by omega)
  omega

theorem isSlot_any (n : Int) (w : World) :
    Calls Tryd.prog 30 #[.int .i64 n] w fun e w' => e = .returned (.bool (inB n 0 400)) ∧ w = w' := by
  by_cases h0 : 0 ≤ n
  · by_cases h1 : n ≤ 400
    · have e : inB n 0 400 = true := by simp [inB, h0, h1]
      rw [e]
      go_enter Tryd.func30, Tryd.ntmps30
      go_wp2
      go_ret
      exact ⟨by simp, rfl⟩
    · have e : inB n 0 400 = false := by simp [inB, h1]
      rw [e]
      go_enter Tryd.func30, Tryd.ntmps30
      go_wp2
      go_ret
      exact ⟨by simp, rfl⟩
  · have e : inB n 0 400 = false := by simp [inB, h0]
    rw [e]
    go_enter Tryd.func30, Tryd.ntmps30
    go_wp2
    go_ret
    exact ⟨rfl, rfl⟩

end Go.Proofs.YtabhcolfkkfonaaDoor
