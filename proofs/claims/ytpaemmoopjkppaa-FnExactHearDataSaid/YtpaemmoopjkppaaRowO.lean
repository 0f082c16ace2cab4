import Derived.Test.YtpaemmoopjkppaaSymB
import Derived.Lib.SmallJoins
/- A law's argument that is a row of bytes, opened. -/
namespace Go.Proofs.Ytpaemmoopjkppaa
open Go.ChangeShapes Go.WideShapes Go.ChangeAt Go.RowKit

theorem rowOpen {H : Type} {enc : TypeId × Value → H} {W : World} {n : Nat} {v : Value} {y : DataW H × List MemPlace} (hf : DataW.trod enc Try.prog W 0 (fun _ => true) true n 23 [v] = some y) :
    ∃ a len cap zs, v = .slice a len cap ∧ IsRow .u8 W a len cap zs := by
  rcases open_ints Try.underlying23 Try.underlying5 (by kernel_rfl) hf with ⟨hcs, _⟩ | ⟨x, l, c, zs, hcs, _, hl, hm, hz, _, hcell, hwz⟩
  · simp at hcs
    exact ⟨none, 0, 0, [], hcs, .inl ⟨rfl, rfl, rfl, rfl⟩⟩
  · simp at hcs
    exact ⟨some x, l, c, zs, hcs, .inr ⟨_, rfl, hl, hm, by simpa using hz, hcell, hwz⟩⟩
theorem IsRow.small {W : World} {a : Option Addr} {n c : Nat} {z : List Int} (h : IsRow .u8 W a n c z) : n ≤ 9223372036854775807 := by
  rcases h with ⟨_, hn, _, _⟩ | ⟨_, _, h1, h2, _⟩
  · omega
  · unfold maxLen at h2; omega
theorem IsRow.capz {W : World} {a : Option Addr} {n c : Nat} {z : List Int} (h : IsRow .u8 W a n c z) : a = none → c = 0 := fun ha => by
  rcases h with ⟨_, _, hc, _⟩ | ⟨_, h1, _⟩
  · exact hc
  · rw [ha] at h1; cases h1
end Go.Proofs.Ytpaemmoopjkppaa
