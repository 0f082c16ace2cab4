/- Words of the program: read of bytes, the lowest one first, and laid in bytes. -/
import Derived.Test.YtjpnacgdefgalaaJoinLow
import Derived.Test.YtjpnacgdefgalaaShaC
import Derived.Test.YtjpnacgdefgalaaBase
namespace Go.Proofs.Ytjpnacgdefgalaa
open Go.RowKit Go.Shelf

attribute [local go_sem] Oper.semAt_some

theorem or_byte_w (a x : Int) (ha0 : 0 ≤ a) (ha1 : a < 16777216) (hx0 : 0 ≤ x) (hx1 : x < 256) : bits BinOp.or IntKind.u32 (a * 256) x = a * 256 + x := by
  obtain ⟨a, rfl⟩ := Int.eq_ofNat_of_zero_le ha0
  obtain ⟨x, rfl⟩ := Int.eq_ofNat_of_zero_le hx0
  have e : ((a : Int) * 256) = ((a * 256 : Nat) : Int) := by omega
  have h := Nat.shiftLeft_add_eq_or_of_lt (i := 8) (b := x) (by omega) a
  rw [Nat.shiftLeft_eq] at h
  rw [e, u32_or _ _ (by omega) (by omega) (by omega) (by omega)]
  simp only [Int.toNat_natCast]
  rw [← h]
  rfl
theorem hi_bd3 (l : List Int) (h : By l) (hk : l.length ≤ 3) : 0 ≤ hi l ∧ hi l < 16777216 := by
  have hb := hi_bd l h
  have hp : ∀ m : Nat, m ≤ 3 → (256 : Int) ^ m ≤ 16777216 := by decide
  have := hp l.length hk
  omega

/-- a row made with room and nothing in it -/
theorem Row.room (w : World) (k : Nat) (hk : k ≤ 1000000) (t : TypeId) (ht : t = 5) : Row (w.alloc (.cells (zeroB k) t)) w.heap.size (.slice (some ⟨w.heap.size, 0, none⟩) 0 k) [] := by
  subst ht
  exact ⟨By.nil, ⟨by simp, .inr ⟨w.heap.size, k, _, rfl, Nat.le_refl _, heap_alloc_new w _, Nat.zero_le _, by unfold maxLen; omega, by simp [zeroB], by simp⟩⟩⟩

end Go.Proofs.Ytjpnacgdefgalaa
