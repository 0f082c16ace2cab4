/- Words of the program: read of bytes, the lowest one first, and laid in bytes. -/
import Derived.Test.YtgmbofoneeagiaaDoorJoinLow
import Derived.Test.YtgmbofoneeagiaaDoorShaC
import Derived.Test.YtgmbofoneeagiaaDoorBase
namespace Go.Proofs.YtgmbofoneeagiaaDoor
open Go.RowKit Go.Shelf

attribute [local go_sem] Oper.semAt_some

theorem or_byte_w (a x : Int) (ha0 : 0 ≤ a) (ha1 : a < 16777216) (hx0 : 0 ≤ x) (hx1 : x < 256) : bits BinOp.or IntKind.u32 (a * 256) x = a * 256 + x := by
  obtain ⟨a, rfl⟩ := Int.eq_ofNat_of_zero_le ha0
  obtain ⟨x, rfl⟩ := Int.eq_ofNat_of_zero_le hx0
  have e : ((a : Int) * 256) = ((a * 256 : Nat) : Int) := by omega
  have h := Nat.shiftLeft_add_eq_or_of_lt (i := 8) (b := x) (by omega) a
  rw [Nat.shiftLeft_eq] at h
  rw [e, u32_or _ _ (by omega) (by omega) (by omega) (by omega)]
  simp only [Int.toNat_natCast]
  rw [← h]
  rfl
theorem hi_bd3 (l : List Int) (h : By l) (hk : l.length ≤ 3) : 0 ≤ hi l ∧ hi l < 16777216 := by
  have hb := hi_bd l h
  have hp : ∀ m : Nat, m ≤ 3 → (256 : Int) ^ m ≤ 16777216 := by decide
  have := hp l.length hk
  omega

theorem spreadLowW_any (n : Int) (m : Nat) (w : World) (hm : m ≤ 4) :
    Calls Tryd.prog 49 #[.int .u32 n, .int .i64 (m : Int)] w fun e w' => e = .returned (.slice (some ⟨w.heap.size, 0, none⟩) m m) ∧ Blk w' w.heap.size (lowOf n m) ∧ Below w.heap.size w w' := by
  have hmk := run_make_bytes m (by omega)
  go_enter Tryd.func49, Tryd.ntmps49
  go_wp2
  clear hmk
  go_loopw [6, 11] (fun _ i wr => ∃ k : Nat, k ≤ m ∧ i = .int .i64 k ∧ Blk wr w.heap.size (part (lowOf n m) m k) ∧ Below w.heap.size w wr) (fun _ i _ => m - (intOf i).toNat)
  case atStart =>
    refine ⟨0, Nat.zero_le _, rfl, ?_, ab (Below.refl _ _) _⟩
    rw [part_zero]
    have := zero_row w m
    simpa using this
  case round =>
    obtain ⟨k, hk, rfl, hblk, hbel⟩ := hrel
    by_cases hlt : k < m
    · have hpl := part_len (lowOf n m) m k (lowOf_len n m) hk
      have hy := hblk.cell (i := k) (by omega)
      have hz := hblk.frozen k
      have Hs : Hid (n / 2 ^ (8 * k) % 256 = (lowOf n m).getD k 0) := by
        show n / 2 ^ (8 * k) % 256 = (lowOf n m).getD k 0
        rw [lowOf_get n m k hlt, pow8]
      clear hpl
      go_wp2
      refine ⟨⟨k + 1, by omega, by go_num, ?_, hbel.setCell (by simp) _⟩, by simp [intOf]; omega⟩
      rw [← part_set (lowOf n m) m k (lowOf_len n m) hlt, ← Hs.out]
      exact hblk.set_ k _
    · obtain rfl : k = m := by omega
      rw [part_full _ _ (lowOf_len n k)] at hblk
      go_wp2
      go_ret
      exact ⟨rfl, hblk, hbel⟩

/-- a row made with room and nothing in it -/
theorem Row.room (w : World) (k : Nat) (hk : k ≤ 1000000) (t : TypeId) (ht : t = 5) : Row (w.alloc (.cells (zeroB k) t)) w.heap.size (.slice (some ⟨w.heap.size, 0, none⟩) 0 k) [] := by
  subst ht
  exact ⟨By.nil, ⟨by simp, .inr ⟨w.heap.size, k, _, rfl, Nat.le_refl _, heap_alloc_new w _, Nat.zero_le _, by unfold maxLen; omega, by simp [zeroB], by simp⟩⟩⟩

end Go.Proofs.YtgmbofoneeagiaaDoor
