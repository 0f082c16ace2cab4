/- PackLow, of the program and of the model. -/
import Derived.Test.YtcanmhlhnihijaaDoorBytesC
import Derived.Test.YtcanmhlhnihijaaDoorTurnC
namespace Go.Proofs.YtcanmhlhnihijaaDoor
open Go.RowKit

/-- the lowest k bytes of n, the lowest first -/
def lowOf (n : Int) (k : Nat) : List Int := (List.range k).map fun i : Nat => n / 256 ^ i % 256
theorem lowOf_len (n : Int) (k : Nat) : (lowOf n k).length = k := by simp [lowOf]
theorem lowOf_byte (n : Int) (k : Nat) : By (lowOf n k) := fun x hx => by
  simp only [lowOf, List.mem_map] at hx
  obtain ⟨i, _, rfl⟩ := hx
  omega
theorem lowOf_succ (n : Int) (k : Nat) : lowOf n (k + 1) = lowOf n k ++ [n / 256 ^ k % 256] := by simp [lowOf, List.range_succ]
theorem div_succ (n : Int) (k : Nat) : n / 256 ^ k / 256 = n / 256 ^ (k + 1) := by
  rw [Int.ediv_ediv_of_nonneg (Int.le_of_lt (Int.pow_pos (by omega))), Int.pow_succ]

/-- n fits into size bytes -/
def fitB (n size : Int) : Bool := decide (1 ≤ size ∧ size ≤ 7 ∧ 0 ≤ n ∧ n < 256 ^ size.toNat)

theorem lowOf_lt (n : Int) (k : Nat) (h : 0 ≤ n) : n / 256 ^ k = 0 ↔ n < 256 ^ k := by
  have hp : (0 : Int) < 256 ^ k := Int.pow_pos (by omega)
  constructor
  · intro e
    have := Int.lt_ediv_add_one_mul_self n hp
    rw [e] at this
    omega
  · exact fun hlt => Int.ediv_eq_zero_of_lt h hlt

theorem l1Low_any (n : Int) (m : Nat) (w : World) (h0 : 0 ≤ n) (hn : n ≤ 9223372036854775807) (hm : m ≤ 1000) :
    Calls Tryd.prog 64 #[.int .i64 n, .int .i64 (m : Int)] w fun e w' => (∃ A c, e = .returned (.slice A m c) ∧ Ow w' w.heap.size A m (lowOf n m)) ∧ Below w.heap.size w w' := by
  go_enter Tryd.func64, Tryd.ntmps64
  go_wp2
  go_loopw [0, 1, 5] (fun t i v wr => ∃ k : Nat, k ≤ m ∧ i = .int .i64 ((m : Int) - (k : Int)) ∧ t = .int .i64 (n / 256 ^ k) ∧ Row wr w.heap.size v (lowOf n k) ∧ Below w.heap.size w wr) (fun _ i _ _ => (intOf i).toNat)
  case atStart => exact ⟨0, Nat.zero_le _, by simp, by simp, Row.empty w _ (Nat.le_refl _) rfl, ab (Below.refl _ _) _⟩
  case round =>
    obtain ⟨k, hk, rfl, rfl, hrow, hbel⟩ := hrel
    have hq : 0 ≤ n / 256 ^ k := Int.ediv_nonneg h0 (Int.le_of_lt (Int.pow_pos (by omega)))
    have hq1 : n / 256 ^ k ≤ 9223372036854775807 := Int.le_trans (Int.ediv_le_self _ h0) hn
    have Hs := Lib.hid (div_succ n k)
    have Hl := Lib.hid (lowOf_succ n k)
    have hsz := hbel.size
    have hlen : (lowOf n k).length ≤ 140737488351232 := by rw [lowOf_len]; omega
    by_cases hlt : k < m
    · go_wp2_with (at_builtin; refine wpList_row_append rfl _ _ rfl _ w.heap.size _ _ rfl (hrow.alloc _) (by simp; omega) ⟨wr.heap.size, 0, none⟩ 1 (n / 256 ^ k % 256) rfl (cell_one _ _ _) (by omega) (by omega) hlen ?_; intro v' w1 hr1 hb1 hs1)
      refine ⟨⟨k + 1, by omega, by go_num, by rw [← Hs.out], ?_, ?_⟩, by simp [intOf]; omega⟩
      · rw [Hl.out]; assumption
      · exact (ab hbel _).trans (by assumption)
    · obtain rfl : k = m := by omega
      obtain ⟨A, c, rfl, how⟩ := hrow.ow (lowOf_len n k)
      go_wp2
      go_ret
      exact ⟨⟨A, c, rfl, how⟩, hbel⟩

theorem lowOf_get (n : Int) (m k : Nat) (hk : k < m) : (lowOf n m).getD k 0 = n / 256 ^ k % 256 := by simp [lowOf, List.getD, hk]

theorem pow8 (k : Nat) : (2 : Int) ^ (8 * k) = 256 ^ k := by rw [Int.pow_mul]; rfl

/-- what PackLow answers -/
def pcode (n size : Int) : Int := if fitB n size then 0 else 3
def plow (n size : Int) : List Int := if fitB n size then lowOf n size.toNat else []
def plen (n size : Int) : Nat := if fitB n size then size.toNat else 0
theorem plow_len (n size : Int) : (plow n size).length = plen n size := by unfold plow plen; split <;> simp [lowOf_len]
theorem plow_byte (n size : Int) : By (plow n size) := by unfold plow; split; exact lowOf_byte _ _; exact By.nil

theorem spreadLow_any (n : Int) (m : Nat) (w : World) (hm : m ≤ 8) :
    Calls Tryd.prog 67 #[.int .i64 n, .int .i64 (m : Int)] w fun e w' => e = .returned (.slice (some ⟨w.heap.size, 0, none⟩) m m) ∧ Blk w' w.heap.size (lowOf n m) ∧ Below w.heap.size w w' := by
  have hmk := run_make_bytes m (by omega)
  go_enter Tryd.func67, Tryd.ntmps67
  go_wp2
  clear hmk
  go_loopw [6, 11] (fun _ i wr => ∃ k : Nat, k ≤ m ∧ i = .int .i64 k ∧ Blk wr w.heap.size (part (lowOf n m) m k) ∧ Below w.heap.size w wr) (fun _ i _ => m - (intOf i).toNat)
  case atStart =>
    refine ⟨0, Nat.zero_le _, rfl, ?_, ab (Below.refl _ _) _⟩
    rw [part_zero]
    have := zero_row w m
    simpa using this
  case round =>
    obtain ⟨k, hk, rfl, hblk, hbel⟩ := hrel
    by_cases hlt : k < m
    · have hpl := part_len (lowOf n m) m k (lowOf_len n m) hk
      have hy := hblk.cell (i := k) (by omega)
      have hz := hblk.frozen k
      have Hs : Hid (n / 2 ^ (8 * k) % 256 = (lowOf n m).getD k 0) := by
        show n / 2 ^ (8 * k) % 256 = (lowOf n m).getD k 0
        rw [lowOf_get n m k hlt, pow8]
      clear hpl
      go_wp2
      refine ⟨⟨k + 1, by omega, by go_num, ?_, hbel.setCell (by simp) _⟩, by simp [intOf]; omega⟩
      rw [← part_set (lowOf n m) m k (lowOf_len n m) hlt, ← Hs.out]
      exact hblk.set_ k _
    · obtain rfl : k = m := by omega
      rw [part_full _ _ (lowOf_len n k)] at hblk
      go_wp2
      go_ret
      exact ⟨rfl, hblk, hbel⟩

theorem plen_le (n size : Int) : plen n size ≤ 7 := by
  unfold plen
  split
  · rename_i h; simp [fitB] at h; omega
  · omega

theorem i64_of_wf {x : Int} (h : (Lit.int .i64 x).wf = true) : -9223372036854775808 ≤ x ∧ x ≤ 9223372036854775807 := by
  have : IntKind.i64.min ≤ x ∧ x ≤ IntKind.i64.max := by simpa [Lit.wf] using h
  exact this
end Go.Proofs.YtcanmhlhnihijaaDoor
