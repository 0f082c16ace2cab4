/- ReadHigh, of the program and of the model. -/
import Derived.Test.YtbjcgdgebbiieaaBytesC
import Derived.Test.YtbjcgdgebbiieaaTurnC
namespace Go.Proofs.Ytbjcgdgebbiieaa
open Go.RowKit

def hiStep (a x : Int) : Int := a * 256 + x
/-- the number of bytes, the highest one first -/
def hi (l : List Int) : Int := l.foldl hiStep 0

theorem hi_snoc (l : List Int) (x : Int) : hi (l ++ [x]) = hi l * 256 + x := by simp [hi, hiStep]
theorem hi_bd (l : List Int) (h : By l) : 0 ≤ hi l ∧ hi l < 256 ^ l.length := by
  have key : ∀ (l : List Int) (a b : Int), By l → 0 ≤ a → a < b → 0 ≤ l.foldl hiStep a ∧ l.foldl hiStep a < b * 256 ^ l.length := by
    intro l
    induction l with
    | nil => intro a b _ h0 h1; simp; omega
    | cons x l ih =>
      intro a b hb h0 h1
      have hx := hb x (by simp)
      have := ih (hiStep a x) (b * 256) (fun y hy => hb y (by simp [hy])) (by unfold hiStep; omega) (by unfold hiStep; omega)
      simpa [Int.pow_succ, Int.mul_assoc, Int.mul_comm, Int.mul_left_comm] using this
  have := key l 0 1 h (by omega) (by omega)
  simpa [hi] using this

theorem hi_take_bd (l : List Int) (h : By l) (k : Nat) (hk : k ≤ 6) : 0 ≤ hi (l.take k) ∧ hi (l.take k) < 281474976710656 := by
  have h1 := hi_bd (l.take k) (fun x hx => h x (List.mem_of_mem_take hx))
  have h2 : ∀ m : Nat, m < 7 → (256 : Int) ^ m ≤ 281474976710656 := by decide
  have h3 := h2 (l.take k).length (by have := List.length_take_le k l; omega)
  omega

theorem take_hi (l : List Int) (k : Nat) (h : k < l.length) : hi (l.take (k + 1)) = hi (l.take k) * 256 + l.getD k 0 := by
  rw [List.take_succ_eq_append_getElem h, hi_snoc]
  simp [List.getD, List.getElem?_eq_getElem h]

theorem or_i64 (a b : Nat) (ha : a < 9223372036854775808) (hb : b < 9223372036854775808) : bits BinOp.or IntKind.i64 (a : Int) (b : Int) = ((a ||| b : Nat) : Int) := by
  have back : ∀ n : Nat, n < 9223372036854775808 → (BitVec.ofInt 64 (n : Int)).toNat = n := by
    intro n hn
    rw [BitVec.ofInt_natCast, BitVec.toNat_ofNat]
    exact Nat.mod_eq_of_lt (by omega)
  have hx : a ||| b < 2 ^ 63 := Nat.or_lt_two_pow (by omega) (by omega)
  show IntKind.i64.wrap ((BitVec.ofInt 64 (a : Int) ||| BitVec.ofInt 64 (b : Int)).toNat : Int) = _
  rw [BitVec.toNat_or, back a ha, back b hb]
  exact IntWalk.i64_in _ (by omega)

/-- a byte put below a number: their bits do not meet -/
theorem or_byte (a x : Int) (ha0 : 0 ≤ a) (ha1 : a < 281474976710656) (hx0 : 0 ≤ x) (hx1 : x < 256) : bits BinOp.or IntKind.i64 (a * 256) x = a * 256 + x := by
  obtain ⟨a, rfl⟩ := Int.eq_ofNat_of_zero_le ha0
  obtain ⟨x, rfl⟩ := Int.eq_ofNat_of_zero_le hx0
  have e : ((a : Int) * 256) = ((a * 256 : Nat) : Int) := by omega
  have h := Nat.shiftLeft_add_eq_or_of_lt (i := 8) (b := x) (by omega) a
  rw [Nat.shiftLeft_eq] at h
  rw [e, or_i64 _ _ (by omega) (by omega), ← h]
  rfl

theorem specl1ReadHigh_any (A : Option Addr) (n c : Nat) (l : List Int) (w : World) (h : Bs w A n l) (hn : n ≤ 7) :
    Calls Try.prog 56 #[.slice A n c] w fun e w' => e = .returned (.int .i64 (hi l)) ∧ w = w' := by
  have Hl := Lib.hid h.len
  go_enter Try.func56, Try.ntmps56
  go_wp2
  go_loop [3, 4] (fun t i => ∃ k : Nat, k ≤ n ∧ i = .int .i64 k ∧ t = .int .i64 (hi (l.take k))) (fun _ i => n - (intOf i).toNat)
  case atStart => exact ⟨0, Nat.zero_le _, rfl, rfl⟩
  case round =>
    obtain ⟨k, hk, rfl, rfl⟩ := hrel
    by_cases hlt : k < n
    · obtain ⟨b, off, X, rfl, hbs, hX0, hX1, HX, hx⟩ := h.get hlt
      have Hs := Lib.hid (take_hi l k (by rw [Hl.out]; exact hlt))
      obtain ⟨hb0, hb1⟩ := hi_take_bd l h.byte k (by omega)
      go_wp2
      exact ⟨⟨k + 1, by omega, by go_num, by rw [Hs.out, HX.out]⟩, by simp [intOf]; omega⟩
    · obtain rfl : k = n := by omega
      go_wp2
      go_ret
      exact ⟨by rw [List.take_of_length_le (by rw [Hl.out]; exact Nat.le_refl _)]; rfl, rfl⟩

theorem joinHigh_any (A : Option Addr) (n c : Nat) (l : List Int) (w : World) (h : Bs w A n l) (hn : n ≤ 7) :
    Calls Try.prog 51 #[.slice A n c] w fun e w' => e = .returned (.int .i64 (hi l)) ∧ w = w' := by
  have Hl := Lib.hid h.len
  go_enter Try.func51, Try.ntmps51
  go_wp2
  go_loop [3, 8] (fun t i => ∃ k : Nat, k ≤ n ∧ i = .int .i64 k ∧ t = .int .i64 (hi (l.take k))) (fun _ i => n - (intOf i).toNat)
  case atStart => exact ⟨0, Nat.zero_le _, rfl, rfl⟩
  case round =>
    obtain ⟨k, hk, rfl, rfl⟩ := hrel
    by_cases hlt : k < n
    · obtain ⟨b, off, X, rfl, hbs, hX0, hX1, HX, hx⟩ := h.get hlt
      have Hs := Lib.hid (take_hi l k (by rw [Hl.out]; exact hlt))
      obtain ⟨hb0, hb1⟩ := hi_take_bd l h.byte k (by omega)
      have Ho := Lib.hid (or_byte _ X hb0 hb1 hX0 hX1)
      go_wp2
      exact ⟨⟨k + 1, by omega, by go_num, by rw [Ho.out, Hs.out, HX.out]⟩, by simp [intOf]; omega⟩
    · obtain rfl : k = n := by omega
      go_wp2
      go_ret
      exact ⟨by rw [List.take_of_length_le (by rw [Hl.out]; exact Nat.le_refl _)]; rfl, rfl⟩

def rcode (n : Nat) : Int := if 1 ≤ n ∧ n ≤ 7 then 0 else 2
def rhigh (l : List Int) : Int := if 1 ≤ l.length ∧ l.length ≤ 7 then hi l else 0

theorem canRead_any (A : Option Addr) (n c : Nat) (w : World) (hn : n ≤ 140737488351232) :
    Calls Try.prog 50 #[.slice A n c] w fun e w' => e = .returned (.bool (decide (1 ≤ n ∧ n ≤ 7))) ∧ w = w' := by
  by_cases h1 : 1 ≤ n
  · by_cases h7 : n ≤ 7
    · go_enter Try.func50, Try.ntmps50
      go_wp2
      go_ret
      exact ⟨by have e : (n : Int) ≤ 7 := by omega
                simp [h1, h7, e], rfl⟩
    · go_enter Try.func50, Try.ntmps50
      go_wp2
      go_ret
      exact ⟨by have e : ¬ ((n : Int) ≤ 7) := by omega
                simp [h7, e], rfl⟩
  · go_enter Try.func50, Try.ntmps50
    go_wp2
    go_ret
    exact ⟨by simp, rfl⟩

theorem implReadHigh_any (A : Option Addr) (n c : Nat) (l : List Int) (w : World) (h : Bs w A n l) (hn : n ≤ 140737488351232) :
    Calls Try.prog 18 #[.slice A n c] w fun e w' => e = .returned (.agg #[.int .i64 (rcode n), .int .i64 (rhigh l)]) ∧ Below w.heap.size w w' := by
  have hl := h.len
  by_cases hr : 1 ≤ n ∧ n ≤ 7
  · have Hf : Hid (rcode n = 0 ∧ rhigh l = hi l) := by
      refine ⟨by simp [rcode, hr], ?_⟩
      unfold rhigh
      rw [if_pos (by omega)]
    have hd : decide (1 ≤ n ∧ n ≤ 7) = true := by simpa using hr
    have Hd := Lib.hid hd
    have h7 := hr.2
    clear hd hr hl
    go_enter Try.func18, Try.ntmps18
    go_wp2_with fail
    refine (canRead_any _ _ _ _ hn).mono ?_
    rintro e w' ⟨rfl, rfl⟩
    rw [Hd.out]
    go_wp2_with fail
    refine (joinHigh_any _ _ _ _ _ (h.alloc _) h7).mono ?_
    rintro e w' ⟨rfl, rfl⟩
    go_wp2
    go_returns
    rw [Hf.out.1, Hf.out.2]
    exact ⟨rfl, by go_grown⟩
  · have Hf : Hid (rcode n = 2 ∧ rhigh l = 0) := by
      refine ⟨by simp [rcode, hr], ?_⟩
      unfold rhigh
      rw [if_neg (by omega)]
    have hd : decide (1 ≤ n ∧ n ≤ 7) = false := by simpa using hr
    have Hd := Lib.hid hd
    clear hd hr hl
    go_enter Try.func18, Try.ntmps18
    go_wp2_with fail
    refine (canRead_any _ _ _ _ hn).mono ?_
    rintro e w' ⟨rfl, rfl⟩
    rw [Hd.out]
    go_wp2
    go_returns
    rw [Hf.out.1, Hf.out.2]
    exact ⟨rfl, by go_grown⟩

theorem specReadHigh_any (A : Option Addr) (n c : Nat) (l : List Int) (w : World) (h : Bs w A n l) (hn : n ≤ 140737488351232) :
    Calls Try.prog 23 #[.slice A n c] w fun e w' => e = .returned (.agg #[.int .i64 (rcode n), .int .i64 (rhigh l)]) ∧ Below w.heap.size w w' := by
  have hl := h.len
  by_cases hr : 1 ≤ n ∧ n ≤ 7
  · have Hf : Hid (rcode n = 0 ∧ rhigh l = hi l) := by
      refine ⟨by simp [rcode, hr], ?_⟩
      unfold rhigh
      rw [if_pos (by omega)]
    obtain ⟨h1, h7⟩ := hr
    clear hl
    go_enter Try.func23, Try.ntmps23
    go_wp2_with fail
    refine (specl1ReadHigh_any _ _ _ _ _ (h.alloc _) h7).mono ?_
    rintro e w' ⟨rfl, rfl⟩
    go_wp2
    go_returns
    rw [Hf.out.1, Hf.out.2]
    exact ⟨rfl, by go_grown⟩
  · have Hf : Hid (rcode n = 2 ∧ rhigh l = 0) := by
      refine ⟨by simp [rcode, hr], ?_⟩
      unfold rhigh
      rw [if_neg (by omega)]
    clear hl
    by_cases h1 : 1 ≤ n
    · have h7 : 7 < n := by omega
      clear hr
      go_enter Try.func23, Try.ntmps23
      go_wp2
      go_returns
      rw [Hf.out.1, Hf.out.2]
      exact ⟨rfl, by go_grown⟩
    · have h0 : n < 1 := by omega
      clear hr h1
      go_enter Try.func23, Try.ntmps23
      go_wp2
      go_returns
      rw [Hf.out.1, Hf.out.2]
      exact ⟨rfl, by go_grown⟩
end Go.Proofs.Ytbjcgdgebbiieaa
