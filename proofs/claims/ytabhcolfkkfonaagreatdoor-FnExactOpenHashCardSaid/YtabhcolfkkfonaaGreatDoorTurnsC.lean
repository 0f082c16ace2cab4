/- What FnTurns's law asks besides: the laws' own comparisons; what is turned comes back; what is xored twice is as it was. -/
import Derived.Test.YtabhcolfkkfonaaGreatDoorBase
namespace Go.Proofs.YtabhcolfkkfonaaGreatDoor
open Go.RowKit

theorem lwSame_any (A B : Option Addr) (n c m d : Nat) (l r : List Int) (w : World) (h : Bs w A n l) (h' : Bs w B m r) :
    Calls Tryz.prog 21 #[.slice A n c, .slice B m d] w fun e w' => e = .returned (.bool (decide (l = r))) ∧ w = w' := by
  have h1 := run_str h c
  have h2 := run_str h' d
  have Hb := Lib.hid (str_beq h.byte h'.byte)
  go_enter Tryz.func21, Tryz.ntmps21
  go_wp2
  go_ret
  exact ⟨by simp [Hb.out], rfl⟩

theorem lwBytes_any (a b : Int) (A B : Option Addr) (n c m d : Nat) (l r : List Int) (w : World) (h : Bs w A n l) (h' : Bs w B m r) :
    Calls Tryz.prog 41 #[.agg #[.int .i64 a, .slice A n c], .agg #[.int .i64 b, .slice B m d]] w fun e w' => e = .returned (.bool (decide (a = b ∧ l = r))) ∧ Below w.heap.size w w' := by
  by_cases hab : a = b
  · subst hab
    go_enter Tryz.func41, Tryz.ntmps41
    go_wp2_with fail
    refine (lwSame_any _ _ _ _ _ _ _ _ _ ((h.alloc _).alloc _) ((h'.alloc _).alloc _)).mono ?_
    rintro e w' ⟨rfl, rfl⟩
    go_wp2
    go_returns
    exact ⟨by simp, ab (ab (Below.refl _ _) _) _⟩
  · have hb : (a == b) = false := by simpa using hab
    go_enter Tryz.func41, Tryz.ntmps41
    go_wp2
    go_returns
    exact ⟨by simp [hab], by go_grown⟩

theorem xorB_back (x y : Int) (hx0 : 0 ≤ x) (hx1 : x < 256) (hy0 : 0 ≤ y) (hy1 : y < 256) : xorB (xorB x y) y = x := by
  have hb := xorB_bd x y hx0 hx1 hy0 hy1
  have e : xorB x y = ((x.toNat ^^^ y.toNat : Nat) : Int) := u8_xor x y hx0 hx1 hy0 hy1
  unfold xorB at hb ⊢
  rw [u8_xor _ y hb.1 hb.2 hy0 hy1]
  have e' : bits BinOp.xor IntKind.u8 x y = ((x.toNat ^^^ y.toNat : Nat) : Int) := e
  rw [e', Int.toNat_natCast, Nat.xor_assoc, Nat.xor_self, Nat.xor_zero]
  omega

theorem xorL_back (l r : List Int) (hl : By l) (hr : By r) (h : l.length = r.length) : xorL (xorL l r) r = l := by
  apply List.ext_getElem
  · rw [xorL_len _ _ (by rw [xorL_len l r h]; exact h), xorL_len l r h]
  · intro i h1 h2
    have e1 : (xorL (xorL l r) r)[i] = xorB (xorB l[i] (r[i]'(by omega))) (r[i]'(by omega)) := by
      simp [xorL]
    rw [e1]
    have b1 := hl _ (List.getElem_mem h2)
    have b2 := hr _ (List.getElem_mem (l := r) (n := i) (by omega))
    exact xorB_back _ _ b1.1 b1.2 b2.1 b2.2

theorem turn_add (x b : Nat) (hx : x < 4294967296) (hb : b ≤ 31) : turn (x : Int) (b : Int) = ((x * 2 ^ b % 4294967296 + x / 2 ^ (32 - b) : Nat) : Int) := by
  have hp : 2 ^ b * 2 ^ (32 - b) = 4294967296 := by rw [← Nat.pow_add, show b + (32 - b) = 32 by omega]
  have hp0 : 0 < 2 ^ (32 - b) := Nat.pos_of_ne_zero (by simp)
  have hh : x / 2 ^ (32 - b) < 2 ^ b := by
    rw [Nat.div_lt_iff_lt_mul hp0, hp]; exact hx
  have hm : x * 2 ^ b % 4294967296 = (x % 2 ^ (32 - b)) <<< b := by
    rw [Nat.shiftLeft_eq, ← hp, Nat.mul_comm x, Nat.mul_mod_mul_left, Nat.mul_comm]
  have h1 : ((x : Int) * 2 ^ (b : Int).toNat % 4294967296) = ((x * 2 ^ b % 4294967296 : Nat) : Int) := by simp
  have h2 : ((x : Int) / 2 ^ (32 - (b : Int)).toNat) = ((x / 2 ^ (32 - b) : Nat) : Int) := by
    have e : (32 - (b : Int)).toNat = 32 - b := by omega
    rw [e]; simp
  unfold turn
  rw [h1, h2, u32_or_nat _ _ (Nat.mod_lt _ (by omega)) (by have := Nat.div_le_self x (2 ^ (32 - b)); omega), hm, ← Nat.shiftLeft_add_eq_or_of_lt hh]

theorem round_trip (P Q x : Nat) (hP : 0 < P) (hQ : 0 < Q) (hx : x < P * Q) : (x * P % (P * Q) + x / Q) * Q % (P * Q) + (x * P % (P * Q) + x / Q) / P = x := by
  have h1 : x * P % (P * Q) = P * (x % Q) := by rw [Nat.mul_comm x, Nat.mul_mod_mul_left]
  have h2 : x / Q < P := by rw [Nat.div_lt_iff_lt_mul hQ]; exact hx
  have h3 : (P * (x % Q) + x / Q) * Q = (x / Q) * Q + (P * Q) * (x % Q) := by
    rw [Nat.add_mul, Nat.add_comm, Nat.mul_right_comm]
  rw [h1, h3, Nat.add_mul_mod_self_left, Nat.mod_eq_of_lt (by exact Nat.mul_lt_mul_of_pos_right h2 hQ), Nat.mul_add_div hP, Nat.div_eq_of_lt h2, Nat.add_zero]
  have := Nat.div_add_mod x Q
  rw [Nat.mul_comm] at this
  exact this

theorem turn_back (x b : Int) (hx0 : 0 ≤ x) (hx1 : x ≤ 4294967295) (hb0 : 0 ≤ b) (hb1 : b ≤ 31) : turn (turn x b) ((32 - b) % 32) = x := by
  obtain ⟨x, rfl⟩ := Int.eq_ofNat_of_zero_le hx0
  obtain ⟨b, rfl⟩ := Int.eq_ofNat_of_zero_le hb0
  have hx : x < 4294967296 := by omega
  have hb : b ≤ 31 := by omega
  rw [turn_add x b hx hb]
  have hc : ((32 - (b : Int)) % 32) = (((32 - b) % 32 : Nat) : Int) := by omega
  have hsum : x * 2 ^ b % 4294967296 + x / 2 ^ (32 - b) < 4294967296 := by
    have h := turn_bd (x : Int) (b : Int) hx0 hx1 hb0 hb1
    rw [turn_add x b hx hb] at h
    omega
  rw [hc, turn_add _ _ hsum (by omega)]
  congr 1
  rcases Nat.eq_zero_or_pos b with h0 | h0
  · subst h0
    simp only [Nat.pow_zero, Nat.reducePow, Nat.reduceSub, Nat.reduceMod, Nat.mul_one]
    omega
  · have e1 : (32 - b) % 32 = 32 - b := Nat.mod_eq_of_lt (by omega)
    have e2 : 32 - (32 - b) = b := by omega
    have hp : 2 ^ b * 2 ^ (32 - b) = 4294967296 := by rw [← Nat.pow_add, show b + (32 - b) = 32 by omega]
    rw [e1, e2, ← hp]
    exact round_trip (2 ^ b) (2 ^ (32 - b)) x (Nat.pos_of_ne_zero (by simp)) (Nat.pos_of_ne_zero (by simp)) (by rw [hp]; exact hx)

theorem fld_bytes (k : Int) (A : Option Addr) (n c : Nat) (W : World) : (Instr.field 46 (.agg #[.int .i64 k, .slice A n c]) 1).run Tryz.prog W = .ok (.slice A n c) W := by kernel_rfl
end Go.Proofs.YtabhcolfkkfonaaGreatDoor
