/- Whether an answer says that a part came: of the model and of the program. -/
import Derived.Test.YtbelplonlcdahaaSndP
import Derived.Laws.Shifts
namespace Go.Proofs.Ytbelplonlcdahaa
open Go.RowKit

def ackB (ack mask : Int) : Bool := decide (0 ≤ ack ∧ ack ≤ 10000 ∧ 0 ≤ mask ∧ mask ≤ 255)
def bitB (mask : Int) (d : Nat) : Bool := decide (mask / (2 : Int) ^ d % 2 = 1)
def cameB (ack mask seq : Int) : Bool := decide (seq < ack) || (decide (ack < seq) && bitB mask (seq - ack - 1).toNat)

theorem i64_and1 (n : Int) : bits .and .i64 n 1 = n % 2 := by
  have h1 : (BitVec.ofInt 64 1).toNat = 2 ^ 1 - 1 := by decide
  have key : (BitVec.ofInt 64 n &&& BitVec.ofInt 64 1).toNat = (n % ((2 ^ 64 : Nat) : Int)).toNat % 2 ^ 1 := by
    rw [BitVec.toNat_and, BitVec.toNat_ofInt, h1, Nat.and_two_pow_sub_one_eq_mod]
  show IntKind.i64.wrap ((BitVec.ofInt 64 n &&& BitVec.ofInt 64 1).toNat : Nat) = n % 2
  rw [key, IntKind.wrap_i64]
  omega
theorem isAck_any (ack mask : Int) (w : World) : Calls Try.prog 96 #[.int .i64 ack, .int .i64 mask] w fun e w' => e = .returned (.bool (ackB ack mask)) ∧ w = w' := by
  unfold ackB
  by_cases h0 : 0 ≤ ack
  · have t0 : decide (ack ≥ 0) = true := by simpa using h0
    by_cases h1 : ack ≤ 10000
    · have t1 : decide (ack ≤ 10000) = true := by simpa using h1
      by_cases h2 : 0 ≤ mask
      · have t2 : decide (mask ≥ 0) = true := by simpa using h2
        have e : decide (0 ≤ ack ∧ ack ≤ 10000 ∧ 0 ≤ mask ∧ mask ≤ 255) = decide (mask ≤ 255) := by
          by_cases h3 : mask ≤ 255 <;> simp [h0, h1, h2, h3]
        rw [e]
        go_enter Try.func96, Try.ntmps96
        go_wp2
        go_ret
        exact ⟨rfl, rfl⟩
      · have t2 : decide (mask ≥ 0) = false := by simp; omega
        have e : decide (0 ≤ ack ∧ ack ≤ 10000 ∧ 0 ≤ mask ∧ mask ≤ 255) = false := by simp; omega
        rw [e]
        go_enter Try.func96, Try.ntmps96
        go_wp2
        go_ret
        exact ⟨rfl, rfl⟩
    · have t1 : decide (ack ≤ 10000) = false := by simp; omega
      have e : decide (0 ≤ ack ∧ ack ≤ 10000 ∧ 0 ≤ mask ∧ mask ≤ 255) = false := by simp; omega
      rw [e]
      go_enter Try.func96, Try.ntmps96
      go_wp2
      go_ret
      exact ⟨rfl, rfl⟩
  · have t0 : decide (ack ≥ 0) = false := by simp; omega
    have e : decide (0 ≤ ack ∧ ack ≤ 10000 ∧ 0 ≤ mask ∧ mask ≤ 255) = false := by simp; omega
    rw [e]
    go_enter Try.func96, Try.ntmps96
    go_wp2
    go_ret
    exact ⟨rfl, rfl⟩

theorem halve (m : Int) (d : Nat) : m / 2 / (2 : Int) ^ d = m / (2 : Int) ^ (d + 1) := by
  rw [Int.ediv_ediv_of_nonneg (by omega), Int.pow_succ, Int.mul_comm]

theorem l8Bit_any (mask : Int) (d : Nat) (w : World) (h0 : 0 ≤ mask) (h1 : mask ≤ 255) (hd : d ≤ 7) :
    Calls Try.prog 142 #[.int .i64 mask, .int .i64 d] w fun e w' => e = .returned (.bool (bitB mask d)) ∧ w = w' := by
  obtain ⟨z, hz⟩ : ∃ z, z = bitB mask d := ⟨_, rfl⟩
  rw [← hz]
  have Hz := Shut.mk hz
  clear hz
  go_enter Try.func142, Try.ntmps142
  go_wp2
  go_loopw [0, 1] (fun m i wr => ∃ (k : Int) (j : Nat), j ≤ 7 ∧ m = .int .i64 k ∧ i = .int .i64 j ∧ 0 ≤ k ∧ k ≤ 255 ∧ Shut (z = bitB k j) ∧ wr = w) (fun m i _ => (intOf i).toNat)
  case atStart => exact ⟨mask, d, hd, rfl, rfl, h0, h1, Hz, rfl⟩
  case round =>
    obtain ⟨k, j, hj, rfl, rfl, hk0, hk1, hE, rfl⟩ := hrel
    rcases j with _ | j
    · have E : Shut (z = decide (k % 2 = 1)) := ⟨by rw [hE.out]; unfold bitB; simp⟩
      go_wp2
      go_ret
      refine ⟨?_, rfl⟩
      rw [E.out]
      have e9 : (k % 2 == 1) = decide (k % 2 = 1) := by by_cases hh : k % 2 = 1 <;> simp [hh]
      rw [← e9]; rfl
    · have E : Shut (z = bitB (k / 2) j) := ⟨by rw [hE.out]; unfold bitB; rw [halve]⟩
      clear hE
      go_wp2
      go_roundw
      case rel => exact ⟨k / 2, j, by omega, rfl, rfl, by omega, by omega, E, trivial⟩
      case measure => (simp [intOf])

theorem saysCame_any (ack mask seq : Int) (w : World) (h0 : 0 ≤ ack) (h1 : ack ≤ 10000) (h2 : 0 ≤ mask) (h3 : mask ≤ 255) (h4 : 0 ≤ seq) (h5 : seq ≤ 20000) :
    Calls Try.prog 98 #[.int .i64 ack, .int .i64 mask, .int .i64 seq] w fun e w' => e = .returned (.bool (cameB ack mask seq)) ∧ w = w' := by
  unfold cameB
  by_cases hlt : seq < ack
  · have t0 : decide (seq < ack) = true := by simpa using hlt
    rw [t0, Bool.true_or]
    go_enter Try.func98, Try.ntmps98
    go_wp2
    go_ret
    exact ⟨rfl, rfl⟩
  · have t0 : decide (seq < ack) = false := by simpa using hlt
    rw [t0, Bool.false_or]
    by_cases hgt : ack < seq
    · have t1 : decide (ack < seq) = true := by simpa using hgt
      have t2 : decide (seq > ack) = true := by simpa using hgt
      have hn : 0 ≤ seq - ack - 1 := by omega
      have hsh := shift_shr_any .i64 .i64 mask (seq - ack - 1) hn
      rw [t1, Bool.true_and]
      obtain ⟨q, hq⟩ : ∃ q, q = mask / (2 : Int) ^ min (seq - ack - 1).toNat IntKind.i64.bits := ⟨_, rfl⟩
      rw [← hq] at hsh
      obtain ⟨z, hz⟩ : ∃ z, z = bitB mask (seq - ack - 1).toNat := ⟨_, rfl⟩
      rw [← hz]
      have hq0 : 0 ≤ q := by rw [hq]; exact Int.ediv_nonneg h2 (Int.le_of_lt (Int.pow_pos (by omega)))
      have hq1 : q ≤ mask := by rw [hq]; exact Int.ediv_le_self _ h2
      have hand := i64_and1 q
      have E : Shut ((q % 2 == 1) = z) := ⟨by
        have e9 : (q % 2 == 1) = decide (q % 2 = 1) := by by_cases hh : q % 2 = 1 <;> simp [hh]
        rw [e9, hz]
        unfold bitB
        by_cases h64 : (seq - ack - 1).toNat ≤ 64
        · have hm : min (seq - ack - 1).toNat IntKind.i64.bits = (seq - ack - 1).toNat := Nat.min_eq_left h64
          rw [hq, hm]
        · have hm : min (seq - ack - 1).toNat IntKind.i64.bits = 64 := Nat.min_eq_right (by show 64 ≤ _; omega)
          have e1 : q = 0 := by rw [hq, hm]; exact Int.ediv_eq_zero_of_lt h2 (by omega)
          have e2 : mask / (2 : Int) ^ (seq - ack - 1).toNat = 0 := by
            apply Int.ediv_eq_zero_of_lt h2
            have hp : (2 : Nat) ^ 8 ≤ 2 ^ (seq - ack - 1).toNat := Nat.pow_le_pow_right (by omega) (by omega)
            have hp' : ((2 ^ 8 : Nat) : Int) ≤ ((2 ^ (seq - ack - 1).toNat : Nat) : Int) := by exact_mod_cast hp
            rw [show ((2 : Int) ^ (seq - ack - 1).toNat) = ((2 ^ (seq - ack - 1).toNat : Nat) : Int) by simp]
            have : ((2 ^ 8 : Nat) : Int) = 256 := rfl
            generalize ((2 ^ (seq - ack - 1).toNat : Nat) : Int) = y at *
            omega
          rw [e1, e2]⟩
      clear hq hz hq0 hq1 hn
      go_enter Try.func98, Try.ntmps98
      go_wp2
      go_ret
      exact ⟨by rw [← E.out]; rfl, rfl⟩
    · have t1 : decide (ack < seq) = false := by simpa using hgt
      have t2 : decide (seq > ack) = false := by simpa using hgt
      rw [t1, Bool.false_and]
      go_enter Try.func98, Try.ntmps98
      go_wp2
      go_ret
      exact ⟨rfl, rfl⟩
end Go.Proofs.Ytbelplonlcdahaa
