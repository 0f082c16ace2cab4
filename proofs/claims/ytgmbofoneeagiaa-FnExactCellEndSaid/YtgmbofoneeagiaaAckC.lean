/- What a receiver tells: of the model and of the program. -/
import Derived.Test.YtgmbofoneeagiaaRcvG
namespace Go.Proofs.Ytgmbofoneeagiaa
open Go.RowKit

theorem firstR_zero {E : Type} (f : E → Int) {els : List E} (h : firstF f els = 0) : ∀ e ∈ els, f e = 0 := by
  induction els with
  | nil => intro e he; cases he
  | cons x r ih =>
    simp only [firstF] at h
    by_cases hx : f x ≠ 0
    · rw [if_pos hx] at h; exact absurd h hx
    · rw [if_neg hx] at h
      intro e he
      rcases List.mem_cons.1 he with rfl | he
      · simpa using hx
      · exact ih h e he
theorem allAtR_get {E : Type} (g : Nat → E → Bool) {els : List E} {i : Nat} (h : allAt g i els = true) {k : Nat} {e : E} (he : els[k]? = some e) : g (i + k) e = true := by
  induction els generalizing i k with
  | nil => simp at he
  | cons x r ih =>
    simp only [allAt, Bool.and_eq_true] at h
    cases k with
    | zero => simp at he; subst he; exact h.1
    | succ k =>
      simp at he
      have := ih h.2 he
      rwa [Nat.add_assoc, Nat.add_comm 1] at this

/-- a receiver that is right -/
structure RecOk (next : Int) (els : List HeldD) (np : Nat) : Prop where
  lo : 0 ≤ next
  hi : next ≤ 10000
  part : np ≤ 200
  ahead : ∀ e ∈ els, next + 1 ≤ e.f0 ∧ e.f0 ≤ next + 7 ∧ e.f0 ≤ 9999 ∧ e.f1.length ≤ 32
  up : ∀ k e e', els[k]? = some e → els[k + 1]? = some e' → e.f0 < e'.f0
theorem heldR_zero {next : Int} {e : HeldD} (h : heldF next e = 0) : next + 1 ≤ e.f0 ∧ e.f0 ≤ next + 7 ∧ e.f0 ≤ 9999 ∧ e.f1.length ≤ 32 := by
  unfold heldF at h
  by_cases h1 : aheadB next e.f0 = false
  · rw [if_pos h1] at h; exact absurd h (by decide)
  · rw [if_neg h1] at h
    by_cases h2 : 32 < e.f1.length
    · rw [if_pos h2] at h; exact absurd h (by decide)
    · unfold aheadB at h1
      simp at h1
      omega
theorem recR_zero {next : Int} {els : List HeldD} {np : Nat} (h : recF next els np = 0) : RecOk next els np := by
  unfold recF at h
  by_cases h1 : decide (0 ≤ next ∧ next ≤ 10000) = false
  · rw [if_pos h1] at h; exact absurd h (by decide)
  · rw [if_neg h1] at h
    simp at h1
    by_cases h2 : 200 < np
    · rw [if_pos h2] at h; exact absurd h (by decide)
    · rw [if_neg h2] at h
      by_cases h3 : firstF (heldF next) els ≠ 0
      · rw [if_pos h3] at h; exact absurd h h3
      · rw [if_neg h3] at h
        by_cases h4 : allAt (upB els) 0 els = false
        · rw [if_pos h4] at h; exact absurd h (by decide)
        · simp at h3 h4
          refine ⟨h1.1, h1.2, by omega, fun e he => heldR_zero (firstR_zero _ h3 e he), fun k e e' h5 h6 => ?_⟩
          have := allAtR_get (upB els) h4 h6
          rw [Nat.zero_add] at this
          simp only [upB, h5] at this
          simpa using this

def bitE (next : Int) (e : HeldD) : Nat := 2 ^ (e.f0 - next - 1).toNat
def maskE (next : Int) (els : List HeldD) : Nat := sumE (bitE next) els
theorem mask_lt {next : Int} {els : List HeldD} {np : Nat} (h : RecOk next els np) : ∀ (k : Nat) (e : HeldD), els[k]? = some e → maskE next (els.take k) < bitE next e
  | 0, e, _ => by simp [maskE, sumE]; exact Nat.two_pow_pos _
  | k + 1, e, he => by
    have hk := (List.getElem?_eq_some_iff.1 he).1
    have he' : els[k]? = some els[k] := List.getElem?_eq_getElem (by omega)
    have ih := mask_lt h k _ he'
    have hs : maskE next (els.take (k + 1)) = maskE next (els.take k) + bitE next els[k] := sumE_take_succ (bitE next) he'
    have hu := h.up k _ _ he' he
    have h1 := h.ahead _ (List.mem_of_getElem? he')
    have h2 := h.ahead _ (List.mem_of_getElem? he)
    have h3 : bitE next els[k] * 2 ≤ bitE next e := by
      unfold bitE
      rw [← Nat.pow_succ]
      exact Nat.pow_le_pow_right (by omega) (by omega)
    omega
theorem bit_le {next : Int} {e : HeldD} (h1 : e.f0 ≤ next + 7) : bitE next e ≤ 64 := by
  unfold bitE
  exact Nat.pow_le_pow_right (n := 2) (j := 6) (by omega) (by omega)
theorem or_bit (a d : Nat) (h : a < 2 ^ d) (hd : d ≤ 6) : bits BinOp.or IntKind.i64 (a : Int) ((2 ^ d : Nat) : Int) = ((a + 2 ^ d : Nat) : Int) := by
  have h6 : 2 ^ d ≤ 64 := Nat.pow_le_pow_right (n := 2) (j := 6) (by omega) hd
  rw [or_i64 a (2 ^ d) (by omega) (by omega), Nat.or_comm]
  have := Nat.two_pow_add_eq_or_of_lt h 1
  rw [Nat.mul_one] at this
  rw [← this, Nat.add_comm]

def ackA (next : Int) (els : List HeldD) (np : Nat) : Int := if recF next els np = 0 then next else 0
def ackM (next : Int) (els : List HeldD) (np : Nat) : Int := if recF next els np = 0 then (maskE next els : Int) else 0

set_option maxHeartbeats 2000000 in
theorem implAckOf_any (next : Int) (A : Option Addr) (n c : Nat) (els : List HeldD) (A' : Option Addr) (n' c' : Nat) (w : World) (h : Lst HeldD.cels 3 w A n els) (hn : n ≤ 1048576) (hn' : n' ≤ 1048576) :
    Calls Try.prog 50 #[.agg #[.int .i64 next, .slice A n c, .slice A' n' c']] w fun e w' => e = .returned (.agg #[.int .i64 (recF next els n'), .int .i64 (ackA next els n'), .int .i64 (ackM next els n')]) ∧ Below w.heap.size w w' := by
  have hf := fun W (hh : Below w.heap.size w W) => implReceiverFault_any next A n c els A' n' c' W (h.below hh) hn hn'
  have S0 := (Stc.new w 85 [.int .i64 next, .slice A n c, .slice A' n' c'] _ rfl).alloc (.cells #[.int .i64 0, .int .i64 0, .int .i64 0] 88)
  have S1 := (Stc.new (w.alloc (.cells #[.int .i64 next, .slice A n c, .slice A' n' c'] 85)) 88 [.int .i64 0, .int .i64 0, .int .i64 0] _ rfl)
  have B0 := ab (ab (Below.refl _ w) (.cells #[.int .i64 next, .slice A n c, .slice A' n' c'] 85)) (.cells #[.int .i64 0, .int .i64 0, .int .i64 0] 88)
  simp only [World.size_alloc] at S1
  by_cases h0 : recF next els n' = 0
  rotate_left
  · have e0 : Shut (ackA next els n' = 0 ∧ ackM next els n' = 0) := ⟨by unfold ackA ackM; rw [if_neg h0, if_neg h0]; exact ⟨rfl, rfl⟩⟩
    have t0 : (recF next els n' != 0) = true := by simpa using h0
    obtain ⟨z, hz⟩ : ∃ z, z = recF next els n' := ⟨_, rfl⟩
    rw [← hz] at hf t0
    have Hz := Shut.mk hz
    clear hz h0
    go_enter Try.func50, Try.ntmps50
    go_wp2_with fail
    refine (hf _ B0).mono ?_
    rintro e w1 ⟨rfl, b1⟩
    have B1 := ac B0 b1
    replace S1 := S1.below b1 S1.lt
    have v0 := S1.cell (i := 0) rfl
    have v1 := S1.cell (i := 1) rfl
    have v2 := S1.cell (i := 2) rfl
    have vf := S1.frozen
    go_wp2
    refine bodyPost_ret (v := .agg #[.int .i64 z, .int .i64 0, .int .i64 0]) (by simp [results, Try.results50, go_sem, v0, v1, v2]) rfl ?_
    refine ⟨by rw [← Hz.out, e0.out.1, e0.out.2], ((B1.setCell (by simp) _).setCell (by simp) _).setCell (by simp) _⟩
  have ok := recR_zero h0
  have e0 : Shut (ackA next els n' = next ∧ ackM next els n' = (maskE next els : Int)) := ⟨by unfold ackA ackM; rw [if_pos h0, if_pos h0]; exact ⟨rfl, rfl⟩⟩
  have H0 := Shut.mk h0
  rw [h0] at hf
  have Hl := Shut.mk h.len
  have OK := Shut.mk ok
  have ok0 := ok.lo
  have ok1 := ok.hi
  clear h0 ok
  go_enter Try.func50, Try.ntmps50
  go_wp2_with fail
  refine (hf _ B0).mono ?_
  rintro e w1 ⟨rfl, b1⟩
  have B1 := ac B0 b1
  replace S0 := S0.below b1 S0.lt
  replace S1 := S1.below b1 S1.lt
  have v1 := S0.cell (i := 1) rfl
  clear hf B0 b1
  go_wp2
  clear v1
  go_loopw [4, 16] (fun m i wr => ∃ k : Nat, k ≤ n ∧ i = .int .i64 k ∧ m = .int .i64 (maskE next (els.take k) : Int) ∧ Stc wr w.heap.size [.int .i64 next, .slice A n c, .slice A' n' c'] 85 ∧ Stc wr (w.heap.size + 1) [.int .i64 0, .int .i64 0, .int .i64 0] 88 ∧ Below w.heap.size w wr) (fun m i _ => n - (intOf i).toNat)
  case atStart => exact ⟨0, Nat.zero_le _, rfl, rfl, S0, S1, B1⟩
  case round =>
    obtain ⟨k, hk, rfl, rfl, hS, hS1, hbel⟩ := hrel
    have v0 := hS.cell (i := 0) rfl
    have hl1 := hS.lt
    by_cases hlt : k < n
    · obtain ⟨b, off, e, B, m, c'', rfl, hbs, he, g0, g1, g2, hB, hz⟩ := h.getHeld hlt
      have hb' := bcell hbel
      obtain ⟨o1, o2, o3, _⟩ := OK.out.ahead e (List.mem_of_getElem? he.out)
      have hd : (e.f0 - next).toNat - 1 = (e.f0 - next - 1).toNat := by omega
      have e1 : Shut (bits BinOp.or IntKind.i64 (maskE next (els.take k) : Int) (wrap64 (2 ^ ((e.f0 - next).toNat - 1))) = (maskE next (els.take (k + 1)) : Int)) := ⟨by
        rw [hd]
        have h6 : (e.f0 - next - 1).toNat ≤ 6 := by omega
        have hlt2 := mask_lt OK.out k e he.out
        have hs : maskE next (els.take (k + 1)) = maskE next (els.take k) + bitE next e := sumE_take_succ (bitE next) he.out
        rw [hs]
        unfold bitE at *
        have h64 : 2 ^ (e.f0 - next - 1).toNat ≤ 64 := Nat.pow_le_pow_right (n := 2) (j := 6) (by omega) h6
        have hc : (2 : Int) ^ (e.f0 - next - 1).toNat = ((2 ^ (e.f0 - next - 1).toNat : Nat) : Int) := by simp
        have hw : wrap64 ((2 : Int) ^ (e.f0 - next - 1).toNat) = ((2 ^ (e.f0 - next - 1).toNat : Nat) : Int) := by
          rw [hc]
          generalize 2 ^ (e.f0 - next - 1).toNat = m at *
          unfold wrap64
          omega
        rw [hw]
        exact or_bit _ _ hlt2 h6⟩
      clear h hB hd
      go_wp2
      go_roundw
      case rel => exact ⟨k + 1, by omega, by go_num, by rw [e1.out], hS.alloc _, hS1.alloc _, ab hbel _⟩
      case measure => simp [intOf]; omega
    · obtain rfl : k = n := by omega
      rw [List.take_of_length_le (by rw [Hl.out]; exact Nat.le_refl _)]
      have p0 := hS1.cell (i := 0) rfl
      have p1 := hS1.cell (i := 1) rfl
      have p2 := hS1.cell (i := 2) rfl
      have vf := hS1.frozen
      clear h
      go_wp2
      refine bodyPost_ret (v := .agg #[.int .i64 0, .int .i64 next, .int .i64 (maskE next els : Int)]) (by simp [results, Try.results50, go_sem, p0, p1, p2]) rfl ?_
      exact ⟨by rw [H0.out, e0.out.1, e0.out.2], ((hbel.setCell (by simp) _).setCell (by simp) _).setCell (by simp) _⟩
end Go.Proofs.Ytgmbofoneeagiaa
