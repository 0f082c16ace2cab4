import Derived.Test.YtbelplonlcdahaaAckC
namespace Go.Proofs.Ytbelplonlcdahaa
open Go.RowKit

set_option maxHeartbeats 2000000 in
theorem l8AckOf_any (g : Nat) (next : Int) (A : Option Addr) (n c : Nat) (els : List HeldD) (A' : Option Addr) (n' c' np : Nat) (w : World) (hS : Stc w g [.int .i64 next, .slice A n c, .slice A' n' c'] 53) (h : Lst HeldD.cels 3 w A n els) (hn : n ≤ 1048576) (ok : RecOk next els np) :
    Calls Try.prog 103 #[.pointer (some ⟨g, 0, none⟩)] w fun e w' => e = .returned (.tuple #[.int .i64 next, .int .i64 (maskE next els : Int)]) ∧ Below w.heap.size w w' := by
  have v0 := hS.cell (i := 0) rfl
  have v1 := hS.cell (i := 1) rfl
  have hg := hS.lt
  have Hl := Shut.mk h.len
  have OK := Shut.mk ok
  have ok0 := ok.lo
  have ok1 := ok.hi
  clear ok hS
  go_enter Try.func103, Try.ntmps103
  go_wp2
  go_loopw [4, 13] (fun m i wr => ∃ k : Nat, k ≤ n ∧ i = .int .i64 k ∧ m = .int .i64 (maskE next (els.take k) : Int) ∧ Below w.heap.size w wr) (fun m i _ => n - (intOf i).toNat)
  case atStart => exact ⟨0, Nat.zero_le _, rfl, rfl, Below.refl _ _⟩
  case round =>
    obtain ⟨k, hk, rfl, rfl, hbel⟩ := hrel
    have hb' := bcell hbel
    by_cases hlt : k < n
    · obtain ⟨b, off, e, B, m, c'', rfl, hbs, he, g0, g1, g2, hB, hz⟩ := h.getHeld hlt
      obtain ⟨o1, o2, o3, _⟩ := OK.out.ahead e (List.mem_of_getElem? he.out)
      clear h hB g1 g2
      go_wp2
      go_quiet (fail)
      replace hbel := ad hbel nq
      clear hb'
      generalize wr.drewN nq = w1 at *
      have hb' := bcell hbel
      obtain ⟨d, hd⟩ : ∃ d : Nat, (d : Int) = e.f0 - next - 1 := ⟨(e.f0 - next - 1).toNat, by omega⟩
      have Hd := Shut.mk hd
      have hd6 : d ≤ 6 := by omega
      rw [← hd]
      clear hd
      go_wp2
      go_loopw [6, 7] (fun x y wr => ∃ t : Nat, t ≤ d ∧ y = .int .i64 ((d - t : Nat) : Int) ∧ x = .int .i64 ((2 ^ t : Nat) : Int) ∧ wr = w1) (fun x y _ => (intOf y).toNat)
      case atStart => exact ⟨0, Nat.zero_le _, rfl, rfl, rfl⟩
      case round =>
        obtain ⟨t, ht, rfl, rfl, rfl⟩ := hrel
        by_cases htd : t < d
        · have h64 : 2 ^ t ≤ 64 := Nat.pow_le_pow_right (n := 2) (j := 6) (by omega) (by omega)
          have e1 : Shut (((2 ^ t : Nat) : Int) * 2 = ((2 ^ (t + 1) : Nat) : Int)) := ⟨by rw [Nat.pow_succ]; push_cast; rfl⟩
          obtain ⟨p, hp⟩ : ∃ p : Nat, p = 2 ^ t := ⟨_, rfl⟩
          rw [← hp] at h64 e1 ⊢
          clear hp
          have t0 : decide (((d - t : Nat) : Int) > 0) = true := by simp; omega
          go_wp2
          go_roundw
          case rel => exact ⟨t + 1, by omega, by go_num, by rw [← e1.out], trivial⟩
          case measure => simp [intOf]; omega
        · obtain rfl : t = d := by omega
          have t0 : decide (((t - t : Nat) : Int) > 0) = false := by simp
          have e1 : Shut (((maskE next (els.take k) : Nat) : Int) + ((2 ^ t : Nat) : Int) = ((maskE next (els.take (k + 1)) : Nat) : Int) ∧ maskE next (els.take (k + 1)) ≤ 128 ∧ 2 ^ t ≤ 64) := ⟨by
            have h64 : 2 ^ t ≤ 64 := Nat.pow_le_pow_right (n := 2) (j := 6) (by omega) (by omega)
            have hs : maskE next (els.take (k + 1)) = maskE next (els.take k) + bitE next e := sumE_take_succ (bitE next) he.out
            have hlt2 := mask_lt OK.out k e he.out
            have hb : bitE next e = 2 ^ t := by unfold bitE; rw [← Hd.out]; rfl
            rw [hb] at hs hlt2
            rw [hs]
            refine ⟨by push_cast; rfl, by omega, h64⟩⟩
          obtain ⟨e1, e2, e3⟩ := e1.out
          obtain ⟨p, hp⟩ : ∃ p : Nat, p = 2 ^ t := ⟨_, rfl⟩
          rw [← hp] at e1 e3 ⊢
          have E1 := Shut.mk e1
          have hmx : maskE next (els.take k) ≤ 128 := by omega
          clear hp e1
          go_wp2
          go_roundw
          case rel => exact ⟨k + 1, by omega, by go_num, by rw [← E1.out], hbel⟩
          case measure => simp [intOf]; omega
    · obtain rfl : k = n := by omega
      rw [List.take_of_length_le (by rw [Hl.out]; exact Nat.le_refl _)]
      clear h
      go_wp2
      go_ret2
      exact ⟨rfl, hbel⟩

set_option maxHeartbeats 2000000 in
theorem specAckOf_any (next : Int) (A : Option Addr) (n c : Nat) (els : List HeldD) (A' : Option Addr) (n' c' : Nat) (w : World) (h : Lst HeldD.cels 3 w A n els) (hn : n ≤ 1048576) (hn' : n' ≤ 1048576) :
    Calls Try.prog 35 #[.agg #[.int .i64 next, .slice A n c, .slice A' n' c']] w fun e w' => e = .returned (.agg #[.int .i64 (recF next els n'), .int .i64 (ackA next els n'), .int .i64 (ackM next els n')]) ∧ Below w.heap.size w w' := by
  have hf := fun W (hh : Below w.heap.size w W) => specReceiverFault_any next A n c els A' n' c' W (h.below hh) hn hn'
  have S0 := (Stc.new w 53 [.int .i64 next, .slice A n c, .slice A' n' c'] _ rfl).alloc (.cells #[.int .i64 0, .int .i64 0, .int .i64 0] 56)
  have S1 := (Stc.new (w.alloc (.cells #[.int .i64 next, .slice A n c, .slice A' n' c'] 53)) 56 [.int .i64 0, .int .i64 0, .int .i64 0] _ rfl)
  have B0 := ab (ab (Below.refl _ w) (.cells #[.int .i64 next, .slice A n c, .slice A' n' c'] 53)) (.cells #[.int .i64 0, .int .i64 0, .int .i64 0] 56)
  simp only [World.size_alloc] at S1
  by_cases h0 : recF next els n' = 0
  rotate_left
  · have e0 : Shut (ackA next els n' = 0 ∧ ackM next els n' = 0) := ⟨by unfold ackA ackM; rw [if_neg h0, if_neg h0]; exact ⟨rfl, rfl⟩⟩
    have t0 : (recF next els n' != 0) = true := by simpa using h0
    obtain ⟨z, hz⟩ : ∃ z, z = recF next els n' := ⟨_, rfl⟩
    rw [← hz] at hf t0
    have Hz := Shut.mk hz
    clear hz h0
    go_enter Try.func35, Try.ntmps35
    go_wp2_with fail
    refine (hf _ B0).mono ?_
    rintro e w1 ⟨rfl, b1⟩
    have B1 := ac B0 b1
    replace S1 := S1.below b1 S1.lt
    have v0 := S1.cell (i := 0) rfl
    have v1 := S1.cell (i := 1) rfl
    have v2 := S1.cell (i := 2) rfl
    have vf := S1.frozen
    go_wp2
    refine bodyPost_ret (v := .agg #[.int .i64 z, .int .i64 0, .int .i64 0]) (by simp [results, Try.results35, go_sem, v0, v1, v2]) rfl ?_
    refine ⟨by rw [← Hz.out, e0.out.1, e0.out.2], ((B1.setCell (by simp) _).setCell (by simp) _).setCell (by simp) _⟩
  have ok := recF_zero h0
  have e0 : Shut (ackA next els n' = next ∧ ackM next els n' = (maskE next els : Int)) := ⟨by unfold ackA ackM; rw [if_pos h0, if_pos h0]; exact ⟨rfl, rfl⟩⟩
  have H0 := Shut.mk h0
  rw [h0] at hf
  have ha := fun W (hh : Below w.heap.size w W) hs => l8AckOf_any w.heap.size next A n c els A' n' c' n' W hs (h.below hh) hn ok
  clear h0 ok
  go_enter Try.func35, Try.ntmps35
  go_wp2_with fail
  refine (hf _ B0).mono ?_
  rintro e w1 ⟨rfl, b1⟩
  have B1 := ac B0 b1
  replace S0 := S0.below b1 S0.lt
  replace S1 := S1.below b1 S1.lt
  clear hf B0 b1
  go_wp2_with fail
  refine (ha _ B1 S0).mono ?_
  rintro e w2 ⟨rfl, b2⟩
  have B2 := ac B1 b2
  replace S1 := S1.below b2 S1.lt
  clear ha B1 b2 S0
  have v0 := S1.cell (i := 0) rfl
  have v1 := S1.cell (i := 1) rfl
  have v2 := S1.cell (i := 2) rfl
  have vf := S1.frozen
  go_wp2
  refine bodyPost_ret (v := .agg #[.int .i64 0, .int .i64 next, .int .i64 (maskE next els : Int)]) (by simp [results, Try.results35, go_sem, v0, v1, v2]) rfl ?_
  exact ⟨by rw [H0.out, e0.out.1, e0.out.2], ((B2.setCell (by simp) _).setCell (by simp) _).setCell (by simp) _⟩
end Go.Proofs.Ytbelplonlcdahaa
