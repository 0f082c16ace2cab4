import Derived.Test.YtgmbofoneeagiaaSndF
namespace Go.Proofs.Ytgmbofoneeagiaa
open Go.RowKit

theorem senF_nums {base : Int} {els : List PartD} (h : numsB base els.length = false) : senF base els = 3 := by unfold senF; rw [if_pos h]
theorem senF_many {base : Int} {els : List PartD} (h : numsB base els.length = true) (h1 : 24 < els.length) : senF base els = 2 := by unfold senF; rw [if_neg (by simp [h]), if_pos h1]
theorem senF_part {base : Int} {els : List PartD} (h : numsB base els.length = true) (h1 : ¬ 24 < els.length) (h2 : firstF partF els ≠ 0) : senF base els = firstF partF els := by unfold senF; rw [if_neg (by simp [h]), if_neg h1, if_pos h2]
theorem senF_place {base : Int} {els : List PartD} (h : numsB base els.length = true) (h1 : ¬ 24 < els.length) (h2 : firstF partF els = 0) (h3 : allAt placeB 0 els = false) : senF base els = 8 := by unfold senF; rw [if_neg (by simp [h]), if_neg h1, if_neg (by simp [h2]), if_pos h3]
theorem senF_ok {base : Int} {els : List PartD} (h : numsB base els.length = true) (h1 : ¬ 24 < els.length) (h2 : firstF partF els = 0) (h3 : allAt placeB 0 els = true) : senF base els = 0 := by unfold senF; rw [if_neg (by simp [h]), if_neg h1, if_neg (by simp [h2]), if_neg (by simp [h3])]

set_option maxHeartbeats 2000000 in
theorem implSenderFault_any (base : Int) (A : Option Addr) (n c : Nat) (els : List PartD) (w : World) (h : Lst PartD.cels 4 w A n els) (hn : n ≤ 1048576) :
    Calls Try.prog 43 #[.agg #[.int .i64 base, .slice A n c]] w fun e w' => e = .returned (.int .i64 (senF base els)) ∧ Below w.heap.size w w' := by
  have hN := fun W => hasNumbers_any base n (by omega) W
  have hl := h.len
  have Hl := Shut.mk hl
  by_cases h0 : numsB base n = false
  · have e0 := Shut.mk (senF_nums (base := base) (els := els) (by rw [hl]; exact h0))
    rw [h0] at hN
    clear hl
    go_enter Try.func43, Try.ntmps43
    go_wp2_with fail
    refine (hN _).mono ?_
    rintro e1 w1 ⟨rfl, rfl⟩
    go_wp2
    go_ret
    exact ⟨by rw [e0.out]; rfl, ab (Below.refl _ _) _⟩
  have h0' : numsB base n = true := by simpa using h0
  rw [h0'] at hN
  rw [← hl] at h0'
  have HN := Shut.mk h0'
  clear h0' h0
  by_cases h1 : 24 < n
  · have e0 := Shut.mk (senF_many HN.out (by rw [hl]; exact h1))
    clear hl
    have t0 : decide ((n : Int) > 24) = true := by simp; omega
    go_enter Try.func43, Try.ntmps43
    go_wp2_with fail
    refine (hN _).mono ?_
    rintro e1 w1 ⟨rfl, rfl⟩
    go_wp2
    go_ret
    exact ⟨by rw [e0.out]; rfl, ab (Below.refl _ _) _⟩
  have H1 : Shut (¬ 24 < els.length) := ⟨by rw [hl]; exact h1⟩
  have t0 : decide ((n : Int) > 24) = false := by simp; omega
  clear hl
  have S0 := Stc.new w 58 [.int .i64 base, .slice A n c] _ rfl
  have B0 := ab (Below.refl _ w) (.cells #[.int .i64 base, .slice A n c] 58)
  go_enter Try.func43, Try.ntmps43
  go_wp2_with fail
  refine (hN _).mono ?_
  rintro e1 w1 ⟨rfl, rfl⟩
  go_wp2
  go_loopw [22] (fun i wr => ∃ k : Nat, k ≤ n ∧ i = .int .i64 k ∧ Shut (firstF partF (els.take k) = 0) ∧ Stc wr w.heap.size [.int .i64 base, .slice A n c] 58 ∧ Below w.heap.size w wr) (fun i _ => n - (intOf i).toNat)
  case atStart => exact ⟨0, Nat.zero_le _, rfl, ⟨rfl⟩, S0, B0⟩
  case round =>
    obtain ⟨k, hk, rfl, hF, hS, hbel⟩ := hrel
    by_cases hlt : k < n
    · obtain ⟨b, off, e, B, m, c', rfl, hbs, he, g0, g1, g2, g3, hB, hz⟩ := h.getPart hlt
      have hb' := bcell hbel
      have htp := fun W => fault_any e B m c' hB.len W
      by_cases hf : partF e = 0
      · have hF' := Shut.mk (firstF_succ partF he.out hF.out hf)
        rw [hf] at htp
        clear hf hB
        go_wp2_with fail
        refine (htp _).mono ?_
        rintro e1 w1 ⟨rfl, b1⟩
        have hl1 := hS.lt
        go_wp2
        go_roundw
        case rel => exact ⟨k + 1, by omega, by go_num, hF', (hS.alloc _).below b1 (by simp; omega), ac (ab hbel _) b1⟩
        case measure => simp [intOf]; omega
      · have e0 : Shut (senF base els = partF e) := ⟨by
          have h2 := firstF_at partF he.out hF.out hf
          rw [senF_part HN.out H1.out (by rw [h2]; exact hf), h2]⟩
        have t2 : (partF e != 0) = true := by simpa using hf
        obtain ⟨z, hz'⟩ : ∃ z, z = partF e := ⟨_, rfl⟩
        rw [← hz'] at htp t2 e0
        clear hf hB hz' h
        go_wp2_with fail
        refine (htp _).mono ?_
        rintro e1 w1 ⟨rfl, b1⟩
        go_wp2
        go_ret
        exact ⟨by rw [e0.out]; rfl, ac (ab hbel _) b1⟩
    · obtain rfl : k = n := by omega
      rw [List.take_of_length_le (by rw [Hl.out]; exact Nat.le_refl _)] at hF
      have q0 := hS.cell (i := 0) rfl
      have q1 := hS.cell (i := 1) rfl
      go_wp2
      go_loopw [35] (fun i wr => ∃ k' : Nat, k' ≤ k ∧ i = .int .i64 k' ∧ Shut (allAt placeB 0 (els.take k') = true) ∧ Below w.heap.size w wr) (fun i _ => k - (intOf i).toNat)
      case atStart => exact ⟨0, Nat.zero_le _, rfl, ⟨rfl⟩, hbel⟩
      case round =>
        obtain ⟨k', hk', rfl, hA, hbel'⟩ := hrel
        by_cases hlt' : k' < k
        · obtain ⟨b, off, e, B, m, c', rfl, hbs, he, g0, g1, g2, g3, hB, hz⟩ := h.getPart hlt'
          have hb' := bcell hbel'
          have htp := fun W => fitsPlace_any e k' B m c' (by omega) W
          by_cases hf : placeB k' e = true
          · have hA' := Shut.mk (allAt_succ placeB he.out hA.out hf)
            rw [hf] at htp
            clear hf hB h
            go_wp2_with fail
            refine (htp _).mono ?_
            rintro e1 w1 ⟨rfl, b1⟩
            go_wp2
            go_roundw
            case rel => exact ⟨k' + 1, by omega, by go_num, hA', ac (ab hbel' _) b1⟩
            case measure => simp [intOf]; omega
          · have hf' : placeB k' e = false := by simpa using hf
            have e0 : Shut (senF base els = 8) := ⟨senF_place HN.out H1.out hF.out (allAt_at placeB he.out hf')⟩
            rw [hf'] at htp
            clear hf hf' hB h
            go_wp2_with fail
            refine (htp _).mono ?_
            rintro e1 w1 ⟨rfl, b1⟩
            go_wp2
            go_ret
            exact ⟨by rw [e0.out]; rfl, ac (ab hbel' _) b1⟩
        · obtain rfl : k' = k := by omega
          rw [List.take_of_length_le (by rw [Hl.out]; exact Nat.le_refl _)] at hA
          have e0 : Shut (senF base els = 0) := ⟨senF_ok HN.out H1.out hF.out hA.out⟩
          go_wp2
          go_ret
          exact ⟨by rw [e0.out]; rfl, hbel'⟩
end Go.Proofs.Ytgmbofoneeagiaa
