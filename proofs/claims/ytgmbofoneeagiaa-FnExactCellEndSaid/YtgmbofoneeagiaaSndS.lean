import Derived.Test.YtgmbofoneeagiaaSndG
namespace Go.Proofs.Ytgmbofoneeagiaa
open Go.RowKit

theorem numsB_in {base : Int} {n : Nat} : numsB base n = (inB base 0 9975 && decide (base + (n : Int) ≤ 9975)) := by
  unfold numsB inB
  rw [Bool.eq_iff_iff]
  simp
  omega

set_option linter.unusedSimpArgs false in
set_option linter.unusedVariables false in
set_option maxHeartbeats 4000000 in
theorem specSenderFault_any (base : Int) (A : Option Addr) (n c : Nat) (els : List PartD) (w : World) (h : Lst PartD.cels 4 w A n els) (hn : n ≤ 1048576) :
    Calls Try.prog 44 #[.agg #[.int .i64 base, .slice A n c]] w fun e w' => e = .returned (.int .i64 (senF base els)) ∧ Below w.heap.size w w' := by
  have hN := fun W => In_any base 0 9975 W
  have hl := h.len
  have Hl := Shut.mk hl
  by_cases h0 : inB base 0 9975 = false
  · have e0 := Shut.mk (senF_nums (base := base) (els := els) (by rw [numsB_in, h0]; rfl))
    rw [h0] at hN
    clear hl
    go_enter Try.func44, Try.ntmps44
    go_wp2_with fail
    refine (hN _).mono ?_
    rintro e1 w1 ⟨rfl, rfl⟩
    go_wp2
    go_ret
    exact ⟨by rw [e0.out]; rfl, ab (Below.refl _ _) _⟩
  have h0' : inB base 0 9975 = true := by simpa using h0
  have hbs : 0 ≤ base ∧ base ≤ 9975 := by simpa [inB] using h0'
  rw [h0'] at hN
  by_cases h2 : base + (n : Int) > 9975
  · have e0 := Shut.mk (senF_nums (base := base) (els := els) (by rw [numsB_in, h0', hl]; simp; omega))
    have t0 : decide (base + (n : Int) > 9975) = true := by simp; omega
    clear hl
    go_enter Try.func44, Try.ntmps44
    go_wp2_with fail
    refine (hN _).mono ?_
    rintro e1 w1 ⟨rfl, rfl⟩
    go_wp2
    go_ret
    exact ⟨by rw [e0.out]; rfl, ab (Below.refl _ _) _⟩
  have HN : Shut (numsB base els.length = true) := ⟨by rw [numsB_in, h0', hl]; simp; omega⟩
  have tn : decide (base + (n : Int) > 9975) = false := by simp; omega
  clear h0' h0
  by_cases h1 : 24 < n
  · have e0 := Shut.mk (senF_many HN.out (by rw [hl]; exact h1))
    clear hl
    have t0 : decide ((n : Int) > 24) = true := by simp; omega
    go_enter Try.func44, Try.ntmps44
    go_wp2_with fail
    refine (hN _).mono ?_
    rintro e1 w1 ⟨rfl, rfl⟩
    go_wp2
    go_ret
    exact ⟨by rw [e0.out]; rfl, ab (Below.refl _ _) _⟩
  have H1 : Shut (¬ 24 < els.length) := ⟨by rw [hl]; exact h1⟩
  have t0 : decide ((n : Int) > 24) = false := by simp; omega
  clear hl
  have S0 := Stc.new w 58 [.int .i64 base, .slice A n c] _ rfl
  have B0 := ab (Below.refl _ w) (.cells #[.int .i64 base, .slice A n c] 58)
  go_enter Try.func44, Try.ntmps44
  go_wp2_with fail
  refine (hN _).mono ?_
  rintro e1 w1 ⟨rfl, rfl⟩
  go_wp2
  go_loopw [26] (fun i wr => ∃ k : Nat, k ≤ n ∧ i = .int .i64 k ∧ Shut (firstF partF (els.take k) = 0) ∧ Stc wr w.heap.size [.int .i64 base, .slice A n c] 58 ∧ Below w.heap.size w wr) (fun i _ => n - (intOf i).toNat)
  case atStart => exact ⟨0, Nat.zero_le _, rfl, ⟨rfl⟩, S0, B0⟩
  case round =>
    obtain ⟨k, hk, rfl, hF, hS, hbel⟩ := hrel
    by_cases hlt : k < n
    · obtain ⟨b, off, e, B, m, c', rfl, hbs, he, g0, g1, g2, g3, hB, hz⟩ := h.getPart hlt
      have hb' := bcell hbel
      have q1 := hS.cell (i := 1) rfl
      have hml := hB.len
      have hsl := fun W => Slot_any e.f2 W
      by_cases hm : 32 < m
      · have hf : partF e = 2 := by unfold partF; rw [if_pos (by omega)]
        have e0 : Shut (senF base els = 2) := ⟨by
          have h2 := firstF_at partF he.out hF.out (by rw [hf]; decide)
          rw [senF_part HN.out H1.out (by rw [h2, hf]; decide), h2, hf]⟩
        have t1 : decide ((m : Int) > 32) = true := by simp; omega
        clear hml hf hB h
        go_wp2
        go_ret
        exact ⟨by rw [e0.out]; rfl, hbel⟩
      have t1 : decide ((m : Int) > 32) = false := by simp; omega
      by_cases hs : e.f2 = -1
      · have hf : partF e = 0 := by unfold partF sentB; rw [if_neg (by omega), if_neg (by simp [hs])]
        have hF' := Shut.mk (firstF_succ partF he.out hF.out hf)
        have t2 : (e.f2 != -1) = false := by simp [hs]
        clear hml hf hB h hs
        go_wp2
        go_roundw
        case rel => exact ⟨k + 1, by omega, by go_num, hF', hS, hbel⟩
        case measure => simp [intOf]; omega
      have t2 : (e.f2 != -1) = true := by simp [hs]
      by_cases hsb : slotB e.f2 = true
      · have hf : partF e = 0 := by unfold partF sentB; rw [if_neg (by omega), if_neg (by simp [hsb])]
        have hF' := Shut.mk (firstF_succ partF he.out hF.out hf)
        rw [hsb] at hsl
        clear hml hf hB h hs hsb
        go_wp2_with fail
        refine (hsl _).mono ?_
        rintro e1 w1 ⟨rfl, rfl⟩
        go_wp2
        go_roundw
        case rel => exact ⟨k + 1, by omega, by go_num, hF', hS, hbel⟩
        case measure => simp [intOf]; omega
      · have hsb' : slotB e.f2 = false := by simpa using hsb
        have hf : partF e = 3 := by unfold partF sentB; rw [if_neg (by omega), if_pos ⟨by simp [hs], hsb'⟩]
        have e0 : Shut (senF base els = 3) := ⟨by
          have h2 := firstF_at partF he.out hF.out (by rw [hf]; decide)
          rw [senF_part HN.out H1.out (by rw [h2, hf]; decide), h2, hf]⟩
        rw [hsb'] at hsl
        clear hml hf hB h hs hsb hsb'
        go_wp2_with fail
        refine (hsl _).mono ?_
        rintro e1 w1 ⟨rfl, rfl⟩
        go_wp2
        go_ret
        exact ⟨by rw [e0.out]; rfl, hbel⟩
    · obtain rfl : k = n := by omega
      rw [List.take_of_length_le (by rw [Hl.out]; exact Nat.le_refl _)] at hF
      have q0 := hS.cell (i := 0) rfl
      have q1 := hS.cell (i := 1) rfl
      go_wp2
      go_loopw [58] (fun i wr => ∃ k' : Nat, k' ≤ k ∧ i = .int .i64 k' ∧ Shut (allAt placeB 0 (els.take k') = true) ∧ Stc wr w.heap.size [.int .i64 base, .slice A k c] 58 ∧ Below w.heap.size w wr) (fun i _ => k - (intOf i).toNat)
      case atStart => exact ⟨0, Nat.zero_le _, rfl, ⟨rfl⟩, hS, hbel⟩
      case round =>
        obtain ⟨k', hk', rfl, hA, hS', hbel'⟩ := hrel
        by_cases hlt' : k' < k
        · obtain ⟨b, off, e, B, m, c', rfl, hbs, he, g0, g1, g2, g3, hB, hz⟩ := h.getPart hlt'
          have hb' := bcell hbel'
          have q1' := hS'.cell (i := 1) rfl
          clear hB h q0 q1
          cases hp : placeB k' e
          · have e0 : Shut (senF base els = 8) := ⟨senF_place HN.out H1.out hF.out (allAt_at placeB he.out hp)⟩
            by_cases i0 : k' = 0 <;> by_cases h8 : 8 ≤ k' <;> cases f3 : e.f3 <;> by_cases s1 : e.f2 = -1 <;> first
              | (exfalso; simp [placeB, sentB, i0, h8, f3, s1] at hp; done)
              | (exfalso; omega)
              | ((first | (have t3 : ((k' : Int) == 0) = true := by (simp; omega)) | (have t3 : ((k' : Int) == 0) = false := by (simp; omega)))
                 (first | (have t4 : decide ((k' : Int) ≥ 8) = true := by (simp; omega)) | (have t4 : decide ((k' : Int) ≥ 8) = false := by (simp; omega)))
                 (first | (have t5 : (e.f2 == -1) = true := by (simp; omega)) | (have t5 : (e.f2 == -1) = false := by (simp; omega)))
                 (first | (have t6 : (e.f2 != -1) = true := by (simp; omega)) | (have t6 : (e.f2 != -1) = false := by (simp; omega)))
                 rw [f3] at g3
                 (try have g3z := g3; rw [i0] at g3z; simp only [Nat.zero_mul, Nat.add_zero] at g3z)
                 (try have g2z := g2; rw [i0] at g2z; simp only [Nat.zero_mul, Nat.add_zero] at g2z)
                 clear hp i0 h8 f3 s1
                 go_wp2
                 go_ret
                 exact ⟨by rw [e0.out]; rfl, hbel'⟩)
          · have hA' := Shut.mk (allAt_succ placeB he.out hA.out hp)
            by_cases i0 : k' = 0 <;> by_cases h8 : 8 ≤ k' <;> cases f3 : e.f3 <;> by_cases s1 : e.f2 = -1 <;> first
              | (exfalso; simp [placeB, sentB, i0, h8, f3, s1] at hp; done)
              | (exfalso; omega)
              | ((first | (have t3 : ((k' : Int) == 0) = true := by (simp; omega)) | (have t3 : ((k' : Int) == 0) = false := by (simp; omega)))
                 (first | (have t4 : decide ((k' : Int) ≥ 8) = true := by (simp; omega)) | (have t4 : decide ((k' : Int) ≥ 8) = false := by (simp; omega)))
                 (first | (have t5 : (e.f2 == -1) = true := by (simp; omega)) | (have t5 : (e.f2 == -1) = false := by (simp; omega)))
                 (first | (have t6 : (e.f2 != -1) = true := by (simp; omega)) | (have t6 : (e.f2 != -1) = false := by (simp; omega)))
                 rw [f3] at g3
                 (try have g3z := g3; rw [i0] at g3z; simp only [Nat.zero_mul, Nat.add_zero] at g3z)
                 (try have g2z := g2; rw [i0] at g2z; simp only [Nat.zero_mul, Nat.add_zero] at g2z)
                 clear hp i0 h8 f3 s1
                 go_wp2
                 go_roundw
                 case rel => exact ⟨k' + 1, by omega, by go_num, hA', hS', hbel'⟩
                 case measure => (simp [intOf]; omega))
        · obtain rfl : k' = k := by omega
          rw [List.take_of_length_le (by rw [Hl.out]; exact Nat.le_refl _)] at hA
          have e0 : Shut (senF base els = 0) := ⟨senF_ok HN.out H1.out hF.out hA.out⟩
          clear q0 q1
          go_wp2
          go_ret
          exact ⟨by rw [e0.out]; rfl, hbel'⟩
end Go.Proofs.Ytgmbofoneeagiaa
