import Derived.Test.YtgmbofoneeagiaaRcvF
import Derived.Test.YtgmbofoneeagiaaSndG
namespace Go.Proofs.Ytgmbofoneeagiaa
open Go.RowKit

set_option linter.unusedVariables false in
set_option maxHeartbeats 2000000 in
theorem implReceiverFault_any (next : Int) (A : Option Addr) (n c : Nat) (els : List HeldD) (A' : Option Addr) (n' c' : Nat) (w : World) (h : Lst HeldD.cels 3 w A n els) (hn : n ≤ 1048576) (hn' : n' ≤ 1048576) :
    Calls Try.prog 59 #[.agg #[.int .i64 next, .slice A n c, .slice A' n' c']] w fun e w' => e = .returned (.int .i64 (recF next els n')) ∧ Below w.heap.size w w' := by
  have hl := h.len
  have Hl := Shut.mk hl
  by_cases h0 : 0 ≤ next ∧ next ≤ 10000
  rotate_left
  · have e0 := Shut.mk (recF_num (els := els) (np := n') h0)
    clear hl
    by_cases q0 : next < 0
    · have t0 : decide (next < 0) = true := by simp; omega
      go_enter Try.func59, Try.ntmps59
      go_wp2
      go_ret
      exact ⟨by rw [e0.out]; rfl, ab (Below.refl _ _) _⟩
    · have t0 : decide (next < 0) = false := by simp; omega
      have t1 : decide (next > 10000) = true := by simp; omega
      go_enter Try.func59, Try.ntmps59
      go_wp2
      go_ret
      exact ⟨by rw [e0.out]; rfl, ab (Below.refl _ _) _⟩
  have t0 : decide (next < 0) = false := by simp; omega
  have t1 : decide (next > 10000) = false := by simp; omega
  by_cases h1 : 200 < n'
  · have e0 := Shut.mk (recF_many (els := els) h0 h1)
    have t2 : decide ((n' : Int) > 200) = true := by simp; omega
    clear hl
    go_enter Try.func59, Try.ntmps59
    go_wp2
    go_ret
    exact ⟨by rw [e0.out]; rfl, ab (Below.refl _ _) _⟩
  have t2 : decide ((n' : Int) > 200) = false := by simp; omega
  clear hl
  have S0 := Stc.new w 85 [.int .i64 next, .slice A n c, .slice A' n' c'] _ rfl
  have B0 := ab (Below.refl _ w) (.cells #[.int .i64 next, .slice A n c, .slice A' n' c'] 85)
  go_enter Try.func59, Try.ntmps59
  go_wp2
  go_loopw [21] (fun i wr => ∃ k : Nat, k ≤ n ∧ i = .int .i64 k ∧ Shut (firstF (heldF next) (els.take k) = 0) ∧ Stc wr w.heap.size [.int .i64 next, .slice A n c, .slice A' n' c'] 85 ∧ Below w.heap.size w wr) (fun i _ => n - (intOf i).toNat)
  case atStart => exact ⟨0, Nat.zero_le _, rfl, ⟨rfl⟩, S0, B0⟩
  case round =>
    obtain ⟨k, hk, rfl, hF, hS, hbel⟩ := hrel
    by_cases hlt : k < n
    · obtain ⟨b, off, e, B, m, c'', rfl, hbs, he, g0, g1, g2, hB, hz⟩ := h.getHeld hlt
      have hb' := bcell hbel
      have v0 := hS.cell (i := 0) rfl
      have hl1 := hS.lt
      have htp := fun W => heldFault_any e next B m c'' hB.len h0.1 h0.2 W
      by_cases hf : heldF next e = 0
      · have hF' := Shut.mk (firstF_succ (heldF next) he.out hF.out hf)
        rw [hf] at htp
        clear hf hB
        go_wp2_with fail
        refine (htp _).mono ?_
        rintro e1 w1 ⟨rfl, b1⟩
        clear v0
        go_wp2
        go_roundw
        case rel => exact ⟨k + 1, by omega, by go_num, hF', (hS.alloc _).below b1 (by simp; omega), ac (ab hbel _) b1⟩
        case measure => simp [intOf]; omega
      · have e0 : Shut (recF next els n' = heldF next e) := ⟨by
          have h2 := firstF_at (heldF next) he.out hF.out hf
          rw [recF_held h0 h1 (by rw [h2]; exact hf), h2]⟩
        have t3 : (heldF next e != 0) = true := by simpa using hf
        obtain ⟨z, hz'⟩ : ∃ z, z = heldF next e := ⟨_, rfl⟩
        rw [← hz'] at htp t3 e0
        clear hf hB hz' h
        go_wp2_with fail
        refine (htp _).mono ?_
        rintro e1 w1 ⟨rfl, b1⟩
        clear v0
        go_wp2
        go_ret
        exact ⟨by rw [e0.out]; rfl, ac (ab hbel _) b1⟩
    · obtain rfl : k = n := by omega
      rw [List.take_of_length_le (by rw [Hl.out]; exact Nat.le_refl _)] at hF
      have q1 := hS.cell (i := 1) rfl
      have hr := fun W (hh : Below w.heap.size w W) => rises_any A k c els W (h.below hh) hn
      by_cases hR : allAt (upB els) 0 els = true
      · have e0 := Shut.mk (recF_ok h0 h1 hF.out hR)
        rw [hR] at hr
        clear hR h
        go_wp2_with fail
        refine (hr _ hbel).mono ?_
        rintro e1 w1 ⟨rfl, b1⟩
        clear q1
        go_wp2
        go_ret
        exact ⟨by rw [e0.out]; rfl, ac hbel b1⟩
      · have hR' : allAt (upB els) 0 els = false := by simpa using hR
        have e0 := Shut.mk (recF_form h0 h1 hF.out hR')
        rw [hR'] at hr
        clear hR hR' h
        go_wp2_with fail
        refine (hr _ hbel).mono ?_
        rintro e1 w1 ⟨rfl, b1⟩
        clear q1
        go_wp2
        go_ret
        exact ⟨by rw [e0.out]; rfl, ac hbel b1⟩

theorem Min_any (x y : Int) (w : World) :
    Calls Try.prog 141 #[.int .i64 x, .int .i64 y] w fun e w' => e = .returned (.int .i64 (if x < y then x else y)) ∧ w = w' := by
  by_cases h : x < y
  · rw [if_pos h]
    go_enter Try.func141, Try.ntmps141
    go_wp2
    go_ret
    exact ⟨rfl, rfl⟩
  · rw [if_neg h]
    go_enter Try.func141, Try.ntmps141
    go_wp2
    go_ret
    exact ⟨rfl, rfl⟩

set_option linter.unusedVariables false in
set_option maxHeartbeats 4000000 in
theorem specReceiverFault_any (next : Int) (A : Option Addr) (n c : Nat) (els : List HeldD) (A' : Option Addr) (n' c' : Nat) (w : World) (h : Lst HeldD.cels 3 w A n els) (hn : n ≤ 1048576) (hn' : n' ≤ 1048576) :
    Calls Try.prog 60 #[.agg #[.int .i64 next, .slice A n c, .slice A' n' c']] w fun e w' => e = .returned (.int .i64 (recF next els n')) ∧ Below w.heap.size w w' := by
  have hl := h.len
  have Hl := Shut.mk hl
  have hN := fun W => In_any next 0 10000 W
  by_cases h0 : 0 ≤ next ∧ next ≤ 10000
  rotate_left
  · have e0 := Shut.mk (recF_num (els := els) (np := n') h0)
    have e1 : inB next 0 10000 = false := by unfold inB; simpa using h0
    rw [e1] at hN
    clear hl
    go_enter Try.func60, Try.ntmps60
    go_wp2_with fail
    refine (hN _).mono ?_
    rintro e1 w1 ⟨rfl, rfl⟩
    go_wp2
    go_ret
    exact ⟨by rw [e0.out]; rfl, ab (Below.refl _ _) _⟩
  have e1 : inB next 0 10000 = true := by unfold inB; simpa using h0
  rw [e1] at hN
  clear e1
  by_cases h1 : 200 < n'
  · have e0 := Shut.mk (recF_many (els := els) h0 h1)
    have t2 : decide ((n' : Int) > 200) = true := by simp; omega
    clear hl
    go_enter Try.func60, Try.ntmps60
    go_wp2_with fail
    refine (hN _).mono ?_
    rintro e1 w1 ⟨rfl, rfl⟩
    go_wp2
    go_ret
    exact ⟨by rw [e0.out]; rfl, ab (Below.refl _ _) _⟩
  have t2 : decide ((n' : Int) > 200) = false := by simp; omega
  clear hl
  have S0 := Stc.new w 85 [.int .i64 next, .slice A n c, .slice A' n' c'] _ rfl
  have B0 := ab (Below.refl _ w) (.cells #[.int .i64 next, .slice A n c, .slice A' n' c'] 85)
  have hM : ∀ W : World, Calls Try.prog 141 #[.int .i64 (next + 7), .int .i64 9999] W fun e w' => e = .returned (.int .i64 (if next + 7 < 9999 then next + 7 else 9999)) ∧ W = w' := fun W => Min_any _ _ W
  obtain ⟨top, htop⟩ : ∃ top, top = (if next + 7 < 9999 then next + 7 else 9999) := ⟨_, rfl⟩
  rw [← htop] at hM
  have Ht : top ≤ next + 7 ∧ top ≤ 9999 ∧ (next + 7 ≤ top ∨ 9999 ≤ top) := by split at htop <;> omega
  clear htop
  go_enter Try.func60, Try.ntmps60
  go_wp2_with fail
  refine (hN _).mono ?_
  rintro e1 w1 ⟨rfl, rfl⟩
  go_wp2
  clear hN
  go_loopw [16] (fun i wr => ∃ k : Nat, k ≤ n ∧ i = .int .i64 k ∧ Shut (firstF (heldF next) (els.take k) = 0) ∧ Stc wr w.heap.size [.int .i64 next, .slice A n c, .slice A' n' c'] 85 ∧ Below w.heap.size w wr) (fun i _ => n - (intOf i).toNat)
  case atStart => exact ⟨0, Nat.zero_le _, rfl, ⟨rfl⟩, S0, B0⟩
  case round =>
    obtain ⟨k, hk, rfl, hF, hS, hbel⟩ := hrel
    by_cases hlt : k < n
    · obtain ⟨b, off, e, B, m, c'', rfl, hbs, he, g0, g1, g2, hB, hz⟩ := h.getHeld hlt
      have hb' := bcell hbel
      have v0 := hS.cell (i := 0) rfl
      have v1 := hS.cell (i := 1) rfl
      have hml := hB.len
      have hI := Shut.mk (fun W => In_any e.f0 (next + 1) top W)
      have hM' := Shut.mk hM
      by_cases ha : next + 1 ≤ e.f0 ∧ e.f0 ≤ next + 7 ∧ e.f0 ≤ 9999
      · have e1 : inB e.f0 (next + 1) top = true := by unfold inB; simp; omega
        rw [e1] at hI
        have ha' : aheadB next e.f0 = true := by unfold aheadB; simpa using ha
        by_cases hm : 32 < m
        · have hf : heldF next e = 2 := by unfold heldF; rw [if_neg (by simp [ha']), if_pos (by omega)]
          have e0 : Shut (recF next els n' = 2) := ⟨by
            have h2 := firstF_at (heldF next) he.out hF.out (by rw [hf]; decide)
            rw [recF_held h0 h1 (by rw [h2, hf]; decide), h2, hf]⟩
          have t3 : decide ((m : Int) > 32) = true := by simp; omega
          clear hml hf hB h e1 ha ha'
          go_wp2
          go_quiet (first | (go_at_call 141; refine Calls.quiet_of_same ((hM'.out _).mono fun _ _ h => ⟨h.1, h.2.symm⟩)) | (go_at_call 87; refine Calls.quiet_of_same ((hI.out _).mono fun _ _ h => ⟨h.1, h.2.symm⟩)))
          replace hbel := ad hbel nq
          replace hS := hS.drewN nq
          clear v0 v1 hb'
          generalize wr.drewN nq = w1 at *
          have hb' := bcell hbel
          have v1 := hS.cell (i := 1) rfl
          go_wp2
          go_ret
          exact ⟨by rw [e0.out]; rfl, hbel⟩
        · have hf : heldF next e = 0 := by unfold heldF; rw [if_neg (by simp [ha']), if_neg (by omega)]
          have hF' := Shut.mk (firstF_succ (heldF next) he.out hF.out hf)
          have t3 : decide ((m : Int) > 32) = false := by simp; omega
          clear hml hf hB h e1 ha ha'
          go_wp2
          go_quiet (first | (go_at_call 141; refine Calls.quiet_of_same ((hM'.out _).mono fun _ _ h => ⟨h.1, h.2.symm⟩)) | (go_at_call 87; refine Calls.quiet_of_same ((hI.out _).mono fun _ _ h => ⟨h.1, h.2.symm⟩)))
          replace hbel := ad hbel nq
          replace hS := hS.drewN nq
          clear v0 v1 hb'
          generalize wr.drewN nq = w1 at *
          have hb' := bcell hbel
          have v1 := hS.cell (i := 1) rfl
          go_wp2
          go_roundw
          case rel => exact ⟨k + 1, by omega, by go_num, hF', hS, hbel⟩
          case measure => simp [intOf]; omega
      · have e1 : inB e.f0 (next + 1) top = false := by unfold inB; simp; omega
        rw [e1] at hI
        have ha' : aheadB next e.f0 = false := by unfold aheadB; simpa using ha
        have hf : heldF next e = 3 := by unfold heldF; rw [if_pos ha']
        have e0 : Shut (recF next els n' = 3) := ⟨by
          have h2 := firstF_at (heldF next) he.out hF.out (by rw [hf]; decide)
          rw [recF_held h0 h1 (by rw [h2, hf]; decide), h2, hf]⟩
        clear hml hf hB h e1 ha ha'
        go_wp2
        go_quiet (first | (go_at_call 141; refine Calls.quiet_of_same ((hM'.out _).mono fun _ _ h => ⟨h.1, h.2.symm⟩)) | (go_at_call 87; refine Calls.quiet_of_same ((hI.out _).mono fun _ _ h => ⟨h.1, h.2.symm⟩)))
        replace hbel := ad hbel nq
        generalize wr.drewN nq = w1 at *
        go_wp2
        go_ret
        exact ⟨by rw [e0.out]; rfl, hbel⟩
    · obtain rfl : k = n := by omega
      rw [List.take_of_length_le (by rw [Hl.out]; exact Nat.le_refl _)] at hF
      go_wp2
      go_loopw [4] (fun i wr => ∃ j : Nat, j + 1 ≤ k + 1 ∧ i = .int .i64 ((j : Int) + 1) ∧ Shut (allAt (upB els) 0 (els.take (j + 1)) = true) ∧ Stc wr w.heap.size [.int .i64 next, .slice A k c, .slice A' n' c'] 85 ∧ Below w.heap.size w wr) (fun i _ => k + 1 - (intOf i).toNat)
      case atStart =>
        refine ⟨0, by omega, rfl, ⟨?_⟩, hS, hbel⟩
        cases els with
        | nil => rfl
        | cons x r => rfl
      case round =>
        obtain ⟨j, hj, rfl, hA, hS', hbel'⟩ := hrel
        have v1 := hS'.cell (i := 1) rfl
        by_cases hlt' : j + 1 < k
        · obtain ⟨b, off, e, B, m, c'', rfl, hbs, he, g0, g1, g2, hB, hz⟩ := h.getHeld hlt'
          obtain ⟨b', off', e', B', m', c3, hA', hbs', he', g0', g1', g2', hB', hz'⟩ := h.getHeld (k := j) (by omega)
          injection hA' with hA'
          injection hA' with q1 q2 _
          subst q1 q2
          have hb' := bcell hbel'
          have hu : upB els (j + 1) e = decide (e'.f0 < e.f0) := by
            show (match els[j]? with | some p => decide (p.f0 < e.f0) | none => true) = _
            rw [he'.out]
          have t3 : decide ((j : Int) + 1 < (k : Int)) = true := by simp; omega
          clear g1 g2 g1' g2' hB hB' h
          by_cases hf : e'.f0 < e.f0
          · have hA2 := Shut.mk (allAt_succ (upB els) he.out hA.out (by rw [hu]; simpa using hf))
            have t4 : decide (e.f0 ≤ e'.f0) = false := by simp; omega
            clear hu
            go_wp2
            go_quiet (fail)
            replace hbel' := ad hbel' nq
            replace hS' := hS'.drewN nq
            generalize wr.drewN nq = w1 at *
            go_wp2
            go_roundw
            case rel => exact ⟨j + 1, by omega, by go_num, hA2, hS', hbel'⟩
            case measure => simp [intOf]; omega
          · have e0 := Shut.mk (recF_form h0 h1 hF.out (allAt_at (upB els) he.out (by rw [hu]; simpa using hf)))
            have t4 : decide (e.f0 ≤ e'.f0) = true := by simp; omega
            clear hu
            go_wp2
            go_quiet (fail)
            replace hbel' := ad hbel' nq
            generalize wr.drewN nq = w1 at *
            go_wp2
            go_ret
            exact ⟨by rw [e0.out]; rfl, hbel'⟩
        · have e0 : Shut (recF next els n' = 0) := ⟨by
            have := hA.out
            rw [List.take_of_length_le (by rw [Hl.out]; omega)] at this
            exact recF_ok h0 h1 hF.out this⟩
          have t3 : decide ((j : Int) + 1 < (k : Int)) = false := by simp; omega
          go_wp2
          go_ret
          exact ⟨by rw [e0.out]; rfl, hbel'⟩
end Go.Proofs.Ytgmbofoneeagiaa
