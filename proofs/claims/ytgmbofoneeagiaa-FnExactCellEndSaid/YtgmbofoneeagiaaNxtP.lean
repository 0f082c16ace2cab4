import Derived.Test.YtgmbofoneeagiaaNxtC
import Derived.WalkMore
namespace Go.Proofs.Ytgmbofoneeagiaa
open Go.RowKit

set_option linter.unusedVariables false in
set_option maxHeartbeats 4000000 in
theorem duePlace_any (g : Nat) (base now : Int) (A : Option Addr) (n c : Nat) (els : List PartD) (w : World) (hS : Stc w g [.int .i64 base, .slice A n c] 158) (h : Lst PartD.cels 4 w A n els) (hr : Rm A n c) (hn : n ≤ 1048576) (hs : ∀ e ∈ els, -1 ≤ e.f2 ∧ e.f2 ≤ 1000) (h0 : 0 ≤ now) (h1 : now ≤ 1000) :
    Calls Try.prog 117 #[.pointer (some ⟨g, 0, none⟩), .int .i64 now] w fun x w' => x = .returned (.int .i64 (choose now 0 (-1) els)) ∧ Below w.heap.size w w' := by
  have hg := hS.lt
  have v1 := hS.cell (i := 1) rfl
  have Hl := Shut.mk h.len
  obtain ⟨z, hz⟩ : ∃ z, z = choose now 0 (-1) els := ⟨_, rfl⟩
  rw [← hz]
  have Hz := Shut.mk hz
  clear hz
  have hnc := hr.1
  obtain ⟨N, hN⟩ : ∃ N : Nat, N = (if n ≤ 8 then n else 8) := ⟨_, rfl⟩
  have hN1 : N ≤ n ∧ N ≤ 8 ∧ (N = n ∨ N = 8) := by split at hN <;> omega
  go_enter Try.func117, Try.ntmps117
  go_wp2
  apply wp_scope_straight
  go_wp2
  apply wp_label
  go_wp2
  by_cases h8 : n ≤ 8
  · rw [if_pos h8] at hN
    go_quiet (fail)
    have bN := below_drewN (Below.refl w.heap.size w) nq
    go_wp2
    go_loopw [5, 20] (fun lt i wr => ∃ (k : Nat) (late : Int), k ≤ n ∧ i = .int .i64 k ∧ lt = .int .i64 late ∧ Shut (z = choose now k late (els.drop k)) ∧ -1 ≤ late ∧ late ≤ 8 ∧ Below w.heap.size w wr) (fun lt i _ => n - (intOf i).toNat)
    case atStart => exact ⟨0, -1, Nat.zero_le _, rfl, rfl, Hz, by omega, by omega, bN⟩
    case round =>
      obtain ⟨k, late, hk, rfl, rfl, hc, hl0, hl1, hbel⟩ := hrel
      by_cases hlt : k < n
      · have h8k : k < 8 := by omega
        have hlt' : k < n := by omega
        obtain ⟨b, off, e, B, m, c', rfl, hbs, he, g0, g1, g2, g3, hB, hz'⟩ := h.getPart hlt'
        obtain ⟨e1, e2⟩ := hs e (List.mem_of_getElem? he.out)
        have hb' := bcell hbel
        have htp := fun W => wasSent_any e B m c' W
        have t0 : decide ((k : Int) < (n : Int)) = true := by simp; omega
        cases hf : e.f3
        · rw [hf] at g3 htp
          by_cases h2 : e.f2 = -1
          · have E : Shut (z = (k : Int)) := ⟨by rw [hc.out, choose_never he.out h8k hf h2]⟩
            have t2 : sentB e = false := by simp [sentB, h2]
            rw [t2] at htp
            clear h hB hf h2 hc t2 hs
            go_wp2_with fail
            refine (htp _).mono ?_
            rintro e1 w1 ⟨rfl, b1⟩
            go_wp2
            try rw [Exit.noGoto_ret]
            go_ret
            exact ⟨by rw [E.out]; rfl, ac (ab hbel _) b1⟩
          · have t2 : sentB e = true := by simpa [sentB] using h2
            rw [t2] at htp
            by_cases h3 : late < 0 ∧ e.f2 + 4 ≤ now
            · have E : Shut (z = choose now (k + 1) (k : Int) (els.drop (k + 1))) := ⟨by rw [hc.out, choose_late he.out h8k hf h2 h3]⟩
              obtain rfl : late = -1 := by omega
              have t4 : decide (e.f2 + 4 ≤ now) = true := by simp; omega
              clear h hB hf h2 hc t2 hs h3
              go_wp2_with fail
              refine (htp _).mono ?_
              rintro e1 w1 ⟨rfl, b1⟩
              have hb1 := bcell b1
              go_wp2
              go_roundw
              case rel => exact ⟨k + 1, _, by omega, by go_num, rfl, E, by omega, by omega, ac (ab hbel _) b1⟩
              case measure => (simp [intOf]; omega)
            · have E : Shut (z = choose now (k + 1) late (els.drop (k + 1))) := ⟨by rw [hc.out, choose_no he.out h8k hf h2 h3]⟩
              by_cases h4 : late < 0
              · obtain rfl : late = -1 := by omega
                have t4 : decide (e.f2 + 4 ≤ now) = false := by simp; omega
                clear h hB hf h2 hc t2 hs h3
                go_wp2_with fail
                refine (htp _).mono ?_
                rintro e1 w1 ⟨rfl, b1⟩
                have hb1 := bcell b1
                go_wp2
                go_roundw
                case rel => exact ⟨k + 1, _, by omega, by go_num, rfl, E, by omega, by omega, ac (ab hbel _) b1⟩
                case measure => (simp [intOf]; omega)
              · have t3 : (late == -1) = false := by simp; omega
                clear h hB hf h2 hc t2 hs h3
                go_wp2_with fail
                refine (htp _).mono ?_
                rintro e1 w1 ⟨rfl, b1⟩
                have hb1 := bcell b1
                go_wp2
                go_roundw
                case rel => exact ⟨k + 1, _, by omega, by go_num, rfl, E, by omega, by omega, ac (ab hbel _) b1⟩
                case measure => (simp [intOf]; omega)
        · rw [hf] at g3
          have E : Shut (z = choose now (k + 1) late (els.drop (k + 1))) := ⟨by rw [hc.out, choose_got he.out h8k hf]⟩
          clear h hB hf hc hs
          go_wp2
          go_roundw
          case rel => exact ⟨k + 1, _, by omega, by go_num, rfl, E, by omega, by omega, ab hbel _⟩
          case measure => (simp [intOf]; omega)
      · have hk8 : k = N := by omega
        have E : Shut (z = late) := ⟨by
          rw [hc.out]
          by_cases h8' : k = n
          · rw [List.drop_of_length_le (by rw [Hl.out]; omega)]; rfl
          · exact choose_end _ _ _ _ (by omega)⟩
        clear h hc
        go_wp2
        try rw [Exit.noGoto_ret]
        go_ret
        exact ⟨by rw [E.out]; rfl, hbel⟩
  · rw [if_neg h8] at hN
    have hc8 : 8 ≤ c := by omega
    have h8i : (8 : Int) < (n : Int) := by omega
    go_quiet (fail)
    have bN := below_drewN (Below.refl w.heap.size w) nq
    go_wp2
    go_loopw [5, 20] (fun lt i wr => ∃ (k : Nat) (late : Int), k ≤ 8 ∧ i = .int .i64 k ∧ lt = .int .i64 late ∧ Shut (z = choose now k late (els.drop k)) ∧ -1 ≤ late ∧ late ≤ 8 ∧ Below w.heap.size w wr) (fun lt i _ => 8 - (intOf i).toNat)
    case atStart => exact ⟨0, -1, Nat.zero_le _, rfl, rfl, Hz, by omega, by omega, bN⟩
    case round =>
      obtain ⟨k, late, hk, rfl, rfl, hc, hl0, hl1, hbel⟩ := hrel
      by_cases hlt : k < 8
      · have h8k : k < 8 := by omega
        have hlt' : k < n := by omega
        obtain ⟨b, off, e, B, m, c', rfl, hbs, he, g0, g1, g2, g3, hB, hz'⟩ := h.getPart hlt'
        obtain ⟨e1, e2⟩ := hs e (List.mem_of_getElem? he.out)
        have hb' := bcell hbel
        have htp := fun W => wasSent_any e B m c' W
        have t0 : decide ((k : Int) < 8) = true := by simp; omega
        cases hf : e.f3
        · rw [hf] at g3 htp
          by_cases h2 : e.f2 = -1
          · have E : Shut (z = (k : Int)) := ⟨by rw [hc.out, choose_never he.out h8k hf h2]⟩
            have t2 : sentB e = false := by simp [sentB, h2]
            rw [t2] at htp
            clear h hB hf h2 hc t2 hs
            go_wp2_with fail
            refine (htp _).mono ?_
            rintro e1 w1 ⟨rfl, b1⟩
            go_wp2
            try rw [Exit.noGoto_ret]
            go_ret
            exact ⟨by rw [E.out]; rfl, ac (ab hbel _) b1⟩
          · have t2 : sentB e = true := by simpa [sentB] using h2
            rw [t2] at htp
            by_cases h3 : late < 0 ∧ e.f2 + 4 ≤ now
            · have E : Shut (z = choose now (k + 1) (k : Int) (els.drop (k + 1))) := ⟨by rw [hc.out, choose_late he.out h8k hf h2 h3]⟩
              obtain rfl : late = -1 := by omega
              have t4 : decide (e.f2 + 4 ≤ now) = true := by simp; omega
              clear h hB hf h2 hc t2 hs h3
              go_wp2_with fail
              refine (htp _).mono ?_
              rintro e1 w1 ⟨rfl, b1⟩
              have hb1 := bcell b1
              go_wp2
              go_roundw
              case rel => exact ⟨k + 1, _, by omega, by go_num, rfl, E, by omega, by omega, ac (ab hbel _) b1⟩
              case measure => (simp [intOf]; omega)
            · have E : Shut (z = choose now (k + 1) late (els.drop (k + 1))) := ⟨by rw [hc.out, choose_no he.out h8k hf h2 h3]⟩
              by_cases h4 : late < 0
              · obtain rfl : late = -1 := by omega
                have t4 : decide (e.f2 + 4 ≤ now) = false := by simp; omega
                clear h hB hf h2 hc t2 hs h3
                go_wp2_with fail
                refine (htp _).mono ?_
                rintro e1 w1 ⟨rfl, b1⟩
                have hb1 := bcell b1
                go_wp2
                go_roundw
                case rel => exact ⟨k + 1, _, by omega, by go_num, rfl, E, by omega, by omega, ac (ab hbel _) b1⟩
                case measure => (simp [intOf]; omega)
              · have t3 : (late == -1) = false := by simp; omega
                clear h hB hf h2 hc t2 hs h3
                go_wp2_with fail
                refine (htp _).mono ?_
                rintro e1 w1 ⟨rfl, b1⟩
                have hb1 := bcell b1
                go_wp2
                go_roundw
                case rel => exact ⟨k + 1, _, by omega, by go_num, rfl, E, by omega, by omega, ac (ab hbel _) b1⟩
                case measure => (simp [intOf]; omega)
        · rw [hf] at g3
          have E : Shut (z = choose now (k + 1) late (els.drop (k + 1))) := ⟨by rw [hc.out, choose_got he.out h8k hf]⟩
          clear h hB hf hc hs
          go_wp2
          go_roundw
          case rel => exact ⟨k + 1, _, by omega, by go_num, rfl, E, by omega, by omega, ab hbel _⟩
          case measure => (simp [intOf]; omega)
      · have hk8 : k = N := by omega
        have E : Shut (z = late) := ⟨by
          rw [hc.out]
          by_cases h8' : k = n
          · rw [List.drop_of_length_le (by rw [Hl.out]; omega)]; rfl
          · exact choose_end _ _ _ _ (by omega)⟩
        clear h hc
        go_wp2
        try rw [Exit.noGoto_ret]
        go_ret
        exact ⟨by rw [E.out]; rfl, hbel⟩
end Go.Proofs.Ytgmbofoneeagiaa
