import Derived.Test.YtjpnacgdefgalaaSndE
namespace Go.Proofs.Ytjpnacgdefgalaa
open Go.RowKit

set_option linter.unusedVariables false in
set_option maxHeartbeats 4000000 in
theorem specSameSenders_any (z : Bool) (x x' : Int) (A A' : Option Addr) (n c n' c' : Nat) (els els' : List PartD) (w : World) (h : Lst PartD.cels 4 w A n els) (h' : Lst PartD.cels 4 w A' n' els') (hn : n ≤ 1048576) (hn' : n' ≤ 1048576) (hz : z = true ↔ x = x' ∧ els = els') :
    Calls Try.prog 60 #[.agg #[.int .i64 x, .slice A n c], .agg #[.int .i64 x', .slice A' n' c']] w fun e w' => e = .returned (.bool z) ∧ Below w.heap.size w w' := by
  have Hl := Shut.mk h.len
  have Hl' := Shut.mk h'.len
  by_cases hx : x = x'
  rotate_left
  · have E : Shut (z = false) := ⟨by
      cases hh : z with
      | false => rfl
      | true => exact absurd (hz.1 hh).1 hx⟩
    have t0 : (x != x') = true := by simpa using hx
    clear hz hx h h'
    go_enter Try.func60, Try.ntmps60
    go_wp2
    go_ret
    exact ⟨by rw [E.out]; rfl, by go_grown⟩
  subst hx
  by_cases hnn : n = n'
  rotate_left
  · have E : Shut (z = false) := ⟨by
      cases hh : z with
      | false => rfl
      | true => exact absurd (by rw [← Hl.out, ← Hl'.out, (hz.1 hh).2]) hnn⟩
    have t0 : ((n : Int) != (n' : Int)) = true := by simp; omega
    clear hz hnn h h'
    go_enter Try.func60, Try.ntmps60
    go_wp2
    go_ret
    exact ⟨by rw [E.out]; rfl, by go_grown⟩
  subst hnn
  have Hz := Shut.mk hz
  clear hz
  have S0 := (Stc.new w 36 [.int .i64 x, .slice A n c] _ rfl).alloc (.cells #[.int .i64 x, .slice A' n c'] 36)
  have S1 := Stc.new (w.alloc (.cells #[.int .i64 x, .slice A n c] 36)) 36 [.int .i64 x, .slice A' n c'] _ rfl
  have B0 := ab (ab (Below.refl _ w) (.cells #[.int .i64 x, .slice A n c] 36)) (.cells #[.int .i64 x, .slice A' n c'] 36)
  simp only [World.size_alloc] at S1
  go_enter Try.func60, Try.ntmps60
  go_wp2
  go_loopw [25] (fun i wr => ∃ k : Nat, k ≤ n ∧ i = .int .i64 k ∧ Shut (els.take k = els'.take k) ∧ Stc wr w.heap.size [.int .i64 x, .slice A n c] 36 ∧ Stc wr (w.heap.size + 1) [.int .i64 x, .slice A' n c'] 36 ∧ Below w.heap.size w wr) (fun i _ => n - (intOf i).toNat)
  case atStart => exact ⟨0, Nat.zero_le _, rfl, ⟨rfl⟩, S0, S1, B0⟩
  case round =>
    obtain ⟨k, hk, rfl, hT, hS, hS1, hbel⟩ := hrel
    by_cases hlt : k < n
    · obtain ⟨b, off, e, B, m, d, rfl, hbs, he, g0, g1, g2, g3, hB, hz⟩ := h.getPart hlt
      obtain ⟨b', off', e', B', m', d', rfl, hbs', he', g0', g1', g2', g3', hB', hz'⟩ := h'.getPart hlt
      have hb' := bcell hbel
      have v1 := hS.cell (i := 1) rfl
      have v2 := hS1.cell (i := 1) rfl
      have H1 : ∀ q, (convert 26 9 (.slice B m d)).run Try.prog (wr.drewN q) = .ok (.string (strOfNums e.f0)) (wr.drewN q) := fun q => run_str ((hB.below hbel).drewN q) d
      have H2 : ∀ q, (convert 26 9 (.slice B' m' d')).run Try.prog (wr.drewN q) = .ok (.string (strOfNums e'.f0)) (wr.drewN q) := fun q => run_str ((hB'.below hbel).drewN q) d'
      have Hb := str_beq hB.byte hB'.byte
      obtain ⟨l0, b1, i2, b3⟩ := e
      obtain ⟨l0', b1', i2', b3'⟩ := e'
      simp only at g0 g1 g2 g3 g0' g1' g2' g3' H1 H2 Hb
      clear h h' hB hB'
      by_cases q0 : l0 = l0'
      · rw [decide_eq_true q0] at Hb
        by_cases q1 : b1 = b1'
        · by_cases q2 : i2 = i2'
          · by_cases q3 : b3 = b3'
            · have hT' := Shut.mk (take_eq_succ hT.out he.out he'.out (by rw [q0, q1, q2, q3]))
              subst q1 q2 q3
              clear q0 he he'
              go_wp2
              go_quiet (fail)
              replace hbel := ad hbel nq
              replace hS := hS.drewN nq
              replace hS1 := hS1.drewN nq
              generalize wr.drewN nq = w1 at *
              go_wp2
              go_roundw
              case rel => exact ⟨k + 1, by omega, by go_num, hT', hS, hS1, hbel⟩
              case measure => (simp [intOf]; omega)
            · have E : Shut (z = false) := ⟨by
                cases hh : z with
                | false => rfl
                | true => exact absurd (Hz.out.1 hh).2 (ne_at he.out he'.out (fun h0 => q3 (by injection h0)))⟩
              subst q1 q2
              clear q0 he he'
              cases b3 <;> cases b3' <;> first | (exact absurd rfl q3) | skip
              all_goals
                clear q3
                go_wp2
                go_quiet (fail)
                replace hbel := ad hbel nq
                generalize wr.drewN nq = w1 at *
                go_wp2
                go_ret
                exact ⟨by rw [E.out]; rfl, hbel⟩
          · have E : Shut (z = false) := ⟨by
              cases hh : z with
              | false => rfl
              | true => exact absurd (Hz.out.1 hh).2 (ne_at he.out he'.out (fun h0 => q2 (by injection h0)))⟩
            have t2 : (i2 != i2') = true := by simp [q2]
            subst q1
            clear q0 q2 he he'
            go_wp2
            go_quiet (fail)
            replace hbel := ad hbel nq
            generalize wr.drewN nq = w1 at *
            go_wp2
            go_ret
            exact ⟨by rw [E.out]; rfl, hbel⟩
        · have E : Shut (z = false) := ⟨by
            cases hh : z with
            | false => rfl
            | true => exact absurd (Hz.out.1 hh).2 (ne_at he.out he'.out (fun h0 => q1 (by injection h0)))⟩
          clear q0 he he'
          cases b1 <;> cases b1' <;> first | (exact absurd rfl q1) | skip
          all_goals
            clear q1
            go_wp2
            go_quiet (fail)
            replace hbel := ad hbel nq
            generalize wr.drewN nq = w1 at *
            go_wp2
            go_ret
            exact ⟨by rw [E.out]; rfl, hbel⟩
      · have E : Shut (z = false) := ⟨by
          cases hh : z with
          | false => rfl
          | true => exact absurd (Hz.out.1 hh).2 (ne_at he.out he'.out (fun h0 => q0 (by injection h0)))⟩
        rw [decide_eq_false q0] at Hb
        clear q0 he he'
        go_wp2
        go_quiet (fail)
        replace hbel := ad hbel nq
        generalize wr.drewN nq = w1 at *
        go_wp2
        go_ret
        exact ⟨by rw [E.out]; rfl, hbel⟩
    · obtain rfl : k = n := by omega
      have E : Shut (z = true) := ⟨by
        have := hT.out
        rw [List.take_of_length_le (by rw [Hl.out]; exact Nat.le_refl _), List.take_of_length_le (by rw [Hl'.out]; exact Nat.le_refl _)] at this
        exact Hz.out.2 (by first | exact ⟨rfl, this⟩ | exact ⟨trivial, this⟩)⟩
      clear h h'
      go_wp2
      go_ret
      exact ⟨by rw [E.out]; rfl, hbel⟩
end Go.Proofs.Ytjpnacgdefgalaa
