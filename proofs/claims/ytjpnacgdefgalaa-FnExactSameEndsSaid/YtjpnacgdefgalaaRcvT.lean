import Derived.Test.YtjpnacgdefgalaaRcvE
namespace Go.Proofs.Ytjpnacgdefgalaa
open Go.RowKit

set_option linter.unusedVariables false in
set_option maxHeartbeats 4000000 in
theorem specSameReceivers_any (z : Bool) (x x' : Int) (A A' : Option Addr) (n c n' c' : Nat) (els els' : List HeldD) (P P' : Option Addr) (np cp np' cp' : Nat) (l l' : List Int) (w : World) (h : Lst HeldD.cels 3 w A n els) (h' : Lst HeldD.cels 3 w A' n' els') (hp : Bs w P np l) (hp' : Bs w P' np' l') (hn : n ≤ 1048576) (hn' : n' ≤ 1048576) (hz : z = true ↔ x = x' ∧ els = els' ∧ l = l') :
    Calls Try.prog 74 #[.agg #[.int .i64 x, .slice A n c, .slice P np cp], .agg #[.int .i64 x', .slice A' n' c', .slice P' np' cp']] w fun e w' => e = .returned (.bool z) ∧ Below w.heap.size w w' := by
  have Hl := Shut.mk h.len
  have Hl' := Shut.mk h'.len
  have B00 := ab (ab (Below.refl _ w) (.cells #[.int .i64 x, .slice A n c, .slice P np cp] 39)) (.cells #[.int .i64 x', .slice A' n' c', .slice P' np' cp'] 39)
  have P1 := run_str (hp.below B00) cp
  have P2 := run_str (hp'.below B00) cp'
  have Pb := str_beq hp.byte hp'.byte
  clear hp hp'
  by_cases hx : x = x'
  rotate_left
  · have E : Shut (z = false) := ⟨by
      cases hh : z with
      | false => rfl
      | true => exact absurd (hz.1 hh).1 hx⟩
    have t0 : (x != x') = true := by simpa using hx
    clear hz hx h h' P1 P2 Pb B00
    go_enter Try.func74, Try.ntmps74
    go_wp2
    go_ret
    exact ⟨by rw [E.out]; rfl, by go_grown⟩
  subst hx
  by_cases hl : l = l'
  rotate_left
  · have E : Shut (z = false) := ⟨by
      cases hh : z with
      | false => rfl
      | true => exact absurd (hz.1 hh).2.2 hl⟩
    rw [decide_eq_false hl] at Pb
    clear hz hl h h' B00
    go_enter Try.func74, Try.ntmps74
    go_wp2
    go_ret
    exact ⟨by rw [E.out]; rfl, by go_grown⟩
  rw [decide_eq_true hl] at Pb
  have HL := Shut.mk hl
  clear hl
  by_cases hnn : n = n'
  rotate_left
  · have E : Shut (z = false) := ⟨by
      cases hh : z with
      | false => rfl
      | true => exact absurd (by rw [← Hl.out, ← Hl'.out, (hz.1 hh).2.1]) hnn⟩
    have t0 : ((n : Int) != (n' : Int)) = true := by simp; omega
    clear hz hnn h h' B00
    go_enter Try.func74, Try.ntmps74
    go_wp2
    go_ret
    exact ⟨by rw [E.out]; rfl, by go_grown⟩
  subst hnn
  have Hz := Shut.mk hz
  clear hz
  have S0 := (Stc.new w 39 [.int .i64 x, .slice A n c, .slice P np cp] _ rfl).alloc (.cells #[.int .i64 x, .slice A' n c', .slice P' np' cp'] 39)
  have S1 := Stc.new (w.alloc (.cells #[.int .i64 x, .slice A n c, .slice P np cp] 39)) 39 [.int .i64 x, .slice A' n c', .slice P' np' cp'] _ rfl
  have B0 := ab (ab (Below.refl _ w) (.cells #[.int .i64 x, .slice A n c, .slice P np cp] 39)) (.cells #[.int .i64 x, .slice A' n c', .slice P' np' cp'] 39)
  simp only [World.size_alloc] at S1
  go_enter Try.func74, Try.ntmps74
  go_wp2
  clear P1 P2 Pb B00
  go_loopw [32] (fun i wr => ∃ k : Nat, k ≤ n ∧ i = .int .i64 k ∧ Shut (els.take k = els'.take k) ∧ Stc wr w.heap.size [.int .i64 x, .slice A n c, .slice P np cp] 39 ∧ Stc wr (w.heap.size + 1) [.int .i64 x, .slice A' n c', .slice P' np' cp'] 39 ∧ Below w.heap.size w wr) (fun i _ => n - (intOf i).toNat)
  case atStart => exact ⟨0, Nat.zero_le _, rfl, ⟨rfl⟩, S0, S1, B0⟩
  case round =>
    obtain ⟨k, hk, rfl, hT, hS, hS1, hbel⟩ := hrel
    by_cases hlt : k < n
    · obtain ⟨b, off, e, B, m, d, rfl, hbs, he, g0, g1, g2, hB, hz⟩ := h.getHeld hlt
      obtain ⟨b', off', e', B', m', d', rfl, hbs', he', g0', g1', g2', hB', hz'⟩ := h'.getHeld hlt
      have hb' := bcell hbel
      have v1 := hS.cell (i := 1) rfl
      have v2 := hS1.cell (i := 1) rfl
      have H1 : ∀ q, (convert 26 9 (.slice B m d)).run Try.prog (wr.drewN q) = .ok (.string (strOfNums e.f1)) (wr.drewN q) := fun q => run_str ((hB.below hbel).drewN q) d
      have H2 : ∀ q, (convert 26 9 (.slice B' m' d')).run Try.prog (wr.drewN q) = .ok (.string (strOfNums e'.f1)) (wr.drewN q) := fun q => run_str ((hB'.below hbel).drewN q) d'
      have Hb := str_beq hB.byte hB'.byte
      obtain ⟨i0, l1, b2⟩ := e
      obtain ⟨i0', l1', b2'⟩ := e'
      simp only at g0 g1 g2 g0' g1' g2' H1 H2 Hb
      clear h h' hB hB'
      by_cases q2 : i0 = i0'
      · by_cases q0 : l1 = l1'
        · rw [decide_eq_true q0] at Hb
          by_cases q3 : b2 = b2'
          · have hT' := Shut.mk (take_eq_succ hT.out he.out he'.out (by rw [q0, q2, q3]))
            subst q2 q3
            clear q0 he he'
            go_wp2
            go_quiet (fail)
            replace hbel := ad hbel nq
            replace hS := hS.drewN nq
            replace hS1 := hS1.drewN nq
            generalize wr.drewN nq = w1 at *
            go_wp2
            go_roundw
            case rel => exact ⟨k + 1, by omega, by go_num, hT', hS, hS1, hbel⟩
            case measure => (simp [intOf]; omega)
          · have E : Shut (z = false) := ⟨by
              cases hh : z with
              | false => rfl
              | true => exact absurd (Hz.out.1 hh).2.1 (ne_at he.out he'.out (fun h0 => q3 (by injection h0)))⟩
            subst q2
            clear q0 he he'
            cases b2 <;> cases b2' <;> first | (exact absurd rfl q3) | skip
            all_goals
              clear q3
              go_wp2
              go_quiet (fail)
              replace hbel := ad hbel nq
              generalize wr.drewN nq = w1 at *
              go_wp2
              go_ret
              exact ⟨by rw [E.out]; rfl, hbel⟩
        · have E : Shut (z = false) := ⟨by
            cases hh : z with
            | false => rfl
            | true => exact absurd (Hz.out.1 hh).2.1 (ne_at he.out he'.out (fun h0 => q0 (by injection h0)))⟩
          rw [decide_eq_false q0] at Hb
          subst q2
          clear q0 he he'
          go_wp2
          go_quiet (fail)
          replace hbel := ad hbel nq
          generalize wr.drewN nq = w1 at *
          go_wp2
          go_ret
          exact ⟨by rw [E.out]; rfl, hbel⟩
      · have E : Shut (z = false) := ⟨by
          cases hh : z with
          | false => rfl
          | true => exact absurd (Hz.out.1 hh).2.1 (ne_at he.out he'.out (fun h0 => q2 (by injection h0)))⟩
        have t2 : (i0 != i0') = true := by simp [q2]
        clear q2 he he'
        go_wp2
        go_quiet (fail)
        replace hbel := ad hbel nq
        generalize wr.drewN nq = w1 at *
        go_wp2
        go_ret
        exact ⟨by rw [E.out]; rfl, hbel⟩
    · obtain rfl : k = n := by omega
      have E : Shut (z = true) := ⟨by
        have := hT.out
        rw [List.take_of_length_le (by rw [Hl.out]; exact Nat.le_refl _), List.take_of_length_le (by rw [Hl'.out]; exact Nat.le_refl _)] at this
        exact Hz.out.2 (by first | exact ⟨rfl, this, HL.out⟩ | exact ⟨trivial, this, HL.out⟩)⟩
      clear h h'
      go_wp2
      go_ret
      exact ⟨by rw [E.out]; rfl, hbel⟩
end Go.Proofs.Ytjpnacgdefgalaa
