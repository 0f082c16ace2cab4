/- SameWires of both. -/
import Derived.Test.YtgmbofoneeagiaaGotE
namespace Go.Proofs.Ytgmbofoneeagiaa
open Go.RowKit

theorem implSameWires_any (z : Bool) (A A' : Option Addr) (n c n' c' : Nat) (els els' : List (List Int)) (w : World) (h : Lst bytC 1 w A n els) (h' : Lst bytC 1 w A' n' els') (hn : n ≤ 1048576) (hn' : n' ≤ 1048576) (hz : z = true ↔ els = els') :
    Calls Try.prog 25 #[.slice A n c, .slice A' n' c'] w fun x w' => x = .returned (.bool z) ∧ Below w.heap.size w w' := by
  have hg := fun W L M => gotEqual_any z A A' n c n' c' els els' W L M hn hn' hz
  clear hz
  go_enter Try.func25, Try.ntmps25
  go_wp2_with fail
  refine (hg _ h h').mono ?_
  rintro x w1 ⟨rfl, b1⟩
  go_wp2
  go_ret
  exact ⟨rfl, b1⟩

set_option maxHeartbeats 2000000 in
theorem specSameWires_any (z : Bool) (A A' : Option Addr) (n c n' c' : Nat) (els els' : List (List Int)) (w : World) (h : Lst bytC 1 w A n els) (h' : Lst bytC 1 w A' n' els') (hn : n ≤ 1048576) (hn' : n' ≤ 1048576) (hz : z = true ↔ els = els') :
    Calls Try.prog 23 #[.slice A n c, .slice A' n' c'] w fun x w' => x = .returned (.bool z) ∧ Below w.heap.size w w' := by
  have Hl := Shut.mk h.len
  have Hl' := Shut.mk h'.len
  by_cases hnn : n = n'
  rotate_left
  · have E : Shut (z = false) := ⟨by
      cases z with
      | false => rfl
      | true => exact absurd (by rw [← Hl.out, ← Hl'.out, hz.1 rfl]) hnn⟩
    have t0 : ((n : Int) != (n' : Int)) = true := by simp; omega
    clear hz hnn
    go_enter Try.func23, Try.ntmps23
    go_wp2
    go_ret
    exact ⟨by rw [E.out]; rfl, Below.refl _ _⟩
  subst hnn
  have Hz := Shut.mk hz
  clear hz
  go_enter Try.func23, Try.ntmps23
  go_wp2
  go_loopw [13] (fun i wr => ∃ k : Nat, k ≤ n ∧ i = .int .i64 k ∧ Shut (els.take k = els'.take k) ∧ Below w.heap.size w wr) (fun i _ => n - (intOf i).toNat)
  case atStart => exact ⟨0, Nat.zero_le _, rfl, ⟨rfl⟩, Below.refl _ _⟩
  case round =>
    obtain ⟨k, hk, rfl, hT, hbel⟩ := hrel
    by_cases hlt : k < n
    · obtain ⟨b, off, e, B, m, d, rfl, hbs, he, g0, hB, hz⟩ := h.getByt hlt
      obtain ⟨b', off', e', B', m', d', rfl, hbs', he', g0', hB', hz'⟩ := h'.getByt hlt
      have hb' := bcell hbel
      have H1 : ∀ q, (convert 22 9 (.slice B m d)).run Try.prog (wr.drewN q) = .ok (.string (strOfNums e)) (wr.drewN q) := fun q => run_str ((hB.below hbel).drewN q) d
      have H2 : ∀ q, (convert 22 9 (.slice B' m' d')).run Try.prog (wr.drewN q) = .ok (.string (strOfNums e')) (wr.drewN q) := fun q => run_str ((hB'.below hbel).drewN q) d'
      have Hb := str_beq hB.byte hB'.byte
      clear h h' hB hB'
      by_cases hq : e = e'
      · rw [decide_eq_true hq] at Hb
        have hT' := Shut.mk (take_eq_succ hT.out he.out he'.out hq)
        clear hq he he'
        go_wp2
        go_quiet (fail)
        replace hbel := ad hbel nq
        generalize wr.drewN nq = w9 at *
        go_wp2
        go_roundw
        case rel => exact ⟨k + 1, by omega, by go_num, hT', hbel⟩
        case measure => (simp [intOf]; omega)
      · have E : Shut (z = false) := ⟨by
          cases hh : z with
          | false => rfl
          | true => exact absurd (Hz.out.1 hh) (ne_at he.out he'.out hq)⟩
        rw [decide_eq_false hq] at Hb
        clear hq he he'
        go_wp2
        go_quiet (fail)
        replace hbel := ad hbel nq
        generalize wr.drewN nq = w9 at *
        go_wp2
        go_ret
        exact ⟨by rw [E.out]; rfl, hbel⟩
    · obtain rfl : k = n := by omega
      have E : Shut (z = true) := ⟨by
        have := hT.out
        rw [List.take_of_length_le (by rw [Hl.out]; exact Nat.le_refl _), List.take_of_length_le (by rw [Hl'.out]; exact Nat.le_refl _)] at this
        exact Hz.out.2 this⟩
      clear h h'
      go_wp2
      go_ret
      exact ⟨by rw [E.out]; rfl, hbel⟩

set_option linter.unusedVariables false in
set_option maxRecDepth 100000 in
set_option maxHeartbeats 4000000 in
theorem exactSameWires_walk (a0 : Option Addr) (n0 c0 : Nat) (l0 : List (List Int)) (a1 : Option Addr) (n1 c1 : Nat) (l1 : List (List Int)) (w : World) (h0 : Lst bytC 1 w a0 n0 l0) (h1 : Lst bytC 1 w a1 n1 l1) (hsz : n0 + sumE List.length l0 + (n1 + sumE List.length l1) ≤ 1048576) :
    Calls Try.prog 5 #[.slice a0 n0 c0, .slice a1 n1 c1] w fun e w' => e = .returned (.bool true) ∧ Below w.heap.size w w' := by
  have lb0 : ∀ e ∈ l0, e.length ≤ 1048576 := fun e he => by have h : e.length ≤ sumE List.length l0 := sumE_mem List.length he; omega
  have lb1 : ∀ e ∈ l1, e.length ≤ 1048576 := fun e he => by have h : e.length ≤ sumE List.length l1 := sumE_mem List.length he; omega
  have f0 : n0 ≤ 1048576 := by omega
  have f1 : n1 ≤ 1048576 := by omega
  obtain ⟨z, hz⟩ : ∃ z : Bool, (z = true ↔ l0 = l1) := ⟨@decide (l0 = l1) (Classical.propDecidable _), @decide_eq_true_iff _ (_)⟩
  have cz0 := fun W (b : Below w.heap.size w W) => szByteSS_any a0 n0 c0 l0 1048576 W (h0.below b) (by omega) (by omega) (by omega) (fun e he => by have := lb0 e he; omega)
  have hq0 : leftE List.length 1048576 n0 l0 = 1048576 - ((n0 + sumE List.length l0 : Nat) : Int) := by unfold leftE leftC; rw [if_neg (by omega)]
  rw [hq0] at cz0
  clear hq0
  obtain ⟨lf0, hlf0⟩ : ∃ x, x = 1048576 - ((n0 + sumE List.length l0 : Nat) : Int) := ⟨_, rfl⟩
  rw [← hlf0] at cz0
  have lp0 : ¬ lf0 < 0 := by omega
  have cz1 := fun W (b : Below w.heap.size w W) => szByteSS_any a1 n1 c1 l1 lf0 W (h1.below b) (by omega) (by omega) (by omega) (fun e he => by have := lb1 e he; omega)
  have hq1 : leftE List.length lf0 n1 l1 = lf0 - ((n1 + sumE List.length l1 : Nat) : Int) := by unfold leftE leftC; rw [if_neg (by omega)]
  rw [hq1] at cz1
  clear hq1
  obtain ⟨lf1, hlf1⟩ : ∃ x, x = lf0 - ((n1 + sumE List.length l1 : Nat) : Int) := ⟨_, rfl⟩
  rw [← hlf1] at cz1
  have lp1 : ¬ lf1 < 0 := by omega
  clear hlf0 hlf1
  have G0 := fun W (b : Below w.heap.size w W) => toByteSS_any a0 n0 c0 l0 W (h0.below b) f0 lb0
  have G1 := fun W (b : Below w.heap.size w W) => toByteSS_any a1 n1 c1 l1 W (h1.below b) f1 lb1
  have Gs := fun A A' c c' W L M => specSameWires_any z A A' n0 c n1 c' l0 l1 W L M f0 f1 hz
  have Gi := fun A A' c c' W L M => implSameWires_any z A A' n0 c n1 c' l0 l1 W L M f0 f1 hz
  clear h0 h1 hsz hz
  have B0 := Below.refl w.heap.size w
  go_enter Try.func5, Try.ntmps5
  go_wp2_with fail
  refine (cz0 _ B0).mono ?_
  rintro e w1 ⟨rfl, b1⟩
  have B1 := ac B0 b1
  go_wp2_with fail
  refine (cz1 _ B1).mono ?_
  rintro e w2 ⟨rfl, b2⟩
  have B2 := ac B1 b2
  go_wp2_with fail
  refine (G0 _ B2).mono ?_
  rintro e w3 ⟨⟨rfl, q3⟩, b3⟩
  have B3 := ac B2 b3
  have M0 : tB _ _ _ w3 _ := q3
  go_wp2_with fail
  refine (G1 _ B3).mono ?_
  rintro e w4 ⟨⟨rfl, q4⟩, b4⟩
  have B4 := ac B3 b4
  replace M0 := (okB _ _ _).below M0 b4
  have M1 : tB _ _ _ w4 _ := q4
  go_wp2_with fail
  refine (Gs _ _ _ _ _ (Lo.rows M0) (Lo.rows M1)).mono ?_
  rintro e w5 ⟨rfl, b5⟩
  have B5 := ac B4 b5
  clear M0 M1 q3 q4
  go_wp2_with fail
  refine (G0 _ B5).mono ?_
  rintro e w6 ⟨⟨rfl, q6⟩, b6⟩
  have B6 := ac B5 b6
  have X0 : tB _ _ _ w6 _ := q6
  go_wp2_with fail
  refine (G1 _ B6).mono ?_
  rintro e w7 ⟨⟨rfl, q7⟩, b7⟩
  have B7 := ac B6 b7
  replace X0 := (okB _ _ _).below X0 b7
  have X1 : tB _ _ _ w7 _ := q7
  go_wp2_with fail
  refine (Gi _ _ _ _ _ (Lo.rows X0) (Lo.rows X1)).mono ?_
  rintro e w8 ⟨rfl, b8⟩
  have B8 := ac B7 b8
  replace X0 := (okB _ _ _).below X0 b8
  replace X1 := (okB _ _ _).below X1 b8
  go_wp2_with fail
  refine (G0 _ B8).mono ?_
  rintro e w9 ⟨⟨rfl, q9⟩, b9⟩
  have B9 := ac B8 b9
  replace X0 := (okB _ _ _).below X0 b9
  replace X1 := (okB _ _ _).below X1 b9
  have Q0 : tB _ _ _ w9 _ := q9
  go_wp2_with fail
  refine (eqByteSS_any _ _ _ _ _ _ _ (Lo.rows X0) (Lo.rows Q0) (by omega) (fun e he => by have := lb0 e he; omega)).mono ?_
  rintro e w10 ⟨rfl, b10⟩
  have B10 := ac B9 b10
  replace X1 := (okB _ _ _).below X1 b10
  clear Q0 X0 q9
  go_wp2_with fail
  refine (G1 _ B10).mono ?_
  rintro e w11 ⟨⟨rfl, q11⟩, b11⟩
  have B11 := ac B10 b11
  replace X1 := (okB _ _ _).below X1 b11
  have Q1 : tB _ _ _ w11 _ := q11
  go_wp2_with fail
  refine (eqByteSS_any _ _ _ _ _ _ _ (Lo.rows X1) (Lo.rows Q1) (by omega) (fun e he => by have := lb1 e he; omega)).mono ?_
  rintro e w12 ⟨rfl, b12⟩
  have B12 := ac B11 b12
  go_wp2
  go_ret
  exact ⟨rfl, B12⟩

theorem exactSameWires_all (a0 : Option Addr) (n0 c0 : Nat) (l0 : List (List Int)) (a1 : Option Addr) (n1 c1 : Nat) (l1 : List (List Int)) (w : World) (h0 : Lst bytC 1 w a0 n0 l0) (h1 : Lst bytC 1 w a1 n1 l1) (m0 : n0 ≤ 9223372036854775807) (mb0 : ∀ e ∈ l0, e.length ≤ 9223372036854775807) (m1 : n1 ≤ 9223372036854775807) (mb1 : ∀ e ∈ l1, e.length ≤ 9223372036854775807) :
    Calls Try.prog 5 #[.slice a0 n0 c0, .slice a1 n1 c1] w fun e w' => e = .returned (.bool true) ∧ Below w.heap.size w w' := by
  have B0 := Below.refl w.heap.size w
  by_cases hz0 : n0 + sumE List.length l0 ≤ 1048576
  rotate_left
  · have cz0 := fun W (b : Below w.heap.size w W) => szByteSS_any a0 n0 c0 l0 1048576 W (h0.below b) (by omega) (by omega) m0 mb0
    have hq0 : leftE List.length 1048576 n0 l0 = -1 := by unfold leftE leftC; rw [if_pos (by omega)]
    rw [hq0] at cz0
    clear hq0
    go_enter Try.func5, Try.ntmps5
    go_wp2_with fail
    refine (cz0 _ B0).mono ?_
    rintro e w1 ⟨rfl, b1⟩
    have B1 := ac B0 b1
    go_wp2
    go_ret
    exact ⟨rfl, B1⟩
  by_cases hz1 : n0 + sumE List.length l0 + (n1 + sumE List.length l1) ≤ 1048576
  rotate_left
  · have cz0 := fun W (b : Below w.heap.size w W) => szByteSS_any a0 n0 c0 l0 1048576 W (h0.below b) (by omega) (by omega) m0 mb0
    have hq0 : leftE List.length 1048576 n0 l0 = 1048576 - ((n0 + sumE List.length l0 : Nat) : Int) := by unfold leftE leftC; rw [if_neg (by omega)]
    rw [hq0] at cz0
    clear hq0
    obtain ⟨lf0, hlf0⟩ : ∃ x, x = 1048576 - ((n0 + sumE List.length l0 : Nat) : Int) := ⟨_, rfl⟩
    rw [← hlf0] at cz0
    have lp0 : ¬ lf0 < 0 := by omega
    have cz1 := fun W (b : Below w.heap.size w W) => szByteSS_any a1 n1 c1 l1 lf0 W (h1.below b) (by omega) (by omega) m1 mb1
    have hq1 : leftE List.length lf0 n1 l1 = -1 := by unfold leftE leftC; rw [if_pos (by omega)]
    rw [hq1] at cz1
    clear hq1 hlf0
    go_enter Try.func5, Try.ntmps5
    go_wp2_with fail
    refine (cz0 _ B0).mono ?_
    rintro e w1 ⟨rfl, b1⟩
    have B1 := ac B0 b1
    go_wp2_with fail
    refine (cz1 _ B1).mono ?_
    rintro e w2 ⟨rfl, b2⟩
    have B2 := ac B1 b2
    go_wp2
    go_ret
    exact ⟨rfl, B2⟩
  exact exactSameWires_walk a0 n0 c0 l0 a1 n1 c1 l1 w h0 h1 hz1
end Go.Proofs.Ytgmbofoneeagiaa
