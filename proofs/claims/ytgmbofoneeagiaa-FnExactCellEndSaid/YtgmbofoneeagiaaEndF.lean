/- The faults of an end: of the program and of the model. -/
import Derived.Test.YtgmbofoneeagiaaBytC
import Derived.Test.YtgmbofoneeagiaaSndS
import Derived.Test.YtgmbofoneeagiaaRcvG
namespace Go.Proofs.Ytgmbofoneeagiaa
open Go.RowKit

def mesL (m : Nat) : Bool := decide (0 < m ∧ m ≤ 200)
def gotE (l : List Int) : Int := if mesL l.length = true then 0 else 2
def gotF (got : List (List Int)) : Int := if 200 < got.length then 2 else firstF gotE got
def endF (slot base : Int) (els : List PartD) (next : Int) (hs : List HeldD) (np : Nat) (got : List (List Int)) (bad : Int) : Int :=
  if decide (0 ≤ slot ∧ slot ≤ 401 ∧ 0 ≤ bad ∧ bad ≤ 100000) = false then 3 else if senF base els ≠ 0 then senF base els else if recF next hs np ≠ 0 then recF next hs np else gotF got
theorem endF_num {slot base next bad : Int} {els : List PartD} {hs : List HeldD} {np : Nat} {got : List (List Int)} (h : ¬ (0 ≤ slot ∧ slot ≤ 401 ∧ 0 ≤ bad ∧ bad ≤ 100000)) : endF slot base els next hs np got bad = 3 := by unfold endF; rw [if_pos (by simpa using h)]
theorem endF_sen {slot base next bad : Int} {els : List PartD} {hs : List HeldD} {np : Nat} {got : List (List Int)} (h : 0 ≤ slot ∧ slot ≤ 401 ∧ 0 ≤ bad ∧ bad ≤ 100000) (h1 : senF base els ≠ 0) : endF slot base els next hs np got bad = senF base els := by unfold endF; rw [if_neg (by simp [h]), if_pos h1]
theorem endF_rec {slot base next bad : Int} {els : List PartD} {hs : List HeldD} {np : Nat} {got : List (List Int)} (h : 0 ≤ slot ∧ slot ≤ 401 ∧ 0 ≤ bad ∧ bad ≤ 100000) (h1 : senF base els = 0) (h2 : recF next hs np ≠ 0) : endF slot base els next hs np got bad = recF next hs np := by unfold endF; rw [if_neg (by simp [h]), if_neg (by simp [h1]), if_pos h2]
theorem endF_got {slot base next bad : Int} {els : List PartD} {hs : List HeldD} {np : Nat} {got : List (List Int)} (h : 0 ≤ slot ∧ slot ≤ 401 ∧ 0 ≤ bad ∧ bad ≤ 100000) (h1 : senF base els = 0) (h2 : recF next hs np = 0) : endF slot base els next hs np got bad = gotF got := by unfold endF; rw [if_neg (by simp [h]), if_neg (by simp [h1]), if_neg (by simp [h2])]
theorem gotF_many {got : List (List Int)} (h : 200 < got.length) : gotF got = 2 := by unfold gotF; rw [if_pos h]
theorem gotF_few {got : List (List Int)} (h : ¬ 200 < got.length) : gotF got = firstF gotE got := by unfold gotF; rw [if_neg h]

theorem isMes_any (B : Option Addr) (m d : Nat) (w : World) (hm : m ≤ 9223372036854775807) :
    Calls Try.prog 111 #[.slice B m d] w fun e w' => e = .returned (.bool (mesL m)) ∧ w = w' := by
  unfold mesL
  by_cases h0 : m = 0
  · subst h0
    go_enter Try.func111, Try.ntmps111
    go_wp2
    go_ret
    exact ⟨rfl, rfl⟩
  · by_cases h1 : m ≤ 200
    · rw [decide_eq_true (by omega)]
      have t0 : decide ((m : Int) > 0) = true := by simp; omega
      have t1 : decide ((m : Int) ≤ 200) = true := by simp; omega
      go_enter Try.func111, Try.ntmps111
      go_wp2
      go_ret
      exact ⟨rfl, rfl⟩
    · rw [decide_eq_false (by omega)]
      have t0 : decide ((m : Int) > 0) = true := by simp; omega
      have t1 : decide ((m : Int) ≤ 200) = false := by simp; omega
      go_enter Try.func111, Try.ntmps111
      go_wp2
      go_ret
      exact ⟨rfl, rfl⟩

set_option maxHeartbeats 1000000 in
theorem gotFault_any (A : Option Addr) (n c : Nat) (els : List (List Int)) (w : World) (h : Lst bytC 1 w A n els) (hn : n ≤ 1048576) (hb : ∀ e ∈ els, e.length ≤ 1048576) :
    Calls Try.prog 197 #[.slice A n c] w fun e w' => e = .returned (.int .i64 (gotF els)) ∧ Below w.heap.size w w' := by
  have Hl := Shut.mk h.len
  by_cases h0 : 200 < n
  · have e0 := Shut.mk (gotF_many (got := els) (by rw [Hl.out]; exact h0))
    have t0 : decide ((n : Int) > 200) = true := by simp; omega
    go_enter Try.func197, Try.ntmps197
    go_wp2
    go_ret
    exact ⟨by rw [e0.out]; rfl, Below.refl _ _⟩
  · rw [gotF_few (by rw [Hl.out]; exact h0)]
    have t0 : decide ((n : Int) > 200) = false := by simp; omega
    go_enter Try.func197, Try.ntmps197
    go_wp2
    go_loopw [10] (fun i wr => ∃ k : Nat, k ≤ n ∧ i = .int .i64 k ∧ Shut (firstF gotE (els.take k) = 0) ∧ Below w.heap.size w wr) (fun i _ => n - (intOf i).toNat)
    case atStart => exact ⟨0, Nat.zero_le _, rfl, ⟨rfl⟩, Below.refl _ _⟩
    case round =>
      obtain ⟨k, hk, rfl, hF, hbel⟩ := hrel
      by_cases hlt : k < n
      · obtain ⟨b, off, e, B, m, c', rfl, hbs, he, g0, hB, hz⟩ := h.getByt hlt
        have hb' := bcell hbel
        have hml := hB.len
        have hm : m ≤ 9223372036854775807 := by have := hb e (List.mem_of_getElem? he.out); omega
        have hmes := fun W => isMes_any B m c' W hm
        cases hq : mesL m
        · have e0 : Shut (firstF gotE els = 2) := ⟨by
            rw [firstF_at gotE he.out hF.out (by unfold gotE; rw [hml, hq]; simp)]
            unfold gotE; rw [hml, hq]; rfl⟩
          rw [hq] at hmes
          clear hml h hB
          go_wp2_with fail
          refine (hmes _).mono ?_
          rintro x w1 ⟨rfl, rfl⟩
          go_wp2
          go_ret
          exact ⟨by rw [e0.out]; rfl, hbel⟩
        · have e0 : Shut (firstF gotE (els.take (k + 1)) = 0) := ⟨firstF_succ gotE he.out hF.out (by unfold gotE; rw [hml, hq]; rfl)⟩
          rw [hq] at hmes
          clear hml h hB
          go_wp2_with fail
          refine (hmes _).mono ?_
          rintro x w1 ⟨rfl, rfl⟩
          go_wp2
          go_roundw
          case rel => exact ⟨k + 1, by omega, by go_num, e0, hbel⟩
          case measure => simp [intOf]; omega
      · have e0 : Shut (firstF gotE els = 0) := ⟨by
          have := hF.out
          rwa [List.take_of_length_le (by rw [Hl.out]; omega)] at this⟩
        go_wp2
        go_ret
        exact ⟨by rw [e0.out]; rfl, hbel⟩

set_option linter.unusedVariables false in
set_option maxHeartbeats 4000000 in
theorem implEndFault_any (slot base next bad : Int) (A0 : Option Addr) (n0 c0 : Nat) (els : List PartD) (A1 : Option Addr) (n1 c1 : Nat) (hs : List HeldD) (A2 : Option Addr) (n2 c2 : Nat) (A3 : Option Addr) (n3 c3 : Nat) (got : List (List Int)) (w : World)
    (h0 : Lst PartD.cels 4 w A0 n0 els) (h1 : Lst HeldD.cels 3 w A1 n1 hs) (h3 : Lst bytC 1 w A3 n3 got) (hn0 : n0 ≤ 1048576) (hn1 : n1 ≤ 1048576) (hn2 : n2 ≤ 1048576) (hn3 : n3 ≤ 1048576) (hb3 : ∀ e ∈ got, e.length ≤ 1048576) :
    Calls Try.prog 170 #[.agg #[.int .i64 slot, .int .i64 base, .slice A0 n0 c0, .int .i64 next, .slice A1 n1 c1, .slice A2 n2 c2, .slice A3 n3 c3, .int .i64 bad]] w fun e w' => e = .returned (.int .i64 (endF slot base els next hs n2 got bad)) ∧ Below w.heap.size w w' := by
  have S0 := Stc.new w 119 [.int .i64 slot, .int .i64 base, .slice A0 n0 c0, .int .i64 next, .slice A1 n1 c1, .slice A2 n2 c2, .slice A3 n3 c3, .int .i64 bad] _ rfl
  have B0 := ab (Below.refl _ w) (.cells #[.int .i64 slot, .int .i64 base, .slice A0 n0 c0, .int .i64 next, .slice A1 n1 c1, .slice A2 n2 c2, .slice A3 n3 c3, .int .i64 bad] 119)
  by_cases hr : 0 ≤ slot ∧ slot ≤ 401 ∧ 0 ≤ bad ∧ bad ≤ 100000
  rotate_left
  · rw [endF_num hr]
    by_cases q0 : slot < 0
    · have t0 : decide (slot < 0) = true := by simpa using q0
      clear hr
      go_enter Try.func170, Try.ntmps170
      go_wp2
      go_ret
      exact ⟨rfl, B0⟩
    · have t0 : decide (slot < 0) = false := by simpa using q0
      by_cases q1 : slot > 401
      · have t1 : decide (slot > 401) = true := by simpa using q1
        clear hr
        go_enter Try.func170, Try.ntmps170
        go_wp2
        go_ret
        exact ⟨rfl, B0⟩
      · have t1 : decide (slot > 401) = false := by simpa using q1
        by_cases q2 : bad < 0
        · have t2 : decide (bad < 0) = true := by simpa using q2
          clear hr
          go_enter Try.func170, Try.ntmps170
          go_wp2
          go_ret
          exact ⟨rfl, B0⟩
        · have t2 : decide (bad < 0) = false := by simpa using q2
          have t3 : decide (bad > 100000) = true := by simp; omega
          clear hr
          go_enter Try.func170, Try.ntmps170
          go_wp2
          go_ret
          exact ⟨rfl, B0⟩
  have t0 : decide (slot < 0) = false := by simp; omega
  have t1 : decide (slot > 401) = false := by simp; omega
  have t2 : decide (bad < 0) = false := by simp; omega
  have t3 : decide (bad > 100000) = false := by simp; omega
  have hsf := fun W L => implSenderFault_any base A0 n0 c0 els W L hn0
  have hrf := fun W L => implReceiverFault_any next A1 n1 c1 hs A2 n2 c2 W L hn1 hn2
  have hgf := fun W L => gotFault_any A3 n3 c3 got W L hn3 hb3
  by_cases q0 : senF base els = 0
  rotate_left
  · rw [endF_sen hr q0]
    obtain ⟨z, hz⟩ : ∃ z, z = senF base els := ⟨_, rfl⟩
    rw [← hz] at hsf q0 ⊢
    have t4 : (z != 0) = true := by simpa using q0
    clear hr hz
    go_enter Try.func170, Try.ntmps170
    go_wp2_with fail
    refine (hsf _ (h0.below B0)).mono ?_
    rintro x w1 ⟨rfl, b1⟩
    go_wp2
    go_ret
    exact ⟨rfl, ac B0 b1⟩
  rw [q0] at hsf
  by_cases q1 : recF next hs n2 = 0
  rotate_left
  · rw [endF_rec hr q0 q1]
    obtain ⟨z, hz⟩ : ∃ z, z = recF next hs n2 := ⟨_, rfl⟩
    rw [← hz] at hrf q1 ⊢
    have t4 : (z != 0) = true := by simpa using q1
    clear hr hz q0
    go_enter Try.func170, Try.ntmps170
    go_wp2_with fail
    refine (hsf _ (h0.below B0)).mono ?_
    rintro x w1 ⟨rfl, b1⟩
    have S1 := S0.below b1 S0.lt
    have x3 := S1.cell (i := 3) rfl
    have x4 := S1.cell (i := 4) rfl
    have x5 := S1.cell (i := 5) rfl
    go_wp2_with fail
    refine (hrf _ ((h1.below B0).below b1)).mono ?_
    rintro x w2 ⟨rfl, b2⟩
    go_wp2
    go_ret
    exact ⟨rfl, ac (ac B0 b1) b2⟩
  rw [q1] at hrf
  rw [endF_got hr q0 q1]
  obtain ⟨z, hz⟩ : ∃ z, z = gotF got := ⟨_, rfl⟩
  rw [← hz] at hgf ⊢
  clear hr hz q0 q1
  go_enter Try.func170, Try.ntmps170
  go_wp2_with fail
  refine (hsf _ (h0.below B0)).mono ?_
  rintro x w1 ⟨rfl, b1⟩
  have S1 := S0.below b1 S0.lt
  have x3 := S1.cell (i := 3) rfl
  have x4 := S1.cell (i := 4) rfl
  have x5 := S1.cell (i := 5) rfl
  go_wp2_with fail
  refine (hrf _ ((h1.below B0).below b1)).mono ?_
  rintro x w2 ⟨rfl, b2⟩
  have S2 := S1.below b2 S1.lt
  have x6 := S2.cell (i := 6) rfl
  go_wp2_with fail
  refine (hgf _ (((h3.below B0).below b1).below b2)).mono ?_
  rintro x w3 ⟨rfl, b3⟩
  go_wp2
  go_ret
  exact ⟨rfl, ac (ac (ac B0 b1) b2) b3⟩

set_option linter.unusedVariables false in
set_option maxHeartbeats 4000000 in
theorem specEndFault_any (slot base next bad : Int) (A0 : Option Addr) (n0 c0 : Nat) (els : List PartD) (A1 : Option Addr) (n1 c1 : Nat) (hs : List HeldD) (A2 : Option Addr) (n2 c2 : Nat) (A3 : Option Addr) (n3 c3 : Nat) (got : List (List Int)) (w : World)
    (h0 : Lst PartD.cels 4 w A0 n0 els) (h1 : Lst HeldD.cels 3 w A1 n1 hs) (h3 : Lst bytC 1 w A3 n3 got) (hn0 : n0 ≤ 1048576) (hn1 : n1 ≤ 1048576) (hn2 : n2 ≤ 1048576) (hn3 : n3 ≤ 1048576) (hb3 : ∀ e ∈ got, e.length ≤ 1048576) :
    Calls Try.prog 166 #[.agg #[.int .i64 slot, .int .i64 base, .slice A0 n0 c0, .int .i64 next, .slice A1 n1 c1, .slice A2 n2 c2, .slice A3 n3 c3, .int .i64 bad]] w fun e w' => e = .returned (.int .i64 (endF slot base els next hs n2 got bad)) ∧ Below w.heap.size w w' := by
  have S0 := Stc.new w 119 [.int .i64 slot, .int .i64 base, .slice A0 n0 c0, .int .i64 next, .slice A1 n1 c1, .slice A2 n2 c2, .slice A3 n3 c3, .int .i64 bad] _ rfl
  have B0 := ab (Below.refl _ w) (.cells #[.int .i64 slot, .int .i64 base, .slice A0 n0 c0, .int .i64 next, .slice A1 n1 c1, .slice A2 n2 c2, .slice A3 n3 c3, .int .i64 bad] 119)
  have hi0 := fun W => In_any slot 0 401 W
  have hi1 := fun W => In_any bad 0 100000 W
  cases q2 : inB slot 0 401
  · have q2' := of_decide_eq_false q2
    rw [endF_num (fun h => q2' ⟨h.1, h.2.1⟩)]
    rw [q2] at hi0
    clear q2 q2'
    go_enter Try.func166, Try.ntmps166
    go_wp2_with fail
    refine (hi0 _).mono ?_
    rintro x w1 ⟨rfl, rfl⟩
    go_wp2
    go_ret
    exact ⟨rfl, B0⟩
  have q2' := of_decide_eq_true q2
  rw [q2] at hi0
  cases q3 : inB bad 0 100000
  · have q3' := of_decide_eq_false q3
    rw [endF_num (fun h => q3' ⟨h.2.2.1, h.2.2.2⟩)]
    rw [q3] at hi1
    clear q3 q3' q2 q2'
    go_enter Try.func166, Try.ntmps166
    go_wp2_with fail
    refine (hi0 _).mono ?_
    rintro x w1 ⟨rfl, rfl⟩
    go_wp2_with fail
    refine (hi1 _).mono ?_
    rintro x w1 ⟨rfl, rfl⟩
    go_wp2
    go_ret
    exact ⟨rfl, B0⟩
  have q3' := of_decide_eq_true q3
  rw [q3] at hi1
  have hr : 0 ≤ slot ∧ slot ≤ 401 ∧ 0 ≤ bad ∧ bad ≤ 100000 := ⟨q2'.1, q2'.2, q3'.1, q3'.2⟩
  clear q2 q2' q3 q3'
  have hsf := fun W L => specSenderFault_any base A0 n0 c0 els W L hn0
  have hrf := fun W L => specReceiverFault_any next A1 n1 c1 hs A2 n2 c2 W L hn1 hn2
  by_cases q0 : senF base els = 0
  rotate_left
  · rw [endF_sen hr q0]
    obtain ⟨z, hz⟩ : ∃ z, z = senF base els := ⟨_, rfl⟩
    rw [← hz] at hsf q0 ⊢
    have t4 : (z != 0) = true := by simpa using q0
    clear hr hz
    go_enter Try.func166, Try.ntmps166
    go_wp2_with fail
    refine (hi0 _).mono ?_
    rintro x w1 ⟨rfl, rfl⟩
    go_wp2_with fail
    refine (hi1 _).mono ?_
    rintro x w1 ⟨rfl, rfl⟩
    go_wp2_with fail
    refine (hsf _ (h0.below B0)).mono ?_
    rintro x w1 ⟨rfl, b1⟩
    go_wp2
    go_ret
    exact ⟨rfl, ac B0 b1⟩
  rw [q0] at hsf
  by_cases q1 : recF next hs n2 = 0
  rotate_left
  · rw [endF_rec hr q0 q1]
    obtain ⟨z, hz⟩ : ∃ z, z = recF next hs n2 := ⟨_, rfl⟩
    rw [← hz] at hrf q1 ⊢
    have t4 : (z != 0) = true := by simpa using q1
    clear hr hz q0
    go_enter Try.func166, Try.ntmps166
    go_wp2_with fail
    refine (hi0 _).mono ?_
    rintro x w1 ⟨rfl, rfl⟩
    go_wp2_with fail
    refine (hi1 _).mono ?_
    rintro x w1 ⟨rfl, rfl⟩
    go_wp2_with fail
    refine (hsf _ (h0.below B0)).mono ?_
    rintro x w1 ⟨rfl, b1⟩
    have S1 := S0.below b1 S0.lt
    have x3 := S1.cell (i := 3) rfl
    have x4 := S1.cell (i := 4) rfl
    have x5 := S1.cell (i := 5) rfl
    go_wp2_with fail
    refine (hrf _ ((h1.below B0).below b1)).mono ?_
    rintro x w2 ⟨rfl, b2⟩
    go_wp2
    go_ret
    exact ⟨rfl, ac (ac B0 b1) b2⟩
  rw [q1] at hrf
  rw [endF_got hr q0 q1]
  have Hl := Shut.mk h3.len
  clear hr q0 q1
  by_cases hq : 200 < n3
  · have e0 := Shut.mk (gotF_many (got := got) (by rw [Hl.out]; exact hq))
    have t0 : decide ((n3 : Int) > 200) = true := by simp; omega
    go_enter Try.func166, Try.ntmps166
    go_wp2_with fail
    refine (hi0 _).mono ?_
    rintro x w1 ⟨rfl, rfl⟩
    go_wp2_with fail
    refine (hi1 _).mono ?_
    rintro x w1 ⟨rfl, rfl⟩
    go_wp2_with fail
    refine (hsf _ (h0.below B0)).mono ?_
    rintro x w1 ⟨rfl, b1⟩
    have S1 := S0.below b1 S0.lt
    have x3 := S1.cell (i := 3) rfl
    have x4 := S1.cell (i := 4) rfl
    have x5 := S1.cell (i := 5) rfl
    go_wp2_with fail
    refine (hrf _ ((h1.below B0).below b1)).mono ?_
    rintro x w2 ⟨rfl, b2⟩
    have S2 := S1.below b2 S1.lt
    have x6 := S2.cell (i := 6) rfl
    go_wp2
    go_ret
    exact ⟨by rw [e0.out]; rfl, ac (ac B0 b1) b2⟩
  rw [gotF_few (by rw [Hl.out]; exact hq)]
  have t0 : decide ((n3 : Int) > 200) = false := by simp; omega
  go_enter Try.func166, Try.ntmps166
  go_wp2_with fail
  refine (hi0 _).mono ?_
  rintro x w1 ⟨rfl, rfl⟩
  go_wp2_with fail
  refine (hi1 _).mono ?_
  rintro x w1 ⟨rfl, rfl⟩
  go_wp2_with fail
  refine (hsf _ (h0.below B0)).mono ?_
  rintro x w1 ⟨rfl, b1⟩
  have S1 := S0.below b1 S0.lt
  have x3 := S1.cell (i := 3) rfl
  have x4 := S1.cell (i := 4) rfl
  have x5 := S1.cell (i := 5) rfl
  go_wp2_with fail
  refine (hrf _ ((h1.below B0).below b1)).mono ?_
  rintro x w2 ⟨rfl, b2⟩
  have S2 := S1.below b2 S1.lt
  have B2 := ac (ac B0 b1) b2
  have L3 := ((h3.below B0).below b1).below b2
  have x6 := S2.cell (i := 6) rfl
  go_wp2
  go_loopw [35] (fun i wr => ∃ k : Nat, k ≤ n3 ∧ i = .int .i64 k ∧ Shut (firstF gotE (got.take k) = 0) ∧ Below w2.heap.size w2 wr) (fun i _ => n3 - (intOf i).toNat)
  case atStart => exact ⟨0, Nat.zero_le _, rfl, ⟨rfl⟩, Below.refl _ _⟩
  case round =>
    obtain ⟨k, hk, rfl, hF, hbel⟩ := hrel
    have S3 := S2.below hbel S2.lt
    have y6 := S3.cell (i := 6) rfl
    by_cases hlt : k < n3
    · obtain ⟨b, off, e, B, m, c', rfl, hbs, he, g0, hB, hz⟩ := L3.getByt hlt
      have hb' := bcell hbel
      have hml := hB.len
      clear h0 h1 h3 L3 hB
      by_cases hq1 : m < 1
      · have e0 : Shut (firstF gotE got = 2) := ⟨by
          have hm2 : mesL m = false := decide_eq_false (by omega)
          rw [firstF_at gotE he.out hF.out (by unfold gotE; rw [hml, hm2]; simp)]
          unfold gotE; rw [hml, hm2]; rfl⟩
        have t5 : decide ((m : Int) < 1) = true := by simp; omega
        clear hml
        go_wp2
        go_ret
        exact ⟨by rw [e0.out]; rfl, ac B2 hbel⟩
      · have t5 : decide ((m : Int) < 1) = false := by simp; omega
        by_cases hq2 : m > 200
        · have e0 : Shut (firstF gotE got = 2) := ⟨by
            have hm2 : mesL m = false := decide_eq_false (by omega)
            rw [firstF_at gotE he.out hF.out (by unfold gotE; rw [hml, hm2]; simp)]
            unfold gotE; rw [hml, hm2]; rfl⟩
          have t6 : decide ((m : Int) > 200) = true := by simp; omega
          clear hml
          go_wp2
          go_ret
          exact ⟨by rw [e0.out]; rfl, ac B2 hbel⟩
        · have t6 : decide ((m : Int) > 200) = false := by simp; omega
          have e0 : Shut (firstF gotE (got.take (k + 1)) = 0) := ⟨firstF_succ gotE he.out hF.out (by
            have hm2 : mesL m = true := decide_eq_true (by omega)
            unfold gotE; rw [hml, hm2]; rfl)⟩
          clear hml
          go_wp2
          go_roundw
          case rel => exact ⟨k + 1, by omega, by go_num, e0, hbel⟩
          case measure => simp [intOf]; omega
    · have e0 : Shut (firstF gotE got = 0) := ⟨by
        have := hF.out
        rwa [List.take_of_length_le (by rw [Hl.out]; omega)] at this⟩
      go_wp2
      go_ret
      exact ⟨by rw [e0.out]; rfl, ac B2 hbel⟩
end Go.Proofs.Ytgmbofoneeagiaa
