/- Whether two ends are the same: of the model and of the program. -/
import Derived.Test.YtjpnacgdefgalaaBytC
import Derived.Test.YtjpnacgdefgalaaSndT
import Derived.Test.YtjpnacgdefgalaaRcvT
namespace Go.Proofs.Ytjpnacgdefgalaa
open Go.RowKit

set_option maxHeartbeats 2000000 in
theorem gotEqual_any (z : Bool) (A A' : Option Addr) (n c n' c' : Nat) (els els' : List (List Int)) (w : World) (h : Lst bytC 1 w A n els) (h' : Lst bytC 1 w A' n' els') (hn : n ≤ 1048576) (hn' : n' ≤ 1048576) (hz : z = true ↔ els = els') :
    Calls Try.prog 92 #[.slice A n c, .slice A' n' c', .func (.func 93) #[] #[]] w fun x w' => x = .returned (.bool z) ∧ Below w.heap.size w w' := by
  have Hl := Shut.mk h.len
  have Hl' := Shut.mk h'.len
  by_cases hnn : n = n'
  rotate_left
  · have E : Shut (z = false) := ⟨by
      cases z with
      | false => rfl
      | true => exact absurd (by rw [← Hl.out, ← Hl'.out, hz.1 rfl]) hnn⟩
    have t0 : ((n : Int) != (n' : Int)) = true := by simp; omega
    clear hz hnn
    go_enter Try.func92, Try.ntmps92
    go_wp2
    go_ret
    exact ⟨by rw [E.out]; rfl, Below.refl _ _⟩
  subst hnn
  have Hz := Shut.mk hz
  clear hz
  go_enter Try.func92, Try.ntmps92
  go_wp2
  go_loopw [17] (fun i wr => ∃ k : Nat, k ≤ n ∧ i = .int .i64 k ∧ Shut (els.take k = els'.take k) ∧ Below w.heap.size w wr) (fun i _ => n - (intOf i).toNat)
  case atStart => exact ⟨0, Nat.zero_le _, rfl, ⟨rfl⟩, Below.refl _ _⟩
  case round =>
    obtain ⟨k, hk, rfl, hT, hbel⟩ := hrel
    by_cases hlt : k < n
    · obtain ⟨b, off, e, B, m, d, rfl, hbs, he, g0, hB, hz⟩ := h.getByt hlt
      obtain ⟨b', off', e', B', m', d', rfl, hbs', he', g0', hB', hz'⟩ := h'.getByt hlt
      have hb' := bcell hbel
      have hl2 : b' < wr.heap.size := by have := hbel.size; omega
      have htp := fun W (hh : Below w.heap.size w W) => implSameBytes_any B B' m d m' d' e e' W (hB.below hh) (hB'.below hh)
      clear h h' hB hB'
      by_cases hq : e = e'
      · have hT' := Shut.mk (take_eq_succ hT.out he.out he'.out hq)
        rw [decide_eq_true hq] at htp
        clear hq
        go_wp2_with fail
        refine (htp _ hbel).mono ?_
        rintro x w1 ⟨rfl, rfl⟩
        go_wp2
        go_roundw
        case rel => exact ⟨k + 1, by omega, by go_num, hT', hbel⟩
        case measure => simp [intOf]; omega
      · have E : Shut (z = false) := ⟨by
          cases hh : z with
          | false => rfl
          | true => exact absurd (Hz.out.1 hh) (ne_at he.out he'.out hq)⟩
        rw [decide_eq_false hq] at htp
        clear hq
        go_wp2_with fail
        refine (htp _ hbel).mono ?_
        rintro x w1 ⟨rfl, rfl⟩
        go_wp2
        go_ret
        exact ⟨by rw [E.out]; rfl, hbel⟩
    · obtain rfl : k = n := by omega
      have E : Shut (z = true) := ⟨by
        have := hT.out
        rw [List.take_of_length_le (by rw [Hl.out]; exact Nat.le_refl _), List.take_of_length_le (by rw [Hl'.out]; exact Nat.le_refl _)] at this
        exact Hz.out.2 this⟩
      clear h h'
      go_wp2
      go_ret
      exact ⟨by rw [E.out]; rfl, hbel⟩

set_option linter.unusedVariables false in
set_option maxRecDepth 100000 in
set_option maxHeartbeats 4000000 in
theorem implSameEnds_any (z : Bool) (slot base next bad slot' base' next' bad' : Int) (A0 : Option Addr) (n0 c0 : Nat) (els : List PartD) (A0' : Option Addr) (n0' c0' : Nat) (els' : List PartD) (A1 : Option Addr) (n1 c1 : Nat) (hs : List HeldD) (A1' : Option Addr) (n1' c1' : Nat) (hs' : List HeldD) (A2 : Option Addr) (n2 c2 : Nat) (l : List Int) (A2' : Option Addr) (n2' c2' : Nat) (l' : List Int) (A3 : Option Addr) (n3 c3 : Nat) (got : List (List Int)) (A3' : Option Addr) (n3' c3' : Nat) (got' : List (List Int)) (w : World)
    (h0 : Lst PartD.cels 4 w A0 n0 els) (h0' : Lst PartD.cels 4 w A0' n0' els') (h1 : Lst HeldD.cels 3 w A1 n1 hs) (h1' : Lst HeldD.cels 3 w A1' n1' hs') (h2 : Bs w A2 n2 l) (h2' : Bs w A2' n2' l') (h3 : Lst bytC 1 w A3 n3 got) (h3' : Lst bytC 1 w A3' n3' got')
    (q0 : n0 ≤ 1048576) (q0' : n0' ≤ 1048576) (q1 : n1 ≤ 1048576) (q1' : n1' ≤ 1048576) (q3 : n3 ≤ 1048576) (q3' : n3' ≤ 1048576) (hz : z = true ↔ slot = slot' ∧ base = base' ∧ els = els' ∧ next = next' ∧ hs = hs' ∧ l = l' ∧ got = got' ∧ bad = bad') :
    Calls Try.prog 29 #[.agg #[.int .i64 slot, .int .i64 base, .slice A0 n0 c0, .int .i64 next, .slice A1 n1 c1, .slice A2 n2 c2, .slice A3 n3 c3, .int .i64 bad], .agg #[.int .i64 slot', .int .i64 base', .slice A0' n0' c0', .int .i64 next', .slice A1' n1' c1', .slice A2' n2' c2', .slice A3' n3' c3', .int .i64 bad']] w fun e w' => e = .returned (.bool z) ∧ Below w.heap.size w w' := by
  have F1 : ∀ q : Prop, (z = true → q) → ¬ q → Shut (z = false) := fun q h1 h2 => ⟨by
    cases hh : z with
    | false => rfl
    | true => exact absurd (h1 hh) h2⟩
  have S0 := (Stc.new w 41 [.int .i64 slot, .int .i64 base, .slice A0 n0 c0, .int .i64 next, .slice A1 n1 c1, .slice A2 n2 c2, .slice A3 n3 c3, .int .i64 bad] _ rfl).alloc (.cells #[.int .i64 slot', .int .i64 base', .slice A0' n0' c0', .int .i64 next', .slice A1' n1' c1', .slice A2' n2' c2', .slice A3' n3' c3', .int .i64 bad'] 41)
  have S1 := Stc.new (w.alloc (.cells #[.int .i64 slot, .int .i64 base, .slice A0 n0 c0, .int .i64 next, .slice A1 n1 c1, .slice A2 n2 c2, .slice A3 n3 c3, .int .i64 bad] 41)) 41 [.int .i64 slot', .int .i64 base', .slice A0' n0' c0', .int .i64 next', .slice A1' n1' c1', .slice A2' n2' c2', .slice A3' n3' c3', .int .i64 bad'] _ rfl
  have B0 := ab (ab (Below.refl _ w) (.cells #[.int .i64 slot, .int .i64 base, .slice A0 n0 c0, .int .i64 next, .slice A1 n1 c1, .slice A2 n2 c2, .slice A3 n3 c3, .int .i64 bad] 41)) (.cells #[.int .i64 slot', .int .i64 base', .slice A0' n0' c0', .int .i64 next', .slice A1' n1' c1', .slice A2' n2' c2', .slice A3' n3' c3', .int .i64 bad'] 41)
  simp only [World.size_alloc] at S1
  have HS := fun W L L' => implSameSenders_any (@decide (base = base' ∧ els = els') (Classical.propDecidable _)) base base' A0 A0' n0 c0 n0' c0' els els' W L L' q0 q0' (@decide_eq_true_iff _ (_))
  have HR := fun W L L' K K' => implSameReceivers_any (@decide (next = next' ∧ hs = hs' ∧ l = l') (Classical.propDecidable _)) next next' A1 A1' n1 c1 n1' c1' hs hs' A2 A2' n2 c2 n2' c2' l l' W L L' K K' q1 q1' (@decide_eq_true_iff _ (_))
  have HG := fun W L L' => gotEqual_any (@decide (got = got') (Classical.propDecidable _)) A3 A3' n3 c3 n3' c3' got got' W L L' q3 q3' (@decide_eq_true_iff _ (_))
  by_cases e0 : slot = slot'
  rotate_left
  · have E := F1 _ (fun h => (hz.1 h).1) e0
    have t0 : (slot == slot') = false := by simpa using e0
    clear F1 hz HS HR HG
    go_enter Try.func29, Try.ntmps29
    go_wp2
    go_ret
    exact ⟨by rw [E.out]; rfl, B0⟩
  have t0 : (slot == slot') = true := by simpa using e0
  by_cases e1 : bad = bad'
  rotate_left
  · have E := F1 _ (fun h => (hz.1 h).2.2.2.2.2.2.2) e1
    have t1 : (bad == bad') = false := by simpa using e1
    clear F1 hz HS HR HG e0
    go_enter Try.func29, Try.ntmps29
    go_wp2
    go_ret
    exact ⟨by rw [E.out]; rfl, B0⟩
  have t1 : (bad == bad') = true := by simpa using e1
  by_cases e2 : base = base' ∧ els = els'
  rotate_left
  · have E := F1 _ (fun h => ⟨(hz.1 h).2.1, (hz.1 h).2.2.1⟩) e2
    rw [@decide_eq_false _ (_) e2] at HS
    clear F1 hz HR HG e0 e1
    go_enter Try.func29, Try.ntmps29
    go_wp2_with fail
    refine (HS _ (h0.below B0) (h0'.below B0)).mono ?_
    rintro x w1 ⟨rfl, b1⟩
    have B1 := ac B0 b1
    replace S0 := S0.below b1 S0.lt
    replace S1 := S1.below b1 S1.lt
    have x3 := S0.cell (i := 3) rfl
    have x4 := S0.cell (i := 4) rfl
    have x5 := S0.cell (i := 5) rfl
    have y3 := S1.cell (i := 3) rfl
    have y4 := S1.cell (i := 4) rfl
    have y5 := S1.cell (i := 5) rfl
    go_wp2
    go_ret
    exact ⟨by rw [E.out]; rfl, B1⟩
  rw [@decide_eq_true _ (_) e2] at HS
  by_cases e3 : next = next' ∧ hs = hs' ∧ l = l'
  rotate_left
  · have E := F1 _ (fun h => ⟨(hz.1 h).2.2.2.1, (hz.1 h).2.2.2.2.1, (hz.1 h).2.2.2.2.2.1⟩) e3
    rw [@decide_eq_false _ (_) e3] at HR
    clear F1 hz HG e0 e1 e2
    go_enter Try.func29, Try.ntmps29
    go_wp2_with fail
    refine (HS _ (h0.below B0) (h0'.below B0)).mono ?_
    rintro x w1 ⟨rfl, b1⟩
    have B1 := ac B0 b1
    replace S0 := S0.below b1 S0.lt
    replace S1 := S1.below b1 S1.lt
    have x3 := S0.cell (i := 3) rfl
    have x4 := S0.cell (i := 4) rfl
    have x5 := S0.cell (i := 5) rfl
    have y3 := S1.cell (i := 3) rfl
    have y4 := S1.cell (i := 4) rfl
    have y5 := S1.cell (i := 5) rfl
    go_wp2_with fail
    refine (HR _ (h1.below B1) (h1'.below B1) (h2.below B1) (h2'.below B1)).mono ?_
    rintro x w2 ⟨rfl, b2⟩
    have B2 := ac B1 b2
    replace S0 := S0.below b2 S0.lt
    replace S1 := S1.below b2 S1.lt
    have x6 := S0.cell (i := 6) rfl
    have y6 := S1.cell (i := 6) rfl
    go_wp2
    go_ret
    exact ⟨by rw [E.out]; rfl, B2⟩
  rw [@decide_eq_true _ (_) e3] at HR
  by_cases e4 : got = got'
  rotate_left
  · have E := F1 _ (fun h => (hz.1 h).2.2.2.2.2.2.1) e4
    rw [@decide_eq_false _ (_) e4] at HG
    clear F1 hz e0 e1 e2 e3
    go_enter Try.func29, Try.ntmps29
    go_wp2_with fail
    refine (HS _ (h0.below B0) (h0'.below B0)).mono ?_
    rintro x w1 ⟨rfl, b1⟩
    have B1 := ac B0 b1
    replace S0 := S0.below b1 S0.lt
    replace S1 := S1.below b1 S1.lt
    have x3 := S0.cell (i := 3) rfl
    have x4 := S0.cell (i := 4) rfl
    have x5 := S0.cell (i := 5) rfl
    have y3 := S1.cell (i := 3) rfl
    have y4 := S1.cell (i := 4) rfl
    have y5 := S1.cell (i := 5) rfl
    go_wp2_with fail
    refine (HR _ (h1.below B1) (h1'.below B1) (h2.below B1) (h2'.below B1)).mono ?_
    rintro x w2 ⟨rfl, b2⟩
    have B2 := ac B1 b2
    replace S0 := S0.below b2 S0.lt
    replace S1 := S1.below b2 S1.lt
    have x6 := S0.cell (i := 6) rfl
    have y6 := S1.cell (i := 6) rfl
    go_wp2_with fail
    refine (HG _ (h3.below B2) (h3'.below B2)).mono ?_
    rintro x w3 ⟨rfl, b3⟩
    have B3 := ac B2 b3
    go_wp2
    go_ret
    exact ⟨by rw [E.out]; rfl, B3⟩
  have E : Shut (z = true) := ⟨hz.2 ⟨e0, e2.1, e2.2, e3.1, e3.2.1, e3.2.2, e4, e1⟩⟩
  rw [@decide_eq_true _ (_) e4] at HG
  clear F1 hz e0 e1 e2 e3 e4
  go_enter Try.func29, Try.ntmps29
  go_wp2_with fail
  refine (HS _ (h0.below B0) (h0'.below B0)).mono ?_
  rintro x w1 ⟨rfl, b1⟩
  have B1 := ac B0 b1
  replace S0 := S0.below b1 S0.lt
  replace S1 := S1.below b1 S1.lt
  have x3 := S0.cell (i := 3) rfl
  have x4 := S0.cell (i := 4) rfl
  have x5 := S0.cell (i := 5) rfl
  have y3 := S1.cell (i := 3) rfl
  have y4 := S1.cell (i := 4) rfl
  have y5 := S1.cell (i := 5) rfl
  go_wp2_with fail
  refine (HR _ (h1.below B1) (h1'.below B1) (h2.below B1) (h2'.below B1)).mono ?_
  rintro x w2 ⟨rfl, b2⟩
  have B2 := ac B1 b2
  replace S0 := S0.below b2 S0.lt
  replace S1 := S1.below b2 S1.lt
  have x6 := S0.cell (i := 6) rfl
  have y6 := S1.cell (i := 6) rfl
  go_wp2_with fail
  refine (HG _ (h3.below B2) (h3'.below B2)).mono ?_
  rintro x w3 ⟨rfl, b3⟩
  have B3 := ac B2 b3
  go_wp2
  go_ret
  exact ⟨by rw [E.out]; rfl, B3⟩

set_option linter.unusedVariables false in
set_option maxRecDepth 100000 in
set_option maxHeartbeats 4000000 in
theorem specSameEnds_any (z : Bool) (slot base next bad slot' base' next' bad' : Int) (A0 : Option Addr) (n0 c0 : Nat) (els : List PartD) (A0' : Option Addr) (n0' c0' : Nat) (els' : List PartD) (A1 : Option Addr) (n1 c1 : Nat) (hs : List HeldD) (A1' : Option Addr) (n1' c1' : Nat) (hs' : List HeldD) (A2 : Option Addr) (n2 c2 : Nat) (l : List Int) (A2' : Option Addr) (n2' c2' : Nat) (l' : List Int) (A3 : Option Addr) (n3 c3 : Nat) (got : List (List Int)) (A3' : Option Addr) (n3' c3' : Nat) (got' : List (List Int)) (w : World)
    (h0 : Lst PartD.cels 4 w A0 n0 els) (h0' : Lst PartD.cels 4 w A0' n0' els') (h1 : Lst HeldD.cels 3 w A1 n1 hs) (h1' : Lst HeldD.cels 3 w A1' n1' hs') (h2 : Bs w A2 n2 l) (h2' : Bs w A2' n2' l') (h3 : Lst bytC 1 w A3 n3 got) (h3' : Lst bytC 1 w A3' n3' got')
    (q0 : n0 ≤ 1048576) (q0' : n0' ≤ 1048576) (q1 : n1 ≤ 1048576) (q1' : n1' ≤ 1048576) (q3 : n3 ≤ 1048576) (q3' : n3' ≤ 1048576) (hz : z = true ↔ slot = slot' ∧ base = base' ∧ els = els' ∧ next = next' ∧ hs = hs' ∧ l = l' ∧ got = got' ∧ bad = bad') :
    Calls Try.prog 28 #[.agg #[.int .i64 slot, .int .i64 base, .slice A0 n0 c0, .int .i64 next, .slice A1 n1 c1, .slice A2 n2 c2, .slice A3 n3 c3, .int .i64 bad], .agg #[.int .i64 slot', .int .i64 base', .slice A0' n0' c0', .int .i64 next', .slice A1' n1' c1', .slice A2' n2' c2', .slice A3' n3' c3', .int .i64 bad']] w fun e w' => e = .returned (.bool z) ∧ Below w.heap.size w w' := by
  have F1 : ∀ q : Prop, (z = true → q) → ¬ q → Shut (z = false) := fun q h1 h2 => ⟨by
    cases hh : z with
    | false => rfl
    | true => exact absurd (h1 hh) h2⟩
  have S0 := (Stc.new w 41 [.int .i64 slot, .int .i64 base, .slice A0 n0 c0, .int .i64 next, .slice A1 n1 c1, .slice A2 n2 c2, .slice A3 n3 c3, .int .i64 bad] _ rfl).alloc (.cells #[.int .i64 slot', .int .i64 base', .slice A0' n0' c0', .int .i64 next', .slice A1' n1' c1', .slice A2' n2' c2', .slice A3' n3' c3', .int .i64 bad'] 41)
  have S1 := Stc.new (w.alloc (.cells #[.int .i64 slot, .int .i64 base, .slice A0 n0 c0, .int .i64 next, .slice A1 n1 c1, .slice A2 n2 c2, .slice A3 n3 c3, .int .i64 bad] 41)) 41 [.int .i64 slot', .int .i64 base', .slice A0' n0' c0', .int .i64 next', .slice A1' n1' c1', .slice A2' n2' c2', .slice A3' n3' c3', .int .i64 bad'] _ rfl
  have B0 := ab (ab (Below.refl _ w) (.cells #[.int .i64 slot, .int .i64 base, .slice A0 n0 c0, .int .i64 next, .slice A1 n1 c1, .slice A2 n2 c2, .slice A3 n3 c3, .int .i64 bad] 41)) (.cells #[.int .i64 slot', .int .i64 base', .slice A0' n0' c0', .int .i64 next', .slice A1' n1' c1', .slice A2' n2' c2', .slice A3' n3' c3', .int .i64 bad'] 41)
  simp only [World.size_alloc] at S1
  have HS := fun W L L' => specSameSenders_any (@decide (base = base' ∧ els = els') (Classical.propDecidable _)) base base' A0 A0' n0 c0 n0' c0' els els' W L L' q0 q0' (@decide_eq_true_iff _ (_))
  have HR := fun W L L' K K' => specSameReceivers_any (@decide (next = next' ∧ hs = hs' ∧ l = l') (Classical.propDecidable _)) next next' A1 A1' n1 c1 n1' c1' hs hs' A2 A2' n2 c2 n2' c2' l l' W L L' K K' q1 q1' (@decide_eq_true_iff _ (_))
  by_cases e0 : slot = slot'
  rotate_left
  · have E := F1 _ (fun h => (hz.1 h).1) e0
    have t0 : (slot != slot') = true := by simpa using e0
    clear F1 hz HS HR
    go_enter Try.func28, Try.ntmps28
    go_wp2
    go_ret
    exact ⟨by rw [E.out]; rfl, B0⟩
  have t0 : (slot != slot') = false := by simpa using e0
  by_cases e1 : bad = bad'
  rotate_left
  · have E := F1 _ (fun h => (hz.1 h).2.2.2.2.2.2.2) e1
    have t1 : (bad != bad') = true := by simpa using e1
    clear F1 hz HS HR e0
    go_enter Try.func28, Try.ntmps28
    go_wp2
    go_ret
    exact ⟨by rw [E.out]; rfl, B0⟩
  have t1 : (bad != bad') = false := by simpa using e1
  by_cases e2 : base = base' ∧ els = els'
  rotate_left
  · have E := F1 _ (fun h => ⟨(hz.1 h).2.1, (hz.1 h).2.2.1⟩) e2
    rw [@decide_eq_false _ (_) e2] at HS
    clear F1 hz HR e0 e1
    go_enter Try.func28, Try.ntmps28
    go_wp2_with fail
    refine (HS _ (h0.below B0) (h0'.below B0)).mono ?_
    rintro x w1 ⟨rfl, b1⟩
    have B1 := ac B0 b1
    replace S0 := S0.below b1 S0.lt
    replace S1 := S1.below b1 S1.lt
    have x3 := S0.cell (i := 3) rfl
    have x4 := S0.cell (i := 4) rfl
    have x5 := S0.cell (i := 5) rfl
    have y3 := S1.cell (i := 3) rfl
    have y4 := S1.cell (i := 4) rfl
    have y5 := S1.cell (i := 5) rfl
    go_wp2
    go_ret
    exact ⟨by rw [E.out]; rfl, B1⟩
  rw [@decide_eq_true _ (_) e2] at HS
  by_cases e3 : next = next' ∧ hs = hs' ∧ l = l'
  rotate_left
  · have E := F1 _ (fun h => ⟨(hz.1 h).2.2.2.1, (hz.1 h).2.2.2.2.1, (hz.1 h).2.2.2.2.2.1⟩) e3
    rw [@decide_eq_false _ (_) e3] at HR
    clear F1 hz e0 e1 e2
    go_enter Try.func28, Try.ntmps28
    go_wp2_with fail
    refine (HS _ (h0.below B0) (h0'.below B0)).mono ?_
    rintro x w1 ⟨rfl, b1⟩
    have B1 := ac B0 b1
    replace S0 := S0.below b1 S0.lt
    replace S1 := S1.below b1 S1.lt
    have x3 := S0.cell (i := 3) rfl
    have x4 := S0.cell (i := 4) rfl
    have x5 := S0.cell (i := 5) rfl
    have y3 := S1.cell (i := 3) rfl
    have y4 := S1.cell (i := 4) rfl
    have y5 := S1.cell (i := 5) rfl
    go_wp2_with fail
    refine (HR _ (h1.below B1) (h1'.below B1) (h2.below B1) (h2'.below B1)).mono ?_
    rintro x w2 ⟨rfl, b2⟩
    have B2 := ac B1 b2
    replace S0 := S0.below b2 S0.lt
    replace S1 := S1.below b2 S1.lt
    have x6 := S0.cell (i := 6) rfl
    have y6 := S1.cell (i := 6) rfl
    go_wp2
    go_ret
    exact ⟨by rw [E.out]; rfl, B2⟩
  rw [@decide_eq_true _ (_) e3] at HR
  have Hl := Shut.mk h3.len
  have Hl' := Shut.mk h3'.len
  have Hz : Shut (z = true ↔ got = got') := ⟨⟨fun h => (hz.1 h).2.2.2.2.2.2.1, fun h => hz.2 ⟨e0, e2.1, e2.2, e3.1, e3.2.1, e3.2.2, h, e1⟩⟩⟩
  clear hz
  by_cases hnn : n3 = n3'
  rotate_left
  · have E := F1 _ (fun h => Hz.out.1 h) (fun e => hnn (by rw [← Hl.out, ← Hl'.out, e]))
    have t2 : ((n3 : Int) != (n3' : Int)) = true := by simp; omega
    clear F1 e0 e1 e2 e3
    go_enter Try.func28, Try.ntmps28
    go_wp2_with fail
    refine (HS _ (h0.below B0) (h0'.below B0)).mono ?_
    rintro x w1 ⟨rfl, b1⟩
    have B1 := ac B0 b1
    replace S0 := S0.below b1 S0.lt
    replace S1 := S1.below b1 S1.lt
    have x3 := S0.cell (i := 3) rfl
    have x4 := S0.cell (i := 4) rfl
    have x5 := S0.cell (i := 5) rfl
    have y3 := S1.cell (i := 3) rfl
    have y4 := S1.cell (i := 4) rfl
    have y5 := S1.cell (i := 5) rfl
    go_wp2_with fail
    refine (HR _ (h1.below B1) (h1'.below B1) (h2.below B1) (h2'.below B1)).mono ?_
    rintro x w2 ⟨rfl, b2⟩
    have B2 := ac B1 b2
    replace S0 := S0.below b2 S0.lt
    replace S1 := S1.below b2 S1.lt
    have x6 := S0.cell (i := 6) rfl
    have y6 := S1.cell (i := 6) rfl
    go_wp2
    go_ret
    exact ⟨by rw [E.out]; rfl, B2⟩
  subst hnn
  clear F1 e0 e1 e2 e3
  go_enter Try.func28, Try.ntmps28
  go_wp2_with fail
  refine (HS _ (h0.below B0) (h0'.below B0)).mono ?_
  rintro x w1 ⟨rfl, b1⟩
  have B1 := ac B0 b1
  replace S0 := S0.below b1 S0.lt
  replace S1 := S1.below b1 S1.lt
  have x3 := S0.cell (i := 3) rfl
  have x4 := S0.cell (i := 4) rfl
  have x5 := S0.cell (i := 5) rfl
  have y3 := S1.cell (i := 3) rfl
  have y4 := S1.cell (i := 4) rfl
  have y5 := S1.cell (i := 5) rfl
  go_wp2_with fail
  refine (HR _ (h1.below B1) (h1'.below B1) (h2.below B1) (h2'.below B1)).mono ?_
  rintro x w2 ⟨rfl, b2⟩
  have B2 := ac B1 b2
  replace S0 := S0.below b2 S0.lt
  replace S1 := S1.below b2 S1.lt
  have x6 := S0.cell (i := 6) rfl
  have y6 := S1.cell (i := 6) rfl
  go_wp2
  go_loopw [46] (fun i wr => ∃ k : Nat, k ≤ n3 ∧ i = .int .i64 k ∧ Shut (got.take k = got'.take k) ∧ Stc wr w.heap.size [.int .i64 slot, .int .i64 base, .slice A0 n0 c0, .int .i64 next, .slice A1 n1 c1, .slice A2 n2 c2, .slice A3 n3 c3, .int .i64 bad] 41 ∧ Stc wr (w.heap.size + 1) [.int .i64 slot', .int .i64 base', .slice A0' n0' c0', .int .i64 next', .slice A1' n1' c1', .slice A2' n2' c2', .slice A3' n3 c3', .int .i64 bad'] 41 ∧ Below w.heap.size w wr) (fun i _ => n3 - (intOf i).toNat)
  case atStart => exact ⟨0, Nat.zero_le _, rfl, ⟨rfl⟩, S0, S1, B2⟩
  case round =>
    obtain ⟨k, hk, rfl, hT, hS, hS1, hbel⟩ := hrel
    have v1 := hS.cell (i := 6) rfl
    have v2 := hS1.cell (i := 6) rfl
    by_cases hlt : k < n3
    · obtain ⟨b, off, e, B, m, d, rfl, hbs, he, g0, hB, hz⟩ := h3.getByt hlt
      obtain ⟨b', off', e', B', m', d', rfl, hbs', he', g0', hB', hz'⟩ := h3'.getByt hlt
      have hb' := bcell hbel
      have H1 : ∀ q, (convert 26 9 (.slice B m d)).run Try.prog (wr.drewN q) = .ok (.string (strOfNums e)) (wr.drewN q) := fun q => run_str ((hB.below hbel).drewN q) d
      have H2 : ∀ q, (convert 26 9 (.slice B' m' d')).run Try.prog (wr.drewN q) = .ok (.string (strOfNums e')) (wr.drewN q) := fun q => run_str ((hB'.below hbel).drewN q) d'
      have Hb := str_beq hB.byte hB'.byte
      clear h0 h0' h1 h1' h2 h2' h3 h3' hB hB' HS HR
      by_cases hq : e = e'
      · rw [decide_eq_true hq] at Hb
        have hT' := Shut.mk (take_eq_succ hT.out he.out he'.out hq)
        clear hq he he'
        go_wp2
        go_quiet (fail)
        replace hbel := ad hbel nq
        replace hS := hS.drewN nq
        replace hS1 := hS1.drewN nq
        generalize wr.drewN nq = w9 at *
        go_wp2
        go_roundw
        case rel => exact ⟨k + 1, by omega, by go_num, hT', hS, hS1, hbel⟩
        case measure => (simp [intOf]; omega)
      · have E : Shut (z = false) := ⟨by
          cases hh : z with
          | false => rfl
          | true => exact absurd (Hz.out.1 hh) (ne_at he.out he'.out hq)⟩
        rw [decide_eq_false hq] at Hb
        clear hq he he'
        go_wp2
        go_quiet (fail)
        replace hbel := ad hbel nq
        generalize wr.drewN nq = w9 at *
        go_wp2
        go_ret
        exact ⟨by rw [E.out]; rfl, hbel⟩
    · obtain rfl : k = n3 := by omega
      have E : Shut (z = true) := ⟨by
        have := hT.out
        rw [List.take_of_length_le (by rw [Hl.out]; exact Nat.le_refl _), List.take_of_length_le (by rw [Hl'.out]; exact Nat.le_refl _)] at this
        exact Hz.out.2 this⟩
      clear h0 h0' h1 h1' h2 h2' h3 h3'
      go_wp2
      go_ret
      exact ⟨by rw [E.out]; rfl, hbel⟩

end Go.Proofs.Ytjpnacgdefgalaa
