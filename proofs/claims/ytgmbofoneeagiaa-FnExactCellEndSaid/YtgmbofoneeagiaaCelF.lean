/- An end's next cell: CellEnd of both, where there is none. -/
import Derived.Test.YtgmbofoneeagiaaResC
namespace Go.Proofs.Ytgmbofoneeagiaa
open Go.RowKit

set_option linter.unusedVariables false in
set_option maxRecDepth 100000 in
set_option maxHeartbeats 8000000 in
theorem implCellEndFault_any (slot base next bad : Int) (A0 : Option Addr) (n0 c0 : Nat) (els : List PartD) (A1 : Option Addr) (n1 c1 : Nat) (hs : List HeldD) (A2 : Option Addr) (n2 c2 : Nat) (l : List Int) (A3 : Option Addr) (n3 c3 : Nat) (got : List (List Int)) (w : World)
    (h0 : Lst PartD.cels 4 w A0 n0 els) (h1 : Lst HeldD.cels 3 w A1 n1 hs) (h2 : Bs w A2 n2 l) (hz2 : A2 = none → c2 = 0) (h3 : Lst bytC 1 w A3 n3 got) (hn0 : n0 ≤ 1048576) (hn1 : n1 ≤ 1048576) (hb1 : ∀ e ∈ hs, e.f1.length ≤ 1048576) (hn2 : n2 ≤ 1048576) (hn3 : n3 ≤ 1048576) (hb3 : ∀ e ∈ got, e.length ≤ 1048576) (z : Int) (hz : endF slot base els next hs n2 got bad = z) (hz0 : z ≠ 0) :
    Calls Try.prog 75 #[.agg #[.int .i64 slot, .int .i64 base, .slice A0 n0 c0, .int .i64 next, .slice A1 n1 c1, .slice A2 n2 c2, .slice A3 n3 c3, .int .i64 bad]] w fun x w' => x = .returned (.agg #[.int .i64 z, .int .i64 0, .int .i64 0, .slice none 0 0, .int .i64 0, .slice none 0 0, .slice none 0 0, .slice none 0 0, .int .i64 0, .int .i64 0, .int .i64 0, .int .i64 0, .int .i64 0, .bool false, .slice none 0 0, .slice none 0 0]) ∧ Below w.heap.size w w' := by
  have hef := fun W L M N => implEndFault_any slot base next bad A0 n0 c0 els A1 n1 c1 hs A2 n2 c2 A3 n3 c3 got W L M N hn0 hn1 hn2 hn3 hb3
  rw [hz] at hef
  have t0 : (z != 0) = true := by simpa using hz0
  clear hz
  have S0 := (Stc.new w 119 [.int .i64 slot, .int .i64 base, .slice A0 n0 c0, .int .i64 next, .slice A1 n1 c1, .slice A2 n2 c2, .slice A3 n3 c3, .int .i64 bad] _ rfl).alloc (.cells #[.int .i64 0, .int .i64 0, .int .i64 0, .slice none 0 0, .int .i64 0, .slice none 0 0, .slice none 0 0, .slice none 0 0, .int .i64 0, .int .i64 0, .int .i64 0, .int .i64 0, .int .i64 0, .bool false, .slice none 0 0, .slice none 0 0] 121)
  have Z0_ := (Stc.new (w.alloc (.cells #[.int .i64 slot, .int .i64 base, .slice A0 n0 c0, .int .i64 next, .slice A1 n1 c1, .slice A2 n2 c2, .slice A3 n3 c3, .int .i64 bad] 119)) 121 [.int .i64 0, .int .i64 0, .int .i64 0, .slice none 0 0, .int .i64 0, .slice none 0 0, .slice none 0 0, .slice none 0 0, .int .i64 0, .int .i64 0, .int .i64 0, .int .i64 0, .int .i64 0, .bool false, .slice none 0 0, .slice none 0 0] _ rfl)
  have B0 := ab (ab (Below.refl _ w) (.cells #[.int .i64 slot, .int .i64 base, .slice A0 n0 c0, .int .i64 next, .slice A1 n1 c1, .slice A2 n2 c2, .slice A3 n3 c3, .int .i64 bad] 119)) (.cells #[.int .i64 0, .int .i64 0, .int .i64 0, .slice none 0 0, .int .i64 0, .slice none 0 0, .slice none 0 0, .slice none 0 0, .int .i64 0, .int .i64 0, .int .i64 0, .int .i64 0, .int .i64 0, .bool false, .slice none 0 0, .slice none 0 0] 121)
  simp only [World.size_alloc] at Z0_
  have s0 := S0.cell (i := 0) rfl
  have s1 := S0.cell (i := 1) rfl
  have s2 := S0.cell (i := 2) rfl
  have s3 := S0.cell (i := 3) rfl
  have s4 := S0.cell (i := 4) rfl
  have s5 := S0.cell (i := 5) rfl
  have s6 := S0.cell (i := 6) rfl
  have s7 := S0.cell (i := 7) rfl
  go_enter Try.func75, Try.ntmps75
  go_wp2_with fail
  refine (hef _ (h0.below B0) (h1.below B0) (h3.below B0)).mono ?_
  rintro x w1 ⟨rfl, b1⟩
  have z1 := b1.size
  simp only [World.size_alloc] at z1
  replace S0 := S0.below b1 S0.lt
  have ZZ := Z0_.below b1 Z0_.lt
  have B1 := ac B0 b1
  clear s0 s1 s2 s3 s4 s5 s6 s7
  have ZA := ZZ
  have q0 := ZA.cell (i := 0) rfl
  have q1 := ZA.cell (i := 1) rfl
  have q2 := ZA.cell (i := 2) rfl
  have q3 := ZA.cell (i := 3) rfl
  have q4 := ZA.cell (i := 4) rfl
  have q5 := ZA.cell (i := 5) rfl
  have q6 := ZA.cell (i := 6) rfl
  have q7 := ZA.cell (i := 7) rfl
  have q8 := ZA.cell (i := 8) rfl
  have q9 := ZA.cell (i := 9) rfl
  have q10 := ZA.cell (i := 10) rfl
  have q11 := ZA.cell (i := 11) rfl
  have q12 := ZA.cell (i := 12) rfl
  have q13 := ZA.cell (i := 13) rfl
  have q14 := ZA.cell (i := 14) rfl
  have q15 := ZA.cell (i := 15) rfl
  have qf := ZA.frozen
  go_wp2
  have J := stcR ZA (.int .i64 z) (.int .i64 0) (.int .i64 0) (.slice none 0 0) (.int .i64 0) (.slice none 0 0) (.slice none 0 0) (.slice none 0 0) (.int .i64 0) (.int .i64 0) (.int .i64 0) (.int .i64 0) (.int .i64 0) (.bool false) (.slice none 0 0) (.slice none 0 0)
  have r0 := J.cell (i := 0) rfl
  have r1 := J.cell (i := 1) rfl
  have r2 := J.cell (i := 2) rfl
  have r3 := J.cell (i := 3) rfl
  have r4 := J.cell (i := 4) rfl
  have r5 := J.cell (i := 5) rfl
  have r6 := J.cell (i := 6) rfl
  have r7 := J.cell (i := 7) rfl
  have r8 := J.cell (i := 8) rfl
  have r9 := J.cell (i := 9) rfl
  have r10 := J.cell (i := 10) rfl
  have r11 := J.cell (i := 11) rfl
  have r12 := J.cell (i := 12) rfl
  have r13 := J.cell (i := 13) rfl
  have r14 := J.cell (i := 14) rfl
  have r15 := J.cell (i := 15) rfl
  refine bodyPost_ret (v := .agg #[.int .i64 z, .int .i64 0, .int .i64 0, .slice none 0 0, .int .i64 0, .slice none 0 0, .slice none 0 0, .slice none 0 0, .int .i64 0, .int .i64 0, .int .i64 0, .int .i64 0, .int .i64 0, .bool false, .slice none 0 0, .slice none 0 0]) (by simp [results, Try.results75, go_sem, r0, r1, r2, r3, r4, r5, r6, r7, r8, r9, r10, r11, r12, r13, r14, r15]) rfl ?_
  exact ⟨rfl, B1.trans ((tuR w1 (w.heap.size + 1) (.int .i64 z) (.int .i64 0) (.int .i64 0) (.slice none 0 0) (.int .i64 0) (.slice none 0 0) (.slice none 0 0) (.slice none 0 0) (.int .i64 0) (.int .i64 0) (.int .i64 0) (.int .i64 0) (.int .i64 0) (.bool false) (.slice none 0 0) (.slice none 0 0)).below (by have := B1.size; omega) (fun b e => by omega))⟩

set_option linter.unusedVariables false in
set_option maxRecDepth 100000 in
set_option maxHeartbeats 8000000 in
theorem implCellEndState_any (slot base next bad : Int) (A0 : Option Addr) (n0 c0 : Nat) (els : List PartD) (A1 : Option Addr) (n1 c1 : Nat) (hs : List HeldD) (A2 : Option Addr) (n2 c2 : Nat) (l : List Int) (A3 : Option Addr) (n3 c3 : Nat) (got : List (List Int)) (w : World)
    (h0 : Lst PartD.cels 4 w A0 n0 els) (h1 : Lst HeldD.cels 3 w A1 n1 hs) (h2 : Bs w A2 n2 l) (hz2 : A2 = none → c2 = 0) (h3 : Lst bytC 1 w A3 n3 got) (hn0 : n0 ≤ 1048576) (hn1 : n1 ≤ 1048576) (hb1 : ∀ e ∈ hs, e.f1.length ≤ 1048576) (hn2 : n2 ≤ 1048576) (hn3 : n3 ≤ 1048576) (hb3 : ∀ e ∈ got, e.length ≤ 1048576) (hz : endF slot base els next hs n2 got bad = 0) (hs1 : 400 < slot) :
    Calls Try.prog 75 #[.agg #[.int .i64 slot, .int .i64 base, .slice A0 n0 c0, .int .i64 next, .slice A1 n1 c1, .slice A2 n2 c2, .slice A3 n3 c3, .int .i64 bad]] w fun x w' => x = .returned (.agg #[.int .i64 8, .int .i64 0, .int .i64 0, .slice none 0 0, .int .i64 0, .slice none 0 0, .slice none 0 0, .slice none 0 0, .int .i64 0, .int .i64 0, .int .i64 0, .int .i64 0, .int .i64 0, .bool false, .slice none 0 0, .slice none 0 0]) ∧ Below w.heap.size w w' := by
  have hef := fun W L M N => implEndFault_any slot base next bad A0 n0 c0 els A1 n1 c1 hs A2 n2 c2 A3 n3 c3 got W L M N hn0 hn1 hn2 hn3 hb3
  have hsl := (endF_zero hz).1
  rw [hz] at hef
  have hsl2 := fun W => isSlot_any slot W
  rw [show slotB slot = false by unfold slotB; simp; omega] at hsl2
  clear hz
  have S0 := (Stc.new w 119 [.int .i64 slot, .int .i64 base, .slice A0 n0 c0, .int .i64 next, .slice A1 n1 c1, .slice A2 n2 c2, .slice A3 n3 c3, .int .i64 bad] _ rfl).alloc (.cells #[.int .i64 0, .int .i64 0, .int .i64 0, .slice none 0 0, .int .i64 0, .slice none 0 0, .slice none 0 0, .slice none 0 0, .int .i64 0, .int .i64 0, .int .i64 0, .int .i64 0, .int .i64 0, .bool false, .slice none 0 0, .slice none 0 0] 121)
  have Z0_ := (Stc.new (w.alloc (.cells #[.int .i64 slot, .int .i64 base, .slice A0 n0 c0, .int .i64 next, .slice A1 n1 c1, .slice A2 n2 c2, .slice A3 n3 c3, .int .i64 bad] 119)) 121 [.int .i64 0, .int .i64 0, .int .i64 0, .slice none 0 0, .int .i64 0, .slice none 0 0, .slice none 0 0, .slice none 0 0, .int .i64 0, .int .i64 0, .int .i64 0, .int .i64 0, .int .i64 0, .bool false, .slice none 0 0, .slice none 0 0] _ rfl)
  have B0 := ab (ab (Below.refl _ w) (.cells #[.int .i64 slot, .int .i64 base, .slice A0 n0 c0, .int .i64 next, .slice A1 n1 c1, .slice A2 n2 c2, .slice A3 n3 c3, .int .i64 bad] 119)) (.cells #[.int .i64 0, .int .i64 0, .int .i64 0, .slice none 0 0, .int .i64 0, .slice none 0 0, .slice none 0 0, .slice none 0 0, .int .i64 0, .int .i64 0, .int .i64 0, .int .i64 0, .int .i64 0, .bool false, .slice none 0 0, .slice none 0 0] 121)
  simp only [World.size_alloc] at Z0_
  have s0 := S0.cell (i := 0) rfl
  have s1 := S0.cell (i := 1) rfl
  have s2 := S0.cell (i := 2) rfl
  have s3 := S0.cell (i := 3) rfl
  have s4 := S0.cell (i := 4) rfl
  have s5 := S0.cell (i := 5) rfl
  have s6 := S0.cell (i := 6) rfl
  have s7 := S0.cell (i := 7) rfl
  go_enter Try.func75, Try.ntmps75
  go_wp2_with fail
  refine (hef _ (h0.below B0) (h1.below B0) (h3.below B0)).mono ?_
  rintro x w1 ⟨rfl, b1⟩
  have z1 := b1.size
  simp only [World.size_alloc] at z1
  replace S0 := S0.below b1 S0.lt
  have ZZ := Z0_.below b1 Z0_.lt
  have B1 := ac B0 b1
  clear s0 s1 s2 s3 s4 s5 s6 s7
  have s0 := S0.cell (i := 0) rfl
  go_wp2_with fail
  refine (hsl2 _).mono ?_
  rintro x w2 ⟨rfl, rfl⟩
  have ZA := ZZ
  have q0 := ZA.cell (i := 0) rfl
  have q1 := ZA.cell (i := 1) rfl
  have q2 := ZA.cell (i := 2) rfl
  have q3 := ZA.cell (i := 3) rfl
  have q4 := ZA.cell (i := 4) rfl
  have q5 := ZA.cell (i := 5) rfl
  have q6 := ZA.cell (i := 6) rfl
  have q7 := ZA.cell (i := 7) rfl
  have q8 := ZA.cell (i := 8) rfl
  have q9 := ZA.cell (i := 9) rfl
  have q10 := ZA.cell (i := 10) rfl
  have q11 := ZA.cell (i := 11) rfl
  have q12 := ZA.cell (i := 12) rfl
  have q13 := ZA.cell (i := 13) rfl
  have q14 := ZA.cell (i := 14) rfl
  have q15 := ZA.cell (i := 15) rfl
  have qf := ZA.frozen
  go_wp2
  have J := stcR ZA (.int .i64 8) (.int .i64 0) (.int .i64 0) (.slice none 0 0) (.int .i64 0) (.slice none 0 0) (.slice none 0 0) (.slice none 0 0) (.int .i64 0) (.int .i64 0) (.int .i64 0) (.int .i64 0) (.int .i64 0) (.bool false) (.slice none 0 0) (.slice none 0 0)
  have r0 := J.cell (i := 0) rfl
  have r1 := J.cell (i := 1) rfl
  have r2 := J.cell (i := 2) rfl
  have r3 := J.cell (i := 3) rfl
  have r4 := J.cell (i := 4) rfl
  have r5 := J.cell (i := 5) rfl
  have r6 := J.cell (i := 6) rfl
  have r7 := J.cell (i := 7) rfl
  have r8 := J.cell (i := 8) rfl
  have r9 := J.cell (i := 9) rfl
  have r10 := J.cell (i := 10) rfl
  have r11 := J.cell (i := 11) rfl
  have r12 := J.cell (i := 12) rfl
  have r13 := J.cell (i := 13) rfl
  have r14 := J.cell (i := 14) rfl
  have r15 := J.cell (i := 15) rfl
  refine bodyPost_ret (v := .agg #[.int .i64 8, .int .i64 0, .int .i64 0, .slice none 0 0, .int .i64 0, .slice none 0 0, .slice none 0 0, .slice none 0 0, .int .i64 0, .int .i64 0, .int .i64 0, .int .i64 0, .int .i64 0, .bool false, .slice none 0 0, .slice none 0 0]) (by simp [results, Try.results75, go_sem, r0, r1, r2, r3, r4, r5, r6, r7, r8, r9, r10, r11, r12, r13, r14, r15]) rfl ?_
  exact ⟨rfl, B1.trans ((tuR w1 (w.heap.size + 1) (.int .i64 8) (.int .i64 0) (.int .i64 0) (.slice none 0 0) (.int .i64 0) (.slice none 0 0) (.slice none 0 0) (.slice none 0 0) (.int .i64 0) (.int .i64 0) (.int .i64 0) (.int .i64 0) (.int .i64 0) (.bool false) (.slice none 0 0) (.slice none 0 0)).below (by have := B1.size; omega) (fun b e => by omega))⟩

set_option linter.unusedVariables false in
set_option maxRecDepth 100000 in
set_option maxHeartbeats 8000000 in
theorem specCellEndFault_any (slot base next bad : Int) (A0 : Option Addr) (n0 c0 : Nat) (els : List PartD) (A1 : Option Addr) (n1 c1 : Nat) (hs : List HeldD) (A2 : Option Addr) (n2 c2 : Nat) (l : List Int) (A3 : Option Addr) (n3 c3 : Nat) (got : List (List Int)) (w : World)
    (h0 : Lst PartD.cels 4 w A0 n0 els) (h1 : Lst HeldD.cels 3 w A1 n1 hs) (h2 : Bs w A2 n2 l) (hz2 : A2 = none → c2 = 0) (h3 : Lst bytC 1 w A3 n3 got) (hn0 : n0 ≤ 1048576) (hn1 : n1 ≤ 1048576) (hb1 : ∀ e ∈ hs, e.f1.length ≤ 1048576) (hn2 : n2 ≤ 1048576) (hn3 : n3 ≤ 1048576) (hb3 : ∀ e ∈ got, e.length ≤ 1048576) (z : Int) (hz : endF slot base els next hs n2 got bad = z) (hz0 : z ≠ 0) :
    Calls Try.prog 73 #[.agg #[.int .i64 slot, .int .i64 base, .slice A0 n0 c0, .int .i64 next, .slice A1 n1 c1, .slice A2 n2 c2, .slice A3 n3 c3, .int .i64 bad]] w fun x w' => x = .returned (.agg #[.int .i64 z, .int .i64 0, .int .i64 0, .slice none 0 0, .int .i64 0, .slice none 0 0, .slice none 0 0, .slice none 0 0, .int .i64 0, .int .i64 0, .int .i64 0, .int .i64 0, .int .i64 0, .bool false, .slice none 0 0, .slice none 0 0]) ∧ Below w.heap.size w w' := by
  have hef := fun W L M N => specEndFault_any slot base next bad A0 n0 c0 els A1 n1 c1 hs A2 n2 c2 A3 n3 c3 got W L M N hn0 hn1 hn2 hn3 hb3
  rw [hz] at hef
  have t0 : (z != 0) = true := by simpa using hz0
  clear hz
  have S0 := (Stc.new w 119 [.int .i64 slot, .int .i64 base, .slice A0 n0 c0, .int .i64 next, .slice A1 n1 c1, .slice A2 n2 c2, .slice A3 n3 c3, .int .i64 bad] _ rfl).alloc (.cells #[.int .i64 0, .int .i64 0, .int .i64 0, .slice none 0 0, .int .i64 0, .slice none 0 0, .slice none 0 0, .slice none 0 0, .int .i64 0, .int .i64 0, .int .i64 0, .int .i64 0, .int .i64 0, .bool false, .slice none 0 0, .slice none 0 0] 121)
  have Z0_ := (Stc.new (w.alloc (.cells #[.int .i64 slot, .int .i64 base, .slice A0 n0 c0, .int .i64 next, .slice A1 n1 c1, .slice A2 n2 c2, .slice A3 n3 c3, .int .i64 bad] 119)) 121 [.int .i64 0, .int .i64 0, .int .i64 0, .slice none 0 0, .int .i64 0, .slice none 0 0, .slice none 0 0, .slice none 0 0, .int .i64 0, .int .i64 0, .int .i64 0, .int .i64 0, .int .i64 0, .bool false, .slice none 0 0, .slice none 0 0] _ rfl)
  have B0 := ab (ab (Below.refl _ w) (.cells #[.int .i64 slot, .int .i64 base, .slice A0 n0 c0, .int .i64 next, .slice A1 n1 c1, .slice A2 n2 c2, .slice A3 n3 c3, .int .i64 bad] 119)) (.cells #[.int .i64 0, .int .i64 0, .int .i64 0, .slice none 0 0, .int .i64 0, .slice none 0 0, .slice none 0 0, .slice none 0 0, .int .i64 0, .int .i64 0, .int .i64 0, .int .i64 0, .int .i64 0, .bool false, .slice none 0 0, .slice none 0 0] 121)
  simp only [World.size_alloc] at Z0_
  have s0 := S0.cell (i := 0) rfl
  have s1 := S0.cell (i := 1) rfl
  have s2 := S0.cell (i := 2) rfl
  have s3 := S0.cell (i := 3) rfl
  have s4 := S0.cell (i := 4) rfl
  have s5 := S0.cell (i := 5) rfl
  have s6 := S0.cell (i := 6) rfl
  have s7 := S0.cell (i := 7) rfl
  go_enter Try.func73, Try.ntmps73
  go_wp2_with fail
  refine (hef _ (h0.below B0) (h1.below B0) (h3.below B0)).mono ?_
  rintro x w1 ⟨rfl, b1⟩
  have z1 := b1.size
  simp only [World.size_alloc] at z1
  replace S0 := S0.below b1 S0.lt
  have ZZ := Z0_.below b1 Z0_.lt
  have B1 := ac B0 b1
  clear s0 s1 s2 s3 s4 s5 s6 s7
  have ZA := ZZ
  have q0 := ZA.cell (i := 0) rfl
  have q1 := ZA.cell (i := 1) rfl
  have q2 := ZA.cell (i := 2) rfl
  have q3 := ZA.cell (i := 3) rfl
  have q4 := ZA.cell (i := 4) rfl
  have q5 := ZA.cell (i := 5) rfl
  have q6 := ZA.cell (i := 6) rfl
  have q7 := ZA.cell (i := 7) rfl
  have q8 := ZA.cell (i := 8) rfl
  have q9 := ZA.cell (i := 9) rfl
  have q10 := ZA.cell (i := 10) rfl
  have q11 := ZA.cell (i := 11) rfl
  have q12 := ZA.cell (i := 12) rfl
  have q13 := ZA.cell (i := 13) rfl
  have q14 := ZA.cell (i := 14) rfl
  have q15 := ZA.cell (i := 15) rfl
  have qf := ZA.frozen
  go_wp2
  have J := stcR ZA (.int .i64 z) (.int .i64 0) (.int .i64 0) (.slice none 0 0) (.int .i64 0) (.slice none 0 0) (.slice none 0 0) (.slice none 0 0) (.int .i64 0) (.int .i64 0) (.int .i64 0) (.int .i64 0) (.int .i64 0) (.bool false) (.slice none 0 0) (.slice none 0 0)
  have r0 := J.cell (i := 0) rfl
  have r1 := J.cell (i := 1) rfl
  have r2 := J.cell (i := 2) rfl
  have r3 := J.cell (i := 3) rfl
  have r4 := J.cell (i := 4) rfl
  have r5 := J.cell (i := 5) rfl
  have r6 := J.cell (i := 6) rfl
  have r7 := J.cell (i := 7) rfl
  have r8 := J.cell (i := 8) rfl
  have r9 := J.cell (i := 9) rfl
  have r10 := J.cell (i := 10) rfl
  have r11 := J.cell (i := 11) rfl
  have r12 := J.cell (i := 12) rfl
  have r13 := J.cell (i := 13) rfl
  have r14 := J.cell (i := 14) rfl
  have r15 := J.cell (i := 15) rfl
  refine bodyPost_ret (v := .agg #[.int .i64 z, .int .i64 0, .int .i64 0, .slice none 0 0, .int .i64 0, .slice none 0 0, .slice none 0 0, .slice none 0 0, .int .i64 0, .int .i64 0, .int .i64 0, .int .i64 0, .int .i64 0, .bool false, .slice none 0 0, .slice none 0 0]) (by simp [results, Try.results73, go_sem, r0, r1, r2, r3, r4, r5, r6, r7, r8, r9, r10, r11, r12, r13, r14, r15]) rfl ?_
  exact ⟨rfl, B1.trans ((tuR w1 (w.heap.size + 1) (.int .i64 z) (.int .i64 0) (.int .i64 0) (.slice none 0 0) (.int .i64 0) (.slice none 0 0) (.slice none 0 0) (.slice none 0 0) (.int .i64 0) (.int .i64 0) (.int .i64 0) (.int .i64 0) (.int .i64 0) (.bool false) (.slice none 0 0) (.slice none 0 0)).below (by have := B1.size; omega) (fun b e => by omega))⟩

set_option linter.unusedVariables false in
set_option maxRecDepth 100000 in
set_option maxHeartbeats 8000000 in
theorem specCellEndState_any (slot base next bad : Int) (A0 : Option Addr) (n0 c0 : Nat) (els : List PartD) (A1 : Option Addr) (n1 c1 : Nat) (hs : List HeldD) (A2 : Option Addr) (n2 c2 : Nat) (l : List Int) (A3 : Option Addr) (n3 c3 : Nat) (got : List (List Int)) (w : World)
    (h0 : Lst PartD.cels 4 w A0 n0 els) (h1 : Lst HeldD.cels 3 w A1 n1 hs) (h2 : Bs w A2 n2 l) (hz2 : A2 = none → c2 = 0) (h3 : Lst bytC 1 w A3 n3 got) (hn0 : n0 ≤ 1048576) (hn1 : n1 ≤ 1048576) (hb1 : ∀ e ∈ hs, e.f1.length ≤ 1048576) (hn2 : n2 ≤ 1048576) (hn3 : n3 ≤ 1048576) (hb3 : ∀ e ∈ got, e.length ≤ 1048576) (hz : endF slot base els next hs n2 got bad = 0) (hs1 : 400 < slot) :
    Calls Try.prog 73 #[.agg #[.int .i64 slot, .int .i64 base, .slice A0 n0 c0, .int .i64 next, .slice A1 n1 c1, .slice A2 n2 c2, .slice A3 n3 c3, .int .i64 bad]] w fun x w' => x = .returned (.agg #[.int .i64 8, .int .i64 0, .int .i64 0, .slice none 0 0, .int .i64 0, .slice none 0 0, .slice none 0 0, .slice none 0 0, .int .i64 0, .int .i64 0, .int .i64 0, .int .i64 0, .int .i64 0, .bool false, .slice none 0 0, .slice none 0 0]) ∧ Below w.heap.size w w' := by
  have hef := fun W L M N => specEndFault_any slot base next bad A0 n0 c0 els A1 n1 c1 hs A2 n2 c2 A3 n3 c3 got W L M N hn0 hn1 hn2 hn3 hb3
  have hsl := (endF_zero hz).1
  rw [hz] at hef
  have t0 : decide (slot > 400) = true := by simp; omega
  clear hz
  have S0 := (Stc.new w 119 [.int .i64 slot, .int .i64 base, .slice A0 n0 c0, .int .i64 next, .slice A1 n1 c1, .slice A2 n2 c2, .slice A3 n3 c3, .int .i64 bad] _ rfl).alloc (.cells #[.int .i64 0, .int .i64 0, .int .i64 0, .slice none 0 0, .int .i64 0, .slice none 0 0, .slice none 0 0, .slice none 0 0, .int .i64 0, .int .i64 0, .int .i64 0, .int .i64 0, .int .i64 0, .bool false, .slice none 0 0, .slice none 0 0] 121)
  have Z0_ := (Stc.new (w.alloc (.cells #[.int .i64 slot, .int .i64 base, .slice A0 n0 c0, .int .i64 next, .slice A1 n1 c1, .slice A2 n2 c2, .slice A3 n3 c3, .int .i64 bad] 119)) 121 [.int .i64 0, .int .i64 0, .int .i64 0, .slice none 0 0, .int .i64 0, .slice none 0 0, .slice none 0 0, .slice none 0 0, .int .i64 0, .int .i64 0, .int .i64 0, .int .i64 0, .int .i64 0, .bool false, .slice none 0 0, .slice none 0 0] _ rfl)
  have B0 := ab (ab (Below.refl _ w) (.cells #[.int .i64 slot, .int .i64 base, .slice A0 n0 c0, .int .i64 next, .slice A1 n1 c1, .slice A2 n2 c2, .slice A3 n3 c3, .int .i64 bad] 119)) (.cells #[.int .i64 0, .int .i64 0, .int .i64 0, .slice none 0 0, .int .i64 0, .slice none 0 0, .slice none 0 0, .slice none 0 0, .int .i64 0, .int .i64 0, .int .i64 0, .int .i64 0, .int .i64 0, .bool false, .slice none 0 0, .slice none 0 0] 121)
  simp only [World.size_alloc] at Z0_
  have s0 := S0.cell (i := 0) rfl
  have s1 := S0.cell (i := 1) rfl
  have s2 := S0.cell (i := 2) rfl
  have s3 := S0.cell (i := 3) rfl
  have s4 := S0.cell (i := 4) rfl
  have s5 := S0.cell (i := 5) rfl
  have s6 := S0.cell (i := 6) rfl
  have s7 := S0.cell (i := 7) rfl
  go_enter Try.func73, Try.ntmps73
  go_wp2_with fail
  refine (hef _ (h0.below B0) (h1.below B0) (h3.below B0)).mono ?_
  rintro x w1 ⟨rfl, b1⟩
  have z1 := b1.size
  simp only [World.size_alloc] at z1
  replace S0 := S0.below b1 S0.lt
  have ZZ := Z0_.below b1 Z0_.lt
  have B1 := ac B0 b1
  clear s0 s1 s2 s3 s4 s5 s6 s7
  have s0 := S0.cell (i := 0) rfl
  have ZA := ZZ
  have q0 := ZA.cell (i := 0) rfl
  have q1 := ZA.cell (i := 1) rfl
  have q2 := ZA.cell (i := 2) rfl
  have q3 := ZA.cell (i := 3) rfl
  have q4 := ZA.cell (i := 4) rfl
  have q5 := ZA.cell (i := 5) rfl
  have q6 := ZA.cell (i := 6) rfl
  have q7 := ZA.cell (i := 7) rfl
  have q8 := ZA.cell (i := 8) rfl
  have q9 := ZA.cell (i := 9) rfl
  have q10 := ZA.cell (i := 10) rfl
  have q11 := ZA.cell (i := 11) rfl
  have q12 := ZA.cell (i := 12) rfl
  have q13 := ZA.cell (i := 13) rfl
  have q14 := ZA.cell (i := 14) rfl
  have q15 := ZA.cell (i := 15) rfl
  have qf := ZA.frozen
  go_wp2
  have J := stcR ZA (.int .i64 8) (.int .i64 0) (.int .i64 0) (.slice none 0 0) (.int .i64 0) (.slice none 0 0) (.slice none 0 0) (.slice none 0 0) (.int .i64 0) (.int .i64 0) (.int .i64 0) (.int .i64 0) (.int .i64 0) (.bool false) (.slice none 0 0) (.slice none 0 0)
  have r0 := J.cell (i := 0) rfl
  have r1 := J.cell (i := 1) rfl
  have r2 := J.cell (i := 2) rfl
  have r3 := J.cell (i := 3) rfl
  have r4 := J.cell (i := 4) rfl
  have r5 := J.cell (i := 5) rfl
  have r6 := J.cell (i := 6) rfl
  have r7 := J.cell (i := 7) rfl
  have r8 := J.cell (i := 8) rfl
  have r9 := J.cell (i := 9) rfl
  have r10 := J.cell (i := 10) rfl
  have r11 := J.cell (i := 11) rfl
  have r12 := J.cell (i := 12) rfl
  have r13 := J.cell (i := 13) rfl
  have r14 := J.cell (i := 14) rfl
  have r15 := J.cell (i := 15) rfl
  refine bodyPost_ret (v := .agg #[.int .i64 8, .int .i64 0, .int .i64 0, .slice none 0 0, .int .i64 0, .slice none 0 0, .slice none 0 0, .slice none 0 0, .int .i64 0, .int .i64 0, .int .i64 0, .int .i64 0, .int .i64 0, .bool false, .slice none 0 0, .slice none 0 0]) (by simp [results, Try.results73, go_sem, r0, r1, r2, r3, r4, r5, r6, r7, r8, r9, r10, r11, r12, r13, r14, r15]) rfl ?_
  exact ⟨rfl, B1.trans ((tuR w1 (w.heap.size + 1) (.int .i64 8) (.int .i64 0) (.int .i64 0) (.slice none 0 0) (.int .i64 0) (.slice none 0 0) (.slice none 0 0) (.slice none 0 0) (.int .i64 0) (.int .i64 0) (.int .i64 0) (.int .i64 0) (.int .i64 0) (.bool false) (.slice none 0 0) (.slice none 0 0)).below (by have := B1.size; omega) (fun b e => by omega))⟩

end Go.Proofs.Ytgmbofoneeagiaa
