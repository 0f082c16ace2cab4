/- An end's next cell: CellEnd of the model, where a part goes out. -/
import Derived.Test.YtgmbofoneeagiaaCelK
namespace Go.Proofs.Ytgmbofoneeagiaa
open Go.RowKit

set_option linter.unusedVariables false in
set_option maxRecDepth 100000 in
set_option maxHeartbeats 8000000 in
theorem specCellEndSome_any (slot base next bad : Int) (A0 : Option Addr) (n0 c0 : Nat) (els : List PartD) (A1 : Option Addr) (n1 c1 : Nat) (hs : List HeldD) (A2 : Option Addr) (n2 c2 : Nat) (l : List Int) (A3 : Option Addr) (n3 c3 : Nat) (got : List (List Int)) (w : World)
    (h0 : Lst PartD.cels 4 w A0 n0 els) (h1 : Lst HeldD.cels 3 w A1 n1 hs) (h2 : Bs w A2 n2 l) (hz2 : A2 = none → c2 = 0) (h3 : Lst bytC 1 w A3 n3 got) (hn0 : n0 ≤ 1048576) (hn1 : n1 ≤ 1048576) (hb1 : ∀ e ∈ hs, e.f1.length ≤ 1048576) (hn2 : n2 ≤ 1048576) (hn3 : n3 ≤ 1048576) (hb3 : ∀ e ∈ got, e.length ≤ 1048576) (hz : endF slot base els next hs n2 got bad = 0) (hs1 : slot ≤ 400) (k : Nat) (y : PartD) (hy : els[k]? = some y) (hch : choose slot 0 (-1) els = (k : Int)) :
    Calls Try.prog 73 #[.agg #[.int .i64 slot, .int .i64 base, .slice A0 n0 c0, .int .i64 next, .slice A1 n1 c1, .slice A2 n2 c2, .slice A3 n3 c3, .int .i64 bad]] w fun x w' => (∃ P0 p0 P1 p1 P2 p2 P3 p3 P4 p4, x = .returned (.agg #[.int .i64 0, .int .i64 (slot + 1), .int .i64 base, .slice P0 n0 p0, .int .i64 next, .slice P1 n1 p1, .slice P2 n2 p2, .slice P3 n3 p3, .int .i64 bad, .int .i64 1, .int .i64 (base + (k : Int)), .int .i64 next, .int .i64 (maskE next hs : Int), .bool y.f1, .slice P4 y.f0.length p4, .slice none 0 0]) ∧ ResB P0 n0 (els.set k (slotAt slot y)) P1 n1 hs P2 n2 l P3 n3 got P4 y.f0.length y.f0 none 0 [] w' (rng w.heap.size w'.heap.size)) ∧ Below w.heap.size w w' := by
  have hef := fun W L M N => specEndFault_any slot base next bad A0 n0 c0 els A1 n1 c1 hs A2 n2 c2 A3 n3 c3 got W L M N hn0 hn1 hn2 hn3 hb3
  obtain ⟨⟨hs0, _, _, _⟩, hsen, hrec, hgot⟩ := endF_zero hz
  obtain ⟨hba0, hba1, _, hse⟩ := senF_zero hsen
  have ok := recR_zero hrec
  have hb0 : ∀ e ∈ els, e.f0.length ≤ 1048576 := fun e he => by have := (hse e he).1; omega
  have hp : ∀ e ∈ els, -1 ≤ e.f2 ∧ e.f2 ≤ 1000 := fun e he => by have := (hse e he).2; omega
  have hym : y.f0.length ≤ 1048576 := hb0 y (List.mem_of_getElem? hy)
  have Hl3 := Shut.mk h3.len
  have hcp := fun g W S L M N O => l9Copy_any g slot base next bad A0 n0 c0 els A1 n1 c1 hs A2 n2 c2 l A3 n3 c3 got W S L M N hz2 O hn0 hb0 hn1 hb1 hn2 hn3 hb3
  have hce := fun g P0 p0 P1 p1 P2 p2 P3 p3 G G3 W S hFg hFl L M hF1 => l9CellSome_any g slot base P0 n0 p0 els next P1 n1 p1 hs P2 n2 p2 P3 n3 p3 bad n2 G G3 W S hFg hFl L M hF1 hn0 hn1 hp hs0 hs1 hba0 (by omega) ok k y hy hym hch
  rw [hz] at hef
  have t0 : decide (slot > 400) = false := by simp; omega
  clear hz hsen hrec hgot hse hch hp hb0 ok
  have S0 := (Stc.new w 119 [.int .i64 slot, .int .i64 base, .slice A0 n0 c0, .int .i64 next, .slice A1 n1 c1, .slice A2 n2 c2, .slice A3 n3 c3, .int .i64 bad] _ rfl).alloc (.cells #[.int .i64 0, .int .i64 0, .int .i64 0, .slice none 0 0, .int .i64 0, .slice none 0 0, .slice none 0 0, .slice none 0 0, .int .i64 0, .int .i64 0, .int .i64 0, .int .i64 0, .int .i64 0, .bool false, .slice none 0 0, .slice none 0 0] 121)
  have Z0_ := (Stc.new (w.alloc (.cells #[.int .i64 slot, .int .i64 base, .slice A0 n0 c0, .int .i64 next, .slice A1 n1 c1, .slice A2 n2 c2, .slice A3 n3 c3, .int .i64 bad] 119)) 121 [.int .i64 0, .int .i64 0, .int .i64 0, .slice none 0 0, .int .i64 0, .slice none 0 0, .slice none 0 0, .slice none 0 0, .int .i64 0, .int .i64 0, .int .i64 0, .int .i64 0, .int .i64 0, .bool false, .slice none 0 0, .slice none 0 0] _ rfl)
  have B0 := ab (ab (Below.refl _ w) (.cells #[.int .i64 slot, .int .i64 base, .slice A0 n0 c0, .int .i64 next, .slice A1 n1 c1, .slice A2 n2 c2, .slice A3 n3 c3, .int .i64 bad] 119)) (.cells #[.int .i64 0, .int .i64 0, .int .i64 0, .slice none 0 0, .int .i64 0, .slice none 0 0, .slice none 0 0, .slice none 0 0, .int .i64 0, .int .i64 0, .int .i64 0, .int .i64 0, .int .i64 0, .bool false, .slice none 0 0, .slice none 0 0] 121)
  simp only [World.size_alloc] at Z0_
  have s0 := S0.cell (i := 0) rfl
  have s1 := S0.cell (i := 1) rfl
  have s2 := S0.cell (i := 2) rfl
  have s3 := S0.cell (i := 3) rfl
  have s4 := S0.cell (i := 4) rfl
  have s5 := S0.cell (i := 5) rfl
  have s6 := S0.cell (i := 6) rfl
  have s7 := S0.cell (i := 7) rfl
  go_enter Try.func73, Try.ntmps73
  go_wp2_with fail
  refine (hef _ (h0.below B0) (h1.below B0) (h3.below B0)).mono ?_
  rintro x w1 ⟨rfl, b1⟩
  have z1 := b1.size
  simp only [World.size_alloc] at z1
  replace S0 := S0.below b1 S0.lt
  have ZZ := Z0_.below b1 Z0_.lt
  have B1 := ac B0 b1
  clear s0 s1 s2 s3 s4 s5 s6 s7 hef Z0_ b1 B0
  have s0 := S0.cell (i := 0) rfl
  go_wp2_with fail
  refine (hcp _ _ S0 (h0.below B1) (h1.below B1) (h2.below B1) (h3.below B1)).mono ?_
  rintro x w2 ⟨⟨P0, p0, P1, p1, P2, p2, P3, p3, rfl, _, _, _, RE⟩, b2⟩
  have z2 := b2.size
  have REB := RE.toB Hl3.out
  replace ZZ := ZZ.below b2 ZZ.lt
  have B2 := ac B1 b2
  clear s0 S0 hcp h0 h1 h2 h3 RE B1 b2
  have EX := Stc.new w2 119 [.int .i64 slot, .int .i64 base, .slice P0 n0 p0, .int .i64 next, .slice P1 n1 p1, .slice P2 n2 p2, .slice P3 n3 p3, .int .i64 bad] _ rfl
  have BE := ab (Below.refl w2.heap.size w2) (.cells #[.int .i64 slot, .int .i64 base, .slice P0 n0 p0, .int .i64 next, .slice P1 n1 p1, .slice P2 n2 p2, .slice P3 n3 p3, .int .i64 bad] 119)
  have ZX := ZZ.below BE ZZ.lt
  have RX := (okEndB P0 n0 els P1 n1 hs P2 n2 l P3 n3 got).below REB BE
  have OKr := ((okH P1 n1 hs).sep (okR P2 n2 l)).sep (okB P3 n3 got)
  obtain ⟨G, H, i, j, d, a, R⟩ := RX
  have Q := R
  obtain ⟨G2, H2, i2, j2, d2, ⟨G3, H3, i3, j3, d3, b, r⟩, c⟩ := Q
  have B3 := ac B2 BE
  have gl : ∀ q, G q → w1.heap.size ≤ q ∧ q < w2.heap.size := fun q hq => i q hq
  have hl : ∀ q, H q → w1.heap.size ≤ q ∧ q < w2.heap.size := fun q hq => j q hq
  generalize hW3 : w2.alloc (.cells #[.int .i64 slot, .int .i64 base, .slice P0 n0 p0, .int .i64 next, .slice P1 n1 p1, .slice P2 n2 p2, .slice P3 n3 p3, .int .i64 bad] 119) = W3 at *
  have zW3 : W3.heap.size = w2.heap.size + 1 := by rw [← hW3]; simp
  have nG : ¬ G w2.heap.size := fun h => by have := (gl _ h).2; omega
  have hF1 : ∀ q, G3 q → ¬ G q ∧ q < W3.heap.size := fun q hq => ⟨fun h => d q h (i2 q (i3 q hq)), by have := (hl q (i2 q (i3 q hq))).2; omega⟩
  clear ZZ REB BE
  go_wp2_with fail
  refine (hce _ P0 p0 P1 p1 P2 p2 P3 p3 G G3 _ EX nG (fun q hq => by have := (gl q hq).2; omega) a b hF1).mono ?_
  rintro x w4 ⟨⟨P4, p4, rfl, hO⟩, hL, EY, T4⟩
  have z4 := T4.size
  have ZY := ZX.tu T4 (fun h => h.elim (fun h => by have h3 : w.heap.size + 1 = w2.heap.size := h; omega) (fun h => by have := (gl _ h).1; omega))
  have B4 := B3.trans (T4.below (C := w.heap.size) B3.size (fun b e => e.elim (fun h => by have h3 : b = w2.heap.size := h; have := B2.size; omega) (fun h => by have := (gl _ h).1; omega)))
  have Rr := OKr.tu R T4 (fun b hb e => e.elim (fun h => by have h3 : b = w2.heap.size := h; have h4 := (hl b hb).2; omega) (fun h => d b h hb))
  have OK := okResB P0 n0 (els.set k (slotAt slot y)) P1 n1 hs P2 n2 l P3 n3 got P4 y.f0.length y.f0 none 0 []
  have RY : ResB P0 n0 (els.set k (slotAt slot y)) P1 n1 hs P2 n2 l P3 n3 got P4 y.f0.length y.f0 none 0 [] w4 (rng w1.heap.size w4.heap.size) :=
    ⟨rng w1.heap.size w2.heap.size, rng W3.heap.size w4.heap.size, fun q hq => by unfold rng at *; omega, fun q hq => by unfold rng at *; omega, fun q hq hq2 => by unfold rng at *; omega, ⟨G, H, i, j, d, hL, Rr⟩, rng W3.heap.size w4.heap.size, fun _ => False, fun q hq => hq, fun q hq => hq.elim, fun q _ hq => hq, hO, none_RF _ _ _⟩
  have BC := ab (Below.refl w4.heap.size w4) (.cells #[.int .i64 1, .int .i64 (base + (k : Int)), .int .i64 next, .int .i64 (maskE next hs : Int), .bool y.f1, .slice P4 y.f0.length p4] 67)
  have EZ := EY.alloc (.cells #[.int .i64 1, .int .i64 (base + (k : Int)), .int .i64 next, .int .i64 (maskE next hs : Int), .bool y.f1, .slice P4 y.f0.length p4] 67)
  have ZW := ZY.alloc (.cells #[.int .i64 1, .int .i64 (base + (k : Int)), .int .i64 next, .int .i64 (maskE next hs : Int), .bool y.f1, .slice P4 y.f0.length p4] 67)
  have CX := Stc.new w4 67 [.int .i64 1, .int .i64 (base + (k : Int)), .int .i64 next, .int .i64 (maskE next hs : Int), .bool y.f1, .slice P4 y.f0.length p4] _ rfl
  clear EX EY ZX ZY a b r c d d2 d3 i j i2 j2 i3 j3 hce B3 T4 R Rr hO hL hF1 gl hl nG OKr
  have q0 := ZW.cell (i := 0) rfl
  have q1 := ZW.cell (i := 1) rfl
  have q2 := ZW.cell (i := 2) rfl
  have q3 := ZW.cell (i := 3) rfl
  have q4 := ZW.cell (i := 4) rfl
  have q5 := ZW.cell (i := 5) rfl
  have q6 := ZW.cell (i := 6) rfl
  have q7 := ZW.cell (i := 7) rfl
  have q8 := ZW.cell (i := 8) rfl
  have q9 := ZW.cell (i := 9) rfl
  have q10 := ZW.cell (i := 10) rfl
  have q11 := ZW.cell (i := 11) rfl
  have q12 := ZW.cell (i := 12) rfl
  have q13 := ZW.cell (i := 13) rfl
  have q14 := ZW.cell (i := 14) rfl
  have q15 := ZW.cell (i := 15) rfl
  have e0 := EZ.cell (i := 0) rfl
  have e1 := EZ.cell (i := 1) rfl
  have e2 := EZ.cell (i := 2) rfl
  have e3 := EZ.cell (i := 3) rfl
  have e4 := EZ.cell (i := 4) rfl
  have e5 := EZ.cell (i := 5) rfl
  have e6 := EZ.cell (i := 6) rfl
  have e7 := EZ.cell (i := 7) rfl
  have x0 := CX.cell (i := 0) rfl
  have x1 := CX.cell (i := 1) rfl
  have x2 := CX.cell (i := 2) rfl
  have x3 := CX.cell (i := 3) rfl
  have x4 := CX.cell (i := 4) rfl
  have x5 := CX.cell (i := 5) rfl
  have qf := ZW.frozen
  go_wp2
  have J := stcR ZW (.int .i64 0) (.int .i64 (slot + 1)) (.int .i64 base) (.slice P0 n0 p0) (.int .i64 next) (.slice P1 n1 p1) (.slice P2 n2 p2) (.slice P3 n3 p3) (.int .i64 bad) (.int .i64 1) (.int .i64 (base + (k : Int))) (.int .i64 next) (.int .i64 (maskE next hs : Int)) (.bool y.f1) (.slice P4 y.f0.length p4) (.slice none 0 0)
  have r0 := J.cell (i := 0) rfl
  have r1 := J.cell (i := 1) rfl
  have r2 := J.cell (i := 2) rfl
  have r3 := J.cell (i := 3) rfl
  have r4 := J.cell (i := 4) rfl
  have r5 := J.cell (i := 5) rfl
  have r6 := J.cell (i := 6) rfl
  have r7 := J.cell (i := 7) rfl
  have r8 := J.cell (i := 8) rfl
  have r9 := J.cell (i := 9) rfl
  have r10 := J.cell (i := 10) rfl
  have r11 := J.cell (i := 11) rfl
  have r12 := J.cell (i := 12) rfl
  have r13 := J.cell (i := 13) rfl
  have r14 := J.cell (i := 14) rfl
  have r15 := J.cell (i := 15) rfl
  refine bodyPost_ret (v := .agg #[.int .i64 0, .int .i64 (slot + 1), .int .i64 base, .slice P0 n0 p0, .int .i64 next, .slice P1 n1 p1, .slice P2 n2 p2, .slice P3 n3 p3, .int .i64 bad, .int .i64 1, .int .i64 (base + (k : Int)), .int .i64 next, .int .i64 (maskE next hs : Int), .bool y.f1, .slice P4 y.f0.length p4, .slice none 0 0]) (by simp [results, Try.results73, go_sem, r0, r1, r2, r3, r4, r5, r6, r7, r8, r9, r10, r11, r12, r13, r14, r15]) rfl ?_
  have TF := tuR (w4.alloc (.cells #[.int .i64 1, .int .i64 (base + (k : Int)), .int .i64 next, .int .i64 (maskE next hs : Int), .bool y.f1, .slice P4 y.f0.length p4] 67)) (w.heap.size + 1) (.int .i64 0) (.int .i64 (slot + 1)) (.int .i64 base) (.slice P0 n0 p0) (.int .i64 next) (.slice P1 n1 p1) (.slice P2 n2 p2) (.slice P3 n3 p3) (.int .i64 bad) (.int .i64 1) (.int .i64 (base + (k : Int))) (.int .i64 next) (.int .i64 (maskE next hs : Int)) (.bool y.f1) (.slice P4 y.f0.length p4) (.slice none 0 0)
  have RF := OK.tu (OK.below RY BC) TF (fun b hb e => by have h3 : b = w.heap.size + 1 := e; have h4 := hb.1; omega)
  refine ⟨⟨P0, p0, P1, p1, P2, p2, P3, p3, P4, p4, rfl, ?_⟩, (ac B4 BC).trans (TF.below (by have := B4.size; simp; omega) (fun b e => by omega))⟩
  exact OK.widen RF (by omega) (by simp only [World.size_setCell, World.size_alloc]; omega)
end Go.Proofs.Ytgmbofoneeagiaa
