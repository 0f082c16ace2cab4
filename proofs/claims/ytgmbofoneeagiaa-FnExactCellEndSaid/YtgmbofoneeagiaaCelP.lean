/- An end's next cell: CellEnd of the program, where a cell goes out. -/
import Derived.Test.YtgmbofoneeagiaaCelF
import Derived.Test.YtgmbofoneeagiaaChnP
import Derived.Test.YtgmbofoneeagiaaCpyP
import Derived.Test.YtgmbofoneeagiaaNxtZ
import Derived.Test.YtgmbofoneeagiaaAckC
import Derived.BigRegion
namespace Go.Proofs.Ytgmbofoneeagiaa
open Go.RowKit

set_option linter.unusedVariables false in
set_option maxRecDepth 100000 in
set_option maxHeartbeats 8000000 in
theorem implCellEndNone_any (slot base next bad : Int) (A0 : Option Addr) (n0 c0 : Nat) (els : List PartD) (A1 : Option Addr) (n1 c1 : Nat) (hs : List HeldD) (A2 : Option Addr) (n2 c2 : Nat) (l : List Int) (A3 : Option Addr) (n3 c3 : Nat) (got : List (List Int)) (w : World)
    (h0 : Lst PartD.cels 4 w A0 n0 els) (h1 : Lst HeldD.cels 3 w A1 n1 hs) (h2 : Bs w A2 n2 l) (hz2 : A2 = none → c2 = 0) (h3 : Lst bytC 1 w A3 n3 got) (hn0 : n0 ≤ 1048576) (hn1 : n1 ≤ 1048576) (hb1 : ∀ e ∈ hs, e.f1.length ≤ 1048576) (hn2 : n2 ≤ 1048576) (hn3 : n3 ≤ 1048576) (hb3 : ∀ e ∈ got, e.length ≤ 1048576) (hz : endF slot base els next hs n2 got bad = 0) (hs1 : slot ≤ 400) (hch : choose slot 0 (-1) els < 0) :
    Calls Try.prog 75 #[.agg #[.int .i64 slot, .int .i64 base, .slice A0 n0 c0, .int .i64 next, .slice A1 n1 c1, .slice A2 n2 c2, .slice A3 n3 c3, .int .i64 bad]] w fun x w' => (∃ P0 p0 P1 p1 P2 p2 P3 p3, x = .returned (.agg #[.int .i64 0, .int .i64 (slot + 1), .int .i64 base, .slice P0 n0 p0, .int .i64 next, .slice P1 n1 p1, .slice P2 n2 p2, .slice P3 n3 p3, .int .i64 bad, .int .i64 0, .int .i64 0, .int .i64 next, .int .i64 (maskE next hs : Int), .bool false, .slice none 0 0, .slice none 0 0]) ∧ EndB P0 n0 els P1 n1 hs P2 n2 l P3 n3 got w' (rng w.heap.size w'.heap.size)) ∧ Below w.heap.size w w' := by
  have hef := fun W L M N => implEndFault_any slot base next bad A0 n0 c0 els A1 n1 c1 hs A2 n2 c2 A3 n3 c3 got W L M N hn0 hn1 hn2 hn3 hb3
  obtain ⟨⟨hs0, _, _, _⟩, hsen, hrec, hgot⟩ := endF_zero hz
  have hse := (senF_zero hsen).2.2.2
  have hb0 : ∀ e ∈ els, e.f0.length ≤ 1048576 := fun e he => by have := (hse e he).1; omega
  have Hl3 := Shut.mk h3.len
  have hsB : slotB slot = true := by unfold slotB; simp; omega
  have hsl := fun W => isSlot_any slot W
  rw [hsB] at hsl
  have hnx := fun W L => implNextNone_any base slot A0 n0 c0 els W L hsen hsB hn0 hch
  have hak := fun W L => implAckOf_any next A1 n1 c1 hs A2 n2 c2 W L hn1 hn2
  have hcp := fun W L M N O => endCopied_any slot base next bad A0 n0 c0 els A1 n1 c1 hs A2 n2 c2 l A3 n3 c3 got W L M N hz2 O hn0 hb0 hn1 hb1 hn2 hn3 hb3
  have e1 : ackA next hs n2 = next := by unfold ackA; rw [if_pos hrec]
  have e2 : ackM next hs n2 = (maskE next hs : Int) := by unfold ackM; rw [if_pos hrec]
  rw [hrec, e1, e2] at hak
  rw [hz] at hef
  clear hz hsen hrec hgot hse hch hb0 e1 e2 hsB
  have S0 := (Stc.new w 119 [.int .i64 slot, .int .i64 base, .slice A0 n0 c0, .int .i64 next, .slice A1 n1 c1, .slice A2 n2 c2, .slice A3 n3 c3, .int .i64 bad] _ rfl).alloc (.cells #[.int .i64 0, .int .i64 0, .int .i64 0, .slice none 0 0, .int .i64 0, .slice none 0 0, .slice none 0 0, .slice none 0 0, .int .i64 0, .int .i64 0, .int .i64 0, .int .i64 0, .int .i64 0, .bool false, .slice none 0 0, .slice none 0 0] 121)
  have Z0_ := (Stc.new (w.alloc (.cells #[.int .i64 slot, .int .i64 base, .slice A0 n0 c0, .int .i64 next, .slice A1 n1 c1, .slice A2 n2 c2, .slice A3 n3 c3, .int .i64 bad] 119)) 121 [.int .i64 0, .int .i64 0, .int .i64 0, .slice none 0 0, .int .i64 0, .slice none 0 0, .slice none 0 0, .slice none 0 0, .int .i64 0, .int .i64 0, .int .i64 0, .int .i64 0, .int .i64 0, .bool false, .slice none 0 0, .slice none 0 0] _ rfl)
  have B0 := ab (ab (Below.refl _ w) (.cells #[.int .i64 slot, .int .i64 base, .slice A0 n0 c0, .int .i64 next, .slice A1 n1 c1, .slice A2 n2 c2, .slice A3 n3 c3, .int .i64 bad] 119)) (.cells #[.int .i64 0, .int .i64 0, .int .i64 0, .slice none 0 0, .int .i64 0, .slice none 0 0, .slice none 0 0, .slice none 0 0, .int .i64 0, .int .i64 0, .int .i64 0, .int .i64 0, .int .i64 0, .bool false, .slice none 0 0, .slice none 0 0] 121)
  simp only [World.size_alloc] at Z0_
  have s0 := S0.cell (i := 0) rfl
  have s1 := S0.cell (i := 1) rfl
  have s2 := S0.cell (i := 2) rfl
  have s3 := S0.cell (i := 3) rfl
  have s4 := S0.cell (i := 4) rfl
  have s5 := S0.cell (i := 5) rfl
  have s6 := S0.cell (i := 6) rfl
  have s7 := S0.cell (i := 7) rfl
  go_enter Try.func75, Try.ntmps75
  go_wp2_with fail
  refine (hef _ (h0.below B0) (h1.below B0) (h3.below B0)).mono ?_
  rintro x w1 ⟨rfl, b1⟩
  have z1 := b1.size
  simp only [World.size_alloc] at z1
  replace S0 := S0.below b1 S0.lt
  have ZZ := Z0_.below b1 Z0_.lt
  have B1 := ac B0 b1
  clear s0 s1 s2 s3 s4 s5 s6 s7 hef Z0_ b1 B0
  have s0 := S0.cell (i := 0) rfl
  have s1 := S0.cell (i := 1) rfl
  have s2 := S0.cell (i := 2) rfl
  go_wp2_with fail
  refine (hsl _).mono ?_
  rintro x w2_ ⟨rfl, rfl⟩
  go_wp2_with fail
  refine (hnx _ (h0.below B1)).mono ?_
  rintro x w2 ⟨⟨P0, p0, rfl, R0⟩, b2⟩
  have z2 := b2.size
  replace S0 := S0.below b2 S0.lt
  replace ZZ := ZZ.below b2 ZZ.lt
  have B2 := ac B1 b2
  clear s0 s1 s2 hsl hnx b2 B1
  have NB := Stc.new w2 69 [.int .i64 0, .int .i64 base, .slice P0 n0 p0, .int .i64 0, .int .i64 0, .int .i64 0, .int .i64 0, .bool false, .slice none 0 0] _ rfl
  have BN := ab (Below.refl w2.heap.size w2) (.cells #[.int .i64 0, .int .i64 base, .slice P0 n0 p0, .int .i64 0, .int .i64 0, .int .i64 0, .int .i64 0, .bool false, .slice none 0 0] 69)
  have B3 := ac B2 BN
  replace S0 := S0.below BN S0.lt
  replace ZZ := ZZ.below BN ZZ.lt
  have OK0 := (okP P0 n0 els)
  replace R0 := OK0.below R0 BN
  have s3 := S0.cell (i := 3) rfl
  have s4 := S0.cell (i := 4) rfl
  have s5 := S0.cell (i := 5) rfl
  go_wp2_with fail
  refine (hak _ (h1.below B3)).mono ?_
  rintro x w3 ⟨rfl, b3⟩
  have z3 := b3.size
  simp only [World.size_alloc] at z3
  replace S0 := S0.below b3 S0.lt
  replace ZZ := ZZ.below b3 ZZ.lt
  replace NB := NB.below b3 NB.lt
  replace R0 := OK0.below R0 b3
  have B4 := ac B3 b3
  clear s3 s4 s5 hak b3 B3
  have AB := Stc.new w3 88 [.int .i64 0, .int .i64 next, .int .i64 (maskE next hs : Int)] _ rfl
  have BA := ab (Below.refl w3.heap.size w3) (.cells #[.int .i64 0, .int .i64 next, .int .i64 (maskE next hs : Int)] 88)
  replace S0 := S0.below BA S0.lt
  replace ZZ := ZZ.below BA ZZ.lt
  replace NB := NB.below BA NB.lt
  replace R0 := OK0.below R0 BA
  have B5 := ac B4 BA
  have n3_ := NB.cell (i := 3) rfl
  have n4_ := NB.cell (i := 4) rfl
  have n5_ := NB.cell (i := 5) rfl
  have n6_ := NB.cell (i := 6) rfl
  have n7_ := NB.cell (i := 7) rfl
  have n8_ := NB.cell (i := 8) rfl
  go_wp2_with fail
  refine (sayings_none 0 0 0 false none 0 0 _).mono ?_
  rintro x w4 ⟨rfl, b4⟩
  have z4 := b4.size
  simp only [World.size_alloc] at z4
  replace S0 := S0.below b4 S0.lt
  replace ZZ := ZZ.below b4 ZZ.lt
  replace NB := NB.below b4 NB.lt
  replace AB := AB.below b4 AB.lt
  replace R0 := OK0.below R0 b4
  have B6 := ac B5 b4
  go_wp2_with fail
  refine (chosen_none _).mono ?_
  rintro x w5 ⟨rfl, b5⟩
  have z5 := b5.size
  replace S0 := S0.below b5 S0.lt
  replace ZZ := ZZ.below b5 ZZ.lt
  replace NB := NB.below b5 NB.lt
  replace AB := AB.below b5 AB.lt
  replace R0 := OK0.below R0 b5
  have B7 := ac B6 b5
  clear n3_ n4_ n5_ n6_ n7_ n8_ b4 b5 B5 B6 B4
  have CB := Stc.new w5 67 [.int .i64 0, .int .i64 0, .int .i64 0, .int .i64 0, .bool false, .slice none 0 0] _ rfl
  have BC := ab (Below.refl w5.heap.size w5) (.cells #[.int .i64 0, .int .i64 0, .int .i64 0, .int .i64 0, .bool false, .slice none 0 0] 67)
  replace S0 := S0.below BC S0.lt
  replace ZZ := ZZ.below BC ZZ.lt
  replace NB := NB.below BC NB.lt
  replace AB := AB.below BC AB.lt
  replace R0 := OK0.below R0 BC
  have B8 := ac B7 BC
  have a1 := AB.cell (i := 1) rfl
  have a2 := AB.cell (i := 2) rfl
  have c0_ := CB.cell (i := 0) rfl
  have c1_ := CB.cell (i := 1) rfl
  have c2_ := CB.cell (i := 2) rfl
  have c3_ := CB.cell (i := 3) rfl
  have c4_ := CB.cell (i := 4) rfl
  have c5_ := CB.cell (i := 5) rfl
  have cf := CB.frozen
  go_upto_region 9 with fail
  generalize hW : w5.alloc (.cells #[.int .i64 0, .int .i64 0, .int .i64 0, .int .i64 0, .bool false, .slice none 0 0] 67) = W at *
  have zW : w5.heap.size + 1 ≤ W.heap.size := by rw [← hW]; simp
  clear hW
  have T9 : Tu (fun b => b = w5.heap.size) W ((W.setCell ⟨w5.heap.size, 2, none⟩ (.int .i64 next)).setCell ⟨w5.heap.size, 3, none⟩ (.int .i64 (maskE next hs : Int))).drew := (((Tu.refl (fun b => b = w5.heap.size) W).set_ (p := ⟨w5.heap.size, 2, none⟩) rfl _).set_ (p := ⟨w5.heap.size, 3, none⟩) rfl _).drew
  have CB2 : Stc ((W.setCell ⟨w5.heap.size, 2, none⟩ (.int .i64 next)).setCell ⟨w5.heap.size, 3, none⟩ (.int .i64 (maskE next hs : Int))).drew w5.heap.size [.int .i64 0, .int .i64 0, .int .i64 next, .int .i64 (maskE next hs : Int), .bool false, .slice none 0 0] 67 := (CB.set_ (i := 2) (.int .i64 next)).set_ (i := 3) (.int .i64 (maskE next hs : Int))
  go_region
  generalize hW9 : ((W.setCell ⟨w5.heap.size, 2, none⟩ (.int .i64 next)).setCell ⟨w5.heap.size, 3, none⟩ (.int .i64 (maskE next hs : Int))).drew = W9 at *
  clear hW9 a1 a2 c0_ c1_ c2_ c3_ c4_ c5_ cf CB
  have z9 := T9.size
  have q5 : w5.heap.size < W.heap.size := by omega
  replace S0 := S0.tu T9 (by omega)
  replace ZZ := ZZ.tu T9 (by omega)
  replace NB := NB.tu T9 (by omega)
  replace R0 := OK0.tu R0 T9 (fun b hb e => by have h5 := hb.2; omega)
  have B9 := B8.trans (T9.below (by have := B2.size; omega) (fun b e => by have := B2.size; omega))
  have s0 := S0.cell (i := 0) rfl
  have s1 := S0.cell (i := 1) rfl
  have s2 := S0.cell (i := 2) rfl
  have s3 := S0.cell (i := 3) rfl
  have s4 := S0.cell (i := 4) rfl
  have s5 := S0.cell (i := 5) rfl
  have s6 := S0.cell (i := 6) rfl
  have s7 := S0.cell (i := 7) rfl
  clear AB B8 T9 BA BC BN
  go_wp2_with fail
  refine (hcp _ (h0.below B9) (h1.below B9) (h2.below B9) (h3.below B9)).mono ?_
  rintro x w6 ⟨⟨A0', c0', P1, p1, P2, p2, P3, p3, rfl, _, _, _, RE⟩, b6⟩
  have z6 := b6.size
  have REB := RE.toB Hl3.out
  clear s0 s1 s2 s3 s4 s5 s6 s7 RE h0 h1 h2 h3 hcp S0
  replace ZZ := ZZ.below b6 ZZ.lt
  replace NB := NB.below b6 NB.lt
  replace CB2 := CB2.below b6 CB2.lt
  replace R0 := OK0.below R0 b6
  have BB6 := ac B9 b6
  have EX := Stc.new w6 119 [.int .i64 slot, .int .i64 base, .slice A0' n0 c0', .int .i64 next, .slice P1 n1 p1, .slice P2 n2 p2, .slice P3 n3 p3, .int .i64 bad] _ rfl
  have NB7 := NB.alloc (.cells #[.int .i64 slot, .int .i64 base, .slice A0' n0 c0', .int .i64 next, .slice P1 n1 p1, .slice P2 n2 p2, .slice P3 n3 p3, .int .i64 bad] 119)
  have n1_ := NB7.cell (i := 1) rfl
  have n2_ := NB7.cell (i := 2) rfl
  have hsw : IntKind.i64.wrap (slot + 1) = slot + 1 := by rw [IntKind.wrap_i64]; omega
  go_upto_region 13 with fail
  clear n1_ n2_ NB7 NB EX
  have BE := ab (Below.refl w6.heap.size w6) (.cells #[.int .i64 (slot + 1), .int .i64 base, .slice P0 n0 p0, .int .i64 next, .slice P1 n1 p1, .slice P2 n2 p2, .slice P3 n3 p3, .int .i64 bad] 119)
  have ZW := ZZ.alloc (.cells #[.int .i64 (slot + 1), .int .i64 base, .slice P0 n0 p0, .int .i64 next, .slice P1 n1 p1, .slice P2 n2 p2, .slice P3 n3 p3, .int .i64 bad] 119)
  have CX := CB2.alloc (.cells #[.int .i64 (slot + 1), .int .i64 base, .slice P0 n0 p0, .int .i64 next, .slice P1 n1 p1, .slice P2 n2 p2, .slice P3 n3 p3, .int .i64 bad] 119)
  have EZ := Stc.new w6 119 [.int .i64 (slot + 1), .int .i64 base, .slice P0 n0 p0, .int .i64 next, .slice P1 n1 p1, .slice P2 n2 p2, .slice P3 n3 p3, .int .i64 bad] _ rfl
  have q0 := ZW.cell (i := 0) rfl
  have q1 := ZW.cell (i := 1) rfl
  have q2 := ZW.cell (i := 2) rfl
  have q3 := ZW.cell (i := 3) rfl
  have q4 := ZW.cell (i := 4) rfl
  have q5 := ZW.cell (i := 5) rfl
  have q6 := ZW.cell (i := 6) rfl
  have q7 := ZW.cell (i := 7) rfl
  have q8 := ZW.cell (i := 8) rfl
  have q9 := ZW.cell (i := 9) rfl
  have q10 := ZW.cell (i := 10) rfl
  have q11 := ZW.cell (i := 11) rfl
  have q12 := ZW.cell (i := 12) rfl
  have q13 := ZW.cell (i := 13) rfl
  have q14 := ZW.cell (i := 14) rfl
  have q15 := ZW.cell (i := 15) rfl
  have e0 := EZ.cell (i := 0) rfl
  have e1 := EZ.cell (i := 1) rfl
  have e2 := EZ.cell (i := 2) rfl
  have e3 := EZ.cell (i := 3) rfl
  have e4 := EZ.cell (i := 4) rfl
  have e5 := EZ.cell (i := 5) rfl
  have e6 := EZ.cell (i := 6) rfl
  have e7 := EZ.cell (i := 7) rfl
  have x0 := CX.cell (i := 0) rfl
  have x1 := CX.cell (i := 1) rfl
  have x2 := CX.cell (i := 2) rfl
  have x3 := CX.cell (i := 3) rfl
  have x4 := CX.cell (i := 4) rfl
  have x5 := CX.cell (i := 5) rfl
  have qf := ZW.frozen
  have RC := (okEndB _ _ _ _ _ _ _ _ _ _ _ _).below REB BE
  have R1 := OK0.below R0 BE
  clear REB R0 ZZ CB2
  go_wp2
  have J := stcR ZW (.int .i64 0) (.int .i64 (slot + 1)) (.int .i64 base) (.slice P0 n0 p0) (.int .i64 next) (.slice P1 n1 p1) (.slice P2 n2 p2) (.slice P3 n3 p3) (.int .i64 bad) (.int .i64 0) (.int .i64 0) (.int .i64 next) (.int .i64 (maskE next hs : Int)) (.bool false) (.slice none 0 0) (.slice none 0 0)
  have r0 := J.cell (i := 0) rfl
  have r1 := J.cell (i := 1) rfl
  have r2 := J.cell (i := 2) rfl
  have r3 := J.cell (i := 3) rfl
  have r4 := J.cell (i := 4) rfl
  have r5 := J.cell (i := 5) rfl
  have r6 := J.cell (i := 6) rfl
  have r7 := J.cell (i := 7) rfl
  have r8 := J.cell (i := 8) rfl
  have r9 := J.cell (i := 9) rfl
  have r10 := J.cell (i := 10) rfl
  have r11 := J.cell (i := 11) rfl
  have r12 := J.cell (i := 12) rfl
  have r13 := J.cell (i := 13) rfl
  have r14 := J.cell (i := 14) rfl
  have r15 := J.cell (i := 15) rfl
  refine bodyPost_ret (v := .agg #[.int .i64 0, .int .i64 (slot + 1), .int .i64 base, .slice P0 n0 p0, .int .i64 next, .slice P1 n1 p1, .slice P2 n2 p2, .slice P3 n3 p3, .int .i64 bad, .int .i64 0, .int .i64 0, .int .i64 next, .int .i64 (maskE next hs : Int), .bool false, .slice none 0 0, .slice none 0 0]) (by simp [results, Try.results75, go_sem, r0, r1, r2, r3, r4, r5, r6, r7, r8, r9, r10, r11, r12, r13, r14, r15]) rfl ?_
  have TF := tuR (w6.alloc (.cells #[.int .i64 (slot + 1), .int .i64 base, .slice P0 n0 p0, .int .i64 next, .slice P1 n1 p1, .slice P2 n2 p2, .slice P3 n3 p3, .int .i64 bad] 119)) (w.heap.size + 1) (.int .i64 0) (.int .i64 (slot + 1)) (.int .i64 base) (.slice P0 n0 p0) (.int .i64 next) (.slice P1 n1 p1) (.slice P2 n2 p2) (.slice P3 n3 p3) (.int .i64 bad) (.int .i64 0) (.int .i64 0) (.int .i64 next) (.int .i64 (maskE next hs : Int)) (.bool false) (.slice none 0 0) (.slice none 0 0)
  have RS := ((okEndB _ _ _ _ _ _ _ _ _ _ _ _).widen RC (lo' := w2.heap.size) (hi' := w6.heap.size) (by omega) (Nat.le_refl _)).sender R1 (by omega) (by omega)
  have OK := okEndB P0 n0 els P1 n1 hs P2 n2 l P3 n3 got
  have RF := OK.tu RS TF (fun b hb e => by have h3 : b = w.heap.size + 1 := e; have h4 := hb.1; omega)
  refine ⟨⟨P0, p0, P1, p1, P2, p2, P3, p3, rfl, ?_⟩, (ac BB6 BE).trans (TF.below (by have := B9.size; simp; omega) (fun b e => by omega))⟩
  exact OK.widen RF (by omega) (by simp only [World.size_setCell, World.size_alloc]; omega)

set_option linter.unusedVariables false in
set_option maxRecDepth 100000 in
set_option maxHeartbeats 8000000 in
theorem implCellEndSome_any (slot base next bad : Int) (A0 : Option Addr) (n0 c0 : Nat) (els : List PartD) (A1 : Option Addr) (n1 c1 : Nat) (hs : List HeldD) (A2 : Option Addr) (n2 c2 : Nat) (l : List Int) (A3 : Option Addr) (n3 c3 : Nat) (got : List (List Int)) (w : World)
    (h0 : Lst PartD.cels 4 w A0 n0 els) (h1 : Lst HeldD.cels 3 w A1 n1 hs) (h2 : Bs w A2 n2 l) (hz2 : A2 = none → c2 = 0) (h3 : Lst bytC 1 w A3 n3 got) (hn0 : n0 ≤ 1048576) (hn1 : n1 ≤ 1048576) (hb1 : ∀ e ∈ hs, e.f1.length ≤ 1048576) (hn2 : n2 ≤ 1048576) (hn3 : n3 ≤ 1048576) (hb3 : ∀ e ∈ got, e.length ≤ 1048576) (hz : endF slot base els next hs n2 got bad = 0) (hs1 : slot ≤ 400) (k : Nat) (y : PartD) (hy : els[k]? = some y) (hch : choose slot 0 (-1) els = (k : Int)) :
    Calls Try.prog 75 #[.agg #[.int .i64 slot, .int .i64 base, .slice A0 n0 c0, .int .i64 next, .slice A1 n1 c1, .slice A2 n2 c2, .slice A3 n3 c3, .int .i64 bad]] w fun x w' => (∃ P0 p0 P1 p1 P2 p2 P3 p3 P4 p4, x = .returned (.agg #[.int .i64 0, .int .i64 (slot + 1), .int .i64 base, .slice P0 n0 p0, .int .i64 next, .slice P1 n1 p1, .slice P2 n2 p2, .slice P3 n3 p3, .int .i64 bad, .int .i64 1, .int .i64 (base + (k : Int)), .int .i64 next, .int .i64 (maskE next hs : Int), .bool y.f1, .slice P4 y.f0.length p4, .slice none 0 0]) ∧ ResB P0 n0 (els.set k (slotAt slot y)) P1 n1 hs P2 n2 l P3 n3 got P4 y.f0.length y.f0 none 0 [] w' (rng w.heap.size w'.heap.size)) ∧ Below w.heap.size w w' := by
  have hef := fun W L M N => implEndFault_any slot base next bad A0 n0 c0 els A1 n1 c1 hs A2 n2 c2 A3 n3 c3 got W L M N hn0 hn1 hn2 hn3 hb3
  obtain ⟨⟨hs0, _, _, _⟩, hsen, hrec, hgot⟩ := endF_zero hz
  have hse := (senF_zero hsen).2.2.2
  have hb0 : ∀ e ∈ els, e.f0.length ≤ 1048576 := fun e he => by have := (hse e he).1; omega
  have Hl3 := Shut.mk h3.len
  have hsB : slotB slot = true := by unfold slotB; simp; omega
  have hsl := fun W => isSlot_any slot W
  rw [hsB] at hsl
  have hnx := fun W L => implNextSome_any base slot A0 n0 c0 els W L hsen hsB hn0 k y hy hch
  have hak := fun W L => implAckOf_any next A1 n1 c1 hs A2 n2 c2 W L hn1 hn2
  have hcp := fun W L M N O => endCopied_any slot base next bad A0 n0 c0 els A1 n1 c1 hs A2 n2 c2 l A3 n3 c3 got W L M N hz2 O hn0 hb0 hn1 hb1 hn2 hn3 hb3
  have e1 : ackA next hs n2 = next := by unfold ackA; rw [if_pos hrec]
  have e2 : ackM next hs n2 = (maskE next hs : Int) := by unfold ackM; rw [if_pos hrec]
  rw [hrec, e1, e2] at hak
  rw [hz] at hef
  clear hz hsen hrec hgot hse hch hb0 e1 e2 hsB
  have S0 := (Stc.new w 119 [.int .i64 slot, .int .i64 base, .slice A0 n0 c0, .int .i64 next, .slice A1 n1 c1, .slice A2 n2 c2, .slice A3 n3 c3, .int .i64 bad] _ rfl).alloc (.cells #[.int .i64 0, .int .i64 0, .int .i64 0, .slice none 0 0, .int .i64 0, .slice none 0 0, .slice none 0 0, .slice none 0 0, .int .i64 0, .int .i64 0, .int .i64 0, .int .i64 0, .int .i64 0, .bool false, .slice none 0 0, .slice none 0 0] 121)
  have Z0_ := (Stc.new (w.alloc (.cells #[.int .i64 slot, .int .i64 base, .slice A0 n0 c0, .int .i64 next, .slice A1 n1 c1, .slice A2 n2 c2, .slice A3 n3 c3, .int .i64 bad] 119)) 121 [.int .i64 0, .int .i64 0, .int .i64 0, .slice none 0 0, .int .i64 0, .slice none 0 0, .slice none 0 0, .slice none 0 0, .int .i64 0, .int .i64 0, .int .i64 0, .int .i64 0, .int .i64 0, .bool false, .slice none 0 0, .slice none 0 0] _ rfl)
  have B0 := ab (ab (Below.refl _ w) (.cells #[.int .i64 slot, .int .i64 base, .slice A0 n0 c0, .int .i64 next, .slice A1 n1 c1, .slice A2 n2 c2, .slice A3 n3 c3, .int .i64 bad] 119)) (.cells #[.int .i64 0, .int .i64 0, .int .i64 0, .slice none 0 0, .int .i64 0, .slice none 0 0, .slice none 0 0, .slice none 0 0, .int .i64 0, .int .i64 0, .int .i64 0, .int .i64 0, .int .i64 0, .bool false, .slice none 0 0, .slice none 0 0] 121)
  simp only [World.size_alloc] at Z0_
  have s0 := S0.cell (i := 0) rfl
  have s1 := S0.cell (i := 1) rfl
  have s2 := S0.cell (i := 2) rfl
  have s3 := S0.cell (i := 3) rfl
  have s4 := S0.cell (i := 4) rfl
  have s5 := S0.cell (i := 5) rfl
  have s6 := S0.cell (i := 6) rfl
  have s7 := S0.cell (i := 7) rfl
  go_enter Try.func75, Try.ntmps75
  go_wp2_with fail
  refine (hef _ (h0.below B0) (h1.below B0) (h3.below B0)).mono ?_
  rintro x w1 ⟨rfl, b1⟩
  have z1 := b1.size
  simp only [World.size_alloc] at z1
  replace S0 := S0.below b1 S0.lt
  have ZZ := Z0_.below b1 Z0_.lt
  have B1 := ac B0 b1
  clear s0 s1 s2 s3 s4 s5 s6 s7 hef Z0_ b1 B0
  have s0 := S0.cell (i := 0) rfl
  have s1 := S0.cell (i := 1) rfl
  have s2 := S0.cell (i := 2) rfl
  go_wp2_with fail
  refine (hsl _).mono ?_
  rintro x w2_ ⟨rfl, rfl⟩
  go_wp2_with fail
  refine (hnx _ (h0.below B1)).mono ?_
  rintro x w2 ⟨⟨P0, p0, P4, p4, rfl, R0⟩, b2⟩
  have z2 := b2.size
  replace S0 := S0.below b2 S0.lt
  replace ZZ := ZZ.below b2 ZZ.lt
  have B2 := ac B1 b2
  clear s0 s1 s2 hsl hnx b2 B1
  have NB := Stc.new w2 69 [.int .i64 0, .int .i64 base, .slice P0 n0 p0, .int .i64 1, .int .i64 (base + (k : Int)), .int .i64 0, .int .i64 0, .bool y.f1, .slice P4 y.f0.length p4] _ rfl
  have BN := ab (Below.refl w2.heap.size w2) (.cells #[.int .i64 0, .int .i64 base, .slice P0 n0 p0, .int .i64 1, .int .i64 (base + (k : Int)), .int .i64 0, .int .i64 0, .bool y.f1, .slice P4 y.f0.length p4] 69)
  have B3 := ac B2 BN
  replace S0 := S0.below BN S0.lt
  replace ZZ := ZZ.below BN ZZ.lt
  have OK0 := ((okP P0 n0 (els.set k (slotAt slot y))).sep (okR P4 y.f0.length y.f0))
  replace R0 := OK0.below R0 BN
  have s3 := S0.cell (i := 3) rfl
  have s4 := S0.cell (i := 4) rfl
  have s5 := S0.cell (i := 5) rfl
  go_wp2_with fail
  refine (hak _ (h1.below B3)).mono ?_
  rintro x w3 ⟨rfl, b3⟩
  have z3 := b3.size
  simp only [World.size_alloc] at z3
  replace S0 := S0.below b3 S0.lt
  replace ZZ := ZZ.below b3 ZZ.lt
  replace NB := NB.below b3 NB.lt
  replace R0 := OK0.below R0 b3
  have B4 := ac B3 b3
  clear s3 s4 s5 hak b3 B3
  have AB := Stc.new w3 88 [.int .i64 0, .int .i64 next, .int .i64 (maskE next hs : Int)] _ rfl
  have BA := ab (Below.refl w3.heap.size w3) (.cells #[.int .i64 0, .int .i64 next, .int .i64 (maskE next hs : Int)] 88)
  replace S0 := S0.below BA S0.lt
  replace ZZ := ZZ.below BA ZZ.lt
  replace NB := NB.below BA NB.lt
  replace R0 := OK0.below R0 BA
  have B5 := ac B4 BA
  have n3_ := NB.cell (i := 3) rfl
  have n4_ := NB.cell (i := 4) rfl
  have n5_ := NB.cell (i := 5) rfl
  have n6_ := NB.cell (i := 6) rfl
  have n7_ := NB.cell (i := 7) rfl
  have n8_ := NB.cell (i := 8) rfl
  go_wp2_with fail
  refine (sayings_some 1 (base + (k : Int)) 0 0 y.f1 P4 y.f0.length p4 _ (by omega)).mono ?_
  rintro x w4 ⟨⟨q, hq, rfl, hch⟩, b4⟩
  have z4 := b4.size
  simp only [World.size_alloc] at z4 hq
  replace S0 := S0.below b4 S0.lt
  replace ZZ := ZZ.below b4 ZZ.lt
  replace NB := NB.below b4 NB.lt
  replace AB := AB.below b4 AB.lt
  replace R0 := OK0.below R0 b4
  have B6 := ac B5 b4
  go_wp2_with fail
  refine (chosen_some q 1 (base + (k : Int)) 0 0 y.f1 P4 y.f0.length p4 _ hch).mono ?_
  rintro x w5 ⟨rfl, b5⟩
  have z5 := b5.size
  replace S0 := S0.below b5 (by omega)
  replace ZZ := ZZ.below b5 (by omega)
  replace NB := NB.below b5 (by omega)
  replace AB := AB.below b5 (by omega)
  replace R0 := OK0.keep R0 b5.size (fun b hb _ => b5.block b (by have h5 := hb.2; omega))
  have B7 := B6.trans (b5.mono (by have := B2.size; omega))
  clear n3_ n4_ n5_ n6_ n7_ n8_ b4 b5 B5 B6 B4
  have CB := Stc.new w5 67 [.int .i64 1, .int .i64 (base + (k : Int)), .int .i64 0, .int .i64 0, .bool y.f1, .slice P4 y.f0.length p4] _ rfl
  have BC := ab (Below.refl w5.heap.size w5) (.cells #[.int .i64 1, .int .i64 (base + (k : Int)), .int .i64 0, .int .i64 0, .bool y.f1, .slice P4 y.f0.length p4] 67)
  replace S0 := S0.below BC S0.lt
  replace ZZ := ZZ.below BC ZZ.lt
  replace NB := NB.below BC NB.lt
  replace AB := AB.below BC AB.lt
  replace R0 := OK0.below R0 BC
  have B8 := ac B7 BC
  have a1 := AB.cell (i := 1) rfl
  have a2 := AB.cell (i := 2) rfl
  have c0_ := CB.cell (i := 0) rfl
  have c1_ := CB.cell (i := 1) rfl
  have c2_ := CB.cell (i := 2) rfl
  have c3_ := CB.cell (i := 3) rfl
  have c4_ := CB.cell (i := 4) rfl
  have c5_ := CB.cell (i := 5) rfl
  have cf := CB.frozen
  go_upto_region 9 with fail
  generalize hW : w5.alloc (.cells #[.int .i64 1, .int .i64 (base + (k : Int)), .int .i64 0, .int .i64 0, .bool y.f1, .slice P4 y.f0.length p4] 67) = W at *
  have zW : w5.heap.size + 1 ≤ W.heap.size := by rw [← hW]; simp
  clear hW
  have T9 : Tu (fun b => b = w5.heap.size) W ((W.setCell ⟨w5.heap.size, 2, none⟩ (.int .i64 next)).setCell ⟨w5.heap.size, 3, none⟩ (.int .i64 (maskE next hs : Int))).drew := (((Tu.refl (fun b => b = w5.heap.size) W).set_ (p := ⟨w5.heap.size, 2, none⟩) rfl _).set_ (p := ⟨w5.heap.size, 3, none⟩) rfl _).drew
  have CB2 : Stc ((W.setCell ⟨w5.heap.size, 2, none⟩ (.int .i64 next)).setCell ⟨w5.heap.size, 3, none⟩ (.int .i64 (maskE next hs : Int))).drew w5.heap.size [.int .i64 1, .int .i64 (base + (k : Int)), .int .i64 next, .int .i64 (maskE next hs : Int), .bool y.f1, .slice P4 y.f0.length p4] 67 := (CB.set_ (i := 2) (.int .i64 next)).set_ (i := 3) (.int .i64 (maskE next hs : Int))
  go_region
  generalize hW9 : ((W.setCell ⟨w5.heap.size, 2, none⟩ (.int .i64 next)).setCell ⟨w5.heap.size, 3, none⟩ (.int .i64 (maskE next hs : Int))).drew = W9 at *
  clear hW9 a1 a2 c0_ c1_ c2_ c3_ c4_ c5_ cf CB
  have z9 := T9.size
  have q5 : w5.heap.size < W.heap.size := by omega
  replace S0 := S0.tu T9 (by omega)
  replace ZZ := ZZ.tu T9 (by omega)
  replace NB := NB.tu T9 (by omega)
  replace R0 := OK0.tu R0 T9 (fun b hb e => by have h5 := hb.2; omega)
  have B9 := B8.trans (T9.below (by have := B2.size; omega) (fun b e => by have := B2.size; omega))
  have s0 := S0.cell (i := 0) rfl
  have s1 := S0.cell (i := 1) rfl
  have s2 := S0.cell (i := 2) rfl
  have s3 := S0.cell (i := 3) rfl
  have s4 := S0.cell (i := 4) rfl
  have s5 := S0.cell (i := 5) rfl
  have s6 := S0.cell (i := 6) rfl
  have s7 := S0.cell (i := 7) rfl
  clear AB B8 T9 BA BC BN
  go_wp2_with fail
  refine (hcp _ (h0.below B9) (h1.below B9) (h2.below B9) (h3.below B9)).mono ?_
  rintro x w6 ⟨⟨A0', c0', P1, p1, P2, p2, P3, p3, rfl, _, _, _, RE⟩, b6⟩
  have z6 := b6.size
  have REB := RE.toB Hl3.out
  clear s0 s1 s2 s3 s4 s5 s6 s7 RE h0 h1 h2 h3 hcp S0
  replace ZZ := ZZ.below b6 ZZ.lt
  replace NB := NB.below b6 NB.lt
  replace CB2 := CB2.below b6 CB2.lt
  replace R0 := OK0.below R0 b6
  have BB6 := ac B9 b6
  have EX := Stc.new w6 119 [.int .i64 slot, .int .i64 base, .slice A0' n0 c0', .int .i64 next, .slice P1 n1 p1, .slice P2 n2 p2, .slice P3 n3 p3, .int .i64 bad] _ rfl
  have NB7 := NB.alloc (.cells #[.int .i64 slot, .int .i64 base, .slice A0' n0 c0', .int .i64 next, .slice P1 n1 p1, .slice P2 n2 p2, .slice P3 n3 p3, .int .i64 bad] 119)
  have n1_ := NB7.cell (i := 1) rfl
  have n2_ := NB7.cell (i := 2) rfl
  have hsw : IntKind.i64.wrap (slot + 1) = slot + 1 := by rw [IntKind.wrap_i64]; omega
  go_upto_region 13 with fail
  clear n1_ n2_ NB7 NB EX
  have BE := ab (Below.refl w6.heap.size w6) (.cells #[.int .i64 (slot + 1), .int .i64 base, .slice P0 n0 p0, .int .i64 next, .slice P1 n1 p1, .slice P2 n2 p2, .slice P3 n3 p3, .int .i64 bad] 119)
  have ZW := ZZ.alloc (.cells #[.int .i64 (slot + 1), .int .i64 base, .slice P0 n0 p0, .int .i64 next, .slice P1 n1 p1, .slice P2 n2 p2, .slice P3 n3 p3, .int .i64 bad] 119)
  have CX := CB2.alloc (.cells #[.int .i64 (slot + 1), .int .i64 base, .slice P0 n0 p0, .int .i64 next, .slice P1 n1 p1, .slice P2 n2 p2, .slice P3 n3 p3, .int .i64 bad] 119)
  have EZ := Stc.new w6 119 [.int .i64 (slot + 1), .int .i64 base, .slice P0 n0 p0, .int .i64 next, .slice P1 n1 p1, .slice P2 n2 p2, .slice P3 n3 p3, .int .i64 bad] _ rfl
  have q0 := ZW.cell (i := 0) rfl
  have q1 := ZW.cell (i := 1) rfl
  have q2 := ZW.cell (i := 2) rfl
  have q3 := ZW.cell (i := 3) rfl
  have q4 := ZW.cell (i := 4) rfl
  have q5 := ZW.cell (i := 5) rfl
  have q6 := ZW.cell (i := 6) rfl
  have q7 := ZW.cell (i := 7) rfl
  have q8 := ZW.cell (i := 8) rfl
  have q9 := ZW.cell (i := 9) rfl
  have q10 := ZW.cell (i := 10) rfl
  have q11 := ZW.cell (i := 11) rfl
  have q12 := ZW.cell (i := 12) rfl
  have q13 := ZW.cell (i := 13) rfl
  have q14 := ZW.cell (i := 14) rfl
  have q15 := ZW.cell (i := 15) rfl
  have e0 := EZ.cell (i := 0) rfl
  have e1 := EZ.cell (i := 1) rfl
  have e2 := EZ.cell (i := 2) rfl
  have e3 := EZ.cell (i := 3) rfl
  have e4 := EZ.cell (i := 4) rfl
  have e5 := EZ.cell (i := 5) rfl
  have e6 := EZ.cell (i := 6) rfl
  have e7 := EZ.cell (i := 7) rfl
  have x0 := CX.cell (i := 0) rfl
  have x1 := CX.cell (i := 1) rfl
  have x2 := CX.cell (i := 2) rfl
  have x3 := CX.cell (i := 3) rfl
  have x4 := CX.cell (i := 4) rfl
  have x5 := CX.cell (i := 5) rfl
  have qf := ZW.frozen
  have RC := (okEndB _ _ _ _ _ _ _ _ _ _ _ _).below REB BE
  have R1 := OK0.below R0 BE
  clear REB R0 ZZ CB2
  go_wp2
  have J := stcR ZW (.int .i64 0) (.int .i64 (slot + 1)) (.int .i64 base) (.slice P0 n0 p0) (.int .i64 next) (.slice P1 n1 p1) (.slice P2 n2 p2) (.slice P3 n3 p3) (.int .i64 bad) (.int .i64 1) (.int .i64 (base + (k : Int))) (.int .i64 next) (.int .i64 (maskE next hs : Int)) (.bool y.f1) (.slice P4 y.f0.length p4) (.slice none 0 0)
  have r0 := J.cell (i := 0) rfl
  have r1 := J.cell (i := 1) rfl
  have r2 := J.cell (i := 2) rfl
  have r3 := J.cell (i := 3) rfl
  have r4 := J.cell (i := 4) rfl
  have r5 := J.cell (i := 5) rfl
  have r6 := J.cell (i := 6) rfl
  have r7 := J.cell (i := 7) rfl
  have r8 := J.cell (i := 8) rfl
  have r9 := J.cell (i := 9) rfl
  have r10 := J.cell (i := 10) rfl
  have r11 := J.cell (i := 11) rfl
  have r12 := J.cell (i := 12) rfl
  have r13 := J.cell (i := 13) rfl
  have r14 := J.cell (i := 14) rfl
  have r15 := J.cell (i := 15) rfl
  refine bodyPost_ret (v := .agg #[.int .i64 0, .int .i64 (slot + 1), .int .i64 base, .slice P0 n0 p0, .int .i64 next, .slice P1 n1 p1, .slice P2 n2 p2, .slice P3 n3 p3, .int .i64 bad, .int .i64 1, .int .i64 (base + (k : Int)), .int .i64 next, .int .i64 (maskE next hs : Int), .bool y.f1, .slice P4 y.f0.length p4, .slice none 0 0]) (by simp [results, Try.results75, go_sem, r0, r1, r2, r3, r4, r5, r6, r7, r8, r9, r10, r11, r12, r13, r14, r15]) rfl ?_
  have TF := tuR (w6.alloc (.cells #[.int .i64 (slot + 1), .int .i64 base, .slice P0 n0 p0, .int .i64 next, .slice P1 n1 p1, .slice P2 n2 p2, .slice P3 n3 p3, .int .i64 bad] 119)) (w.heap.size + 1) (.int .i64 0) (.int .i64 (slot + 1)) (.int .i64 base) (.slice P0 n0 p0) (.int .i64 next) (.slice P1 n1 p1) (.slice P2 n2 p2) (.slice P3 n3 p3) (.int .i64 bad) (.int .i64 1) (.int .i64 (base + (k : Int))) (.int .i64 next) (.int .i64 (maskE next hs : Int)) (.bool y.f1) (.slice P4 y.f0.length p4) (.slice none 0 0)
  have OK := okResB P0 n0 (els.set k (slotAt slot y)) P1 n1 hs P2 n2 l P3 n3 got P4 y.f0.length y.f0 none 0 []
  obtain ⟨G, H, i, j, d, a, Rb⟩ := R1
  obtain ⟨G2, H2, i2, j2, d2, a2, R2⟩ := RC
  have gl : ∀ q, G q → w1.heap.size ≤ q ∧ q < w2.heap.size := fun q hq => i q hq
  have hl : ∀ q, H q → w1.heap.size ≤ q ∧ q < w2.heap.size := fun q hq => j q hq
  have hl2 : ∀ q, H2 q → W9.heap.size ≤ q ∧ q < w6.heap.size := fun q hq => j2 q hq
  have RS : ResB P0 n0 (els.set k (slotAt slot y)) P1 n1 hs P2 n2 l P3 n3 got P4 y.f0.length y.f0 none 0 [] _ (rng w1.heap.size w6.heap.size) :=
    ⟨fun q => G q ∨ H2 q, H, fun q hq => hq.elim (fun h => by have := gl q h; unfold rng; omega) (fun h => by have := hl2 q h; unfold rng; omega), fun q hq => by have := hl q hq; unfold rng; omega, fun q hq hh => hq.elim (fun h => d q h hh) (fun h => by have := hl2 q h; have := hl q hh; omega),
      ⟨G, H2, fun q h => .inl h, fun q h => .inr h, fun q h h' => by have := gl q h; have := hl2 q h'; omega, a, R2⟩, H, fun _ => False, fun q hq => hq, fun q hq => hq.elim, fun q _ hq => hq, Rb, none_RF _ _ _⟩
  have RF := OK.tu RS TF (fun b hb e => by have h3 : b = w.heap.size + 1 := e; have h4 := hb.1; omega)
  refine ⟨⟨P0, p0, P1, p1, P2, p2, P3, p3, P4, p4, rfl, ?_⟩, (ac BB6 BE).trans (TF.below (by have := B9.size; simp; omega) (fun b e => by omega))⟩
  exact OK.widen RF (by omega) (by simp only [World.size_setCell, World.size_alloc]; omega)

end Go.Proofs.Ytgmbofoneeagiaa
