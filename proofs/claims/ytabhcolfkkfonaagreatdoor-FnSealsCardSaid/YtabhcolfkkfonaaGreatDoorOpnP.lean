/- OpenCell of the program. -/
import Derived.Test.YtabhcolfkkfonaaGreatDoorOpnS
import Derived.Test.YtabhcolfkkfonaaGreatDoorOpxP
namespace Go.Proofs.YtabhcolfkkfonaaGreatDoor
set_option linter.unusedVariables false
open Go.RowKit

theorem Ow.zero (w : World) (B : Nat) (A : Option Addr) : Ow w B A 0 [] := ⟨rfl, By.nil, fun h => absurd h (by omega)⟩

theorem open_ans {key wire : List Int} {s : Int} (hl : wire.length = 64) : openCode (askCode 32 0 12 (maxN 4 60 : Int)) key (nonceL s) (wire.take 4) (opBox wire) = (if opTag key wire s then 0 else 6) ∧ openL key (nonceL s) (opBox wire) = opText key wire s := by
  have h60 : (opBox wire).length = 60 := by unfold opBox; rw [List.length_drop, hl]
  have e0 : askCode 32 0 12 (maxN 4 60 : Int) = 0 := by simp [askCode, askOk, maxN, inB]
  unfold openCode openL opText opTag
  rw [e0, if_pos rfl, h60, if_neg (by omega)]
  exact ⟨rfl, rfl⟩

set_option maxRecDepth 100000 in
set_option maxHeartbeats 4000000 in
theorem implOpen_sum (K : Option Addr) (kc : Nat) (key : List Int) (b off mc : Nat) (wire : List Int) (s : Int) (p : List Int) (w : World) (hQ : Quar w) (hE : Sent w) (hk : Bs w K 32 key) (hkc : 32 ≤ kc) (hA : Bs w (some ⟨b, off, none⟩) 64 wire) (hm : 64 ≤ mc) (h0 : slotC 64 wire = 0) (h1 : slotV 64 wire = s) (hs : 0 ≤ s ∧ s ≤ 400) (ht : ¬ opTag key wire s) :
    Calls Tryz.prog 40 #[.slice K 32 kc, .slice (some ⟨b, off, none⟩) 64 mc] w (OpnAns 6 false s p w) := by
  have cs := Shut.mk (fun (W : World) (hW : Below w.heap.size w W) => implSlotOf_any (some ⟨b, off, none⟩) 64 mc wire W (hA.below hW) hm)
  rw [h0, h1] at cs
  obtain ⟨p1, p2⟩ := wire_parts hA
  have HL := Shut.mk (opText_len key s hA)
  have CO := Shut.mk (fun (A2 : Option Addr) (c2 : Nat) (W : World) (hW : Below w.heap.size w W) (h2 : Bs W A2 12 (nonceL s)) (k2 : 12 ≤ c2) => by
    have t := implOpenBox_any K 32 kc key A2 12 c2 (nonceL s) (some ⟨b, off, none⟩) 4 mc (wire.take 4) (some ⟨b, off + 4, none⟩) 60 (mc - 4) (opBox wire) W (hQ.keep hW) (hE.keep hW) (hk.below hW) hkc h2 k2 (p1.below hW) (fun e => by cases e) (p2.below hW) (by omega)
    rw [(open_ans hA.len).1, (open_ans hA.len).2, if_neg ht, show okN 6 (60 - 16) = 0 from rfl, show okL 6 (opText key wire s) = [] from rfl] at t
    exact t)
  have hbo := hA.at_
  have c0 : ¬ mc = 0 := by omega
  have c1 : (4 : Int) ≤ (mc : Int) := by omega
  have c2 : ¬ mc = 4 := by omega
  have c3 : (64 : Int) ≤ (mc : Int) := by omega
  have T0 := Stc.new w 60 [.int .i64 0, .int .i64 0, .int .i64 0, .int .i64 0, .int .i64 0, .int .i64 0, .bool false, .slice none 0 0] _ rfl
  have B0 := ab (Below.refl _ w) (.cells #[.int .i64 0, .int .i64 0, .int .i64 0, .int .i64 0, .int .i64 0, .int .i64 0, .bool false, .slice none 0 0] 60)
  clear ht hA hk p1 p2 h0 h1 hbo hs hQ hE
  generalize opText key wire s = X at *
  go_enter Tryz.func40, Tryz.ntmps40
  go_wp2_with fail
  refine (cs.out _ B0).mono ?_
  rintro e w1 ⟨rfl, b1⟩
  have B1 := ac B0 b1
  replace T0 := T0.below b1 T0.lt
  clear B0 b1 cs
  go_upto_region 4 with (fail)
  generalize hq : (w1.alloc (.cells #[.int .i64 0, .int .i64 s] 49)) = w2 at *
  have D2 : Stc w2 w1.heap.size [.int .i64 0, .int .i64 s] 49 := by rw [← hq]; exact Stc.new w1 _ _ _ rfl
  have T2 : Stc w2 w.heap.size [.int .i64 0, .int .i64 0, .int .i64 0, .int .i64 0, .int .i64 0, .int .i64 0, .bool false, .slice none 0 0] 60 := by rw [← hq]; exact T0.alloc _
  have B2 : Below w.heap.size w w2 := by rw [← hq]; exact ab B1 _
  have zl : w.heap.size < w1.heap.size := T0.lt
  clear hq T0 B1
  have d0 := D2.cell (i := 0) rfl
  have d1 := D2.cell (i := 1) rfl
  go_wp2
  go_quiet (fail)
  have D3 := D2.drewN nq
  have T3 := T2.drewN nq
  have B3 := ad B2 nq
  have z3 : w2.heap.size ≤ (w2.drewN nq).heap.size := Nat.le_refl _
  generalize w2.drewN nq = w3 at *
  clear D2 T2 B2 d0 d1
  have d1 := D3.cell (i := 1) rfl
  go_wp2_with fail
  refine (nonceOf_any s _).mono ?_
  rintro e w4 ⟨⟨A4, c4, rfl, o4, k4⟩, b4⟩
  have D4 := D3.below b4 D3.lt
  have T4 := T3.below b4 T3.lt
  have B4 := ac B3 b4
  have z4 := b4.size
  have d1 := D4.cell (i := 1) rfl
  have CX := Shut.mk (CO.out A4 c4 w4 B4 o4.bs k4.1)
  clear D3 T3 B3 b4 CO o4
  go_wp2_with fail
  refine CX.out.mono ?_
  rintro e w5 ⟨⟨A5, c5, rfl, o5, k5, j5⟩, b5⟩
  have T5 := T4.below b5 T4.lt
  have B5 := ac B4 b5
  have z5 := b5.size
  have zT := T5.lt
  go_upto_region 8 with (fail)
  generalize hq : (w5.alloc (.cells #[.int .i64 6, .slice A5 0 c5] 46)) = w6 at *
  have E6 : Stc w6 w5.heap.size [.int .i64 6, .slice A5 0 c5] 46 := by rw [← hq]; exact Stc.new w5 _ _ _ rfl
  have T6 := T5.alloc (.cells #[.int .i64 6, .slice A5 0 c5] 46)
  have B6 := ab B5 (.cells #[.int .i64 6, .slice A5 0 c5] 46)
  rw [hq] at T6 B6
  have ne1 : ¬ w5.heap.size = w.heap.size := by have := T4.lt; omega
  clear hq T5 B5 T4 D4 B4 b5 CX d1
  have e0 := E6.cell (i := 0) rfl
  have e1 := E6.cell (i := 1) rfl
  have t0 := T6.cell (i := 0) rfl
  have t1 := T6.cell (i := 1) rfl
  have t2 := T6.cell (i := 2) rfl
  have t3 := T6.cell (i := 3) rfl
  have t4 := T6.cell (i := 4) rfl
  have t5 := T6.cell (i := 5) rfl
  have t6 := T6.cell (i := 6) rfl
  have t7 := T6.cell (i := 7) rfl
  have tf := T6.frozen
  go_wp2
  refine bodyPost_ret (v := .agg #[.int .i64 6, .int .i64 0, .int .i64 0, .int .i64 0, .int .i64 0, .int .i64 0, .bool false, .slice none 0 0]) (by simp [results, Tryz.results40, go_sem, t0, t1, t2, t3, t4, t5, t6, t7]) rfl ?_
  exact OpnAns.no rfl ((((((((B6.setCell (by simp) _).setCell (by simp) _).setCell (by simp) _).setCell (by simp) _).setCell (by simp) _).setCell (by simp) _).setCell (by simp) _).setCell (by simp) _)

set_option maxRecDepth 100000 in
set_option maxHeartbeats 4000000 in
theorem implOpen_box (K : Option Addr) (kc : Nat) (key : List Int) (b off mc : Nat) (wire : List Int) (s : Int) (w : World) (hQ : Quar w) (hE : Sent w) (hk : Bs w K 32 key) (hkc : 32 ≤ kc) (hA : Bs w (some ⟨b, off, none⟩) 64 wire) (hm : 64 ≤ mc) (h0 : slotC 64 wire = 0) (h1 : slotV 64 wire = s) (hs : 0 ≤ s ∧ s ≤ 400) (ht : opTag key wire s) :
    Calls Tryz.prog 40 #[.slice K 32 kc, .slice (some ⟨b, off, none⟩) 64 mc] w (OpnAns (decCode 44 (opText key wire s)) (decOk (opText key wire s)) s (opText key wire s) w) := by
  have cs := Shut.mk (fun (W : World) (hW : Below w.heap.size w W) => implSlotOf_any (some ⟨b, off, none⟩) 64 mc wire W (hA.below hW) hm)
  rw [h0, h1] at cs
  obtain ⟨p1, p2⟩ := wire_parts hA
  have HL := Shut.mk (opText_len key s hA)
  have CO := Shut.mk (fun (A2 : Option Addr) (c2 : Nat) (W : World) (hW : Below w.heap.size w W) (h2 : Bs W A2 12 (nonceL s)) (k2 : 12 ≤ c2) => by
    have t := implOpenBox_any K 32 kc key A2 12 c2 (nonceL s) (some ⟨b, off, none⟩) 4 mc (wire.take 4) (some ⟨b, off + 4, none⟩) 60 (mc - 4) (opBox wire) W (hQ.keep hW) (hE.keep hW) (hk.below hW) hkc h2 k2 (p1.below hW) (fun e => by cases e) (p2.below hW) (by omega)
    rw [(open_ans hA.len).1, (open_ans hA.len).2, if_pos ht, show okN 0 (60 - 16) = 44 from rfl, show okL 0 (opText key wire s) = opText key wire s from rfl] at t
    exact t)
  have hbo := hA.at_
  have c0 : ¬ mc = 0 := by omega
  have c1 : (4 : Int) ≤ (mc : Int) := by omega
  have c2 : ¬ mc = 4 := by omega
  have c3 : (64 : Int) ≤ (mc : Int) := by omega
  have T0 := Stc.new w 60 [.int .i64 0, .int .i64 0, .int .i64 0, .int .i64 0, .int .i64 0, .int .i64 0, .bool false, .slice none 0 0] _ rfl
  have B0 := ab (Below.refl _ w) (.cells #[.int .i64 0, .int .i64 0, .int .i64 0, .int .i64 0, .int .i64 0, .int .i64 0, .bool false, .slice none 0 0] 60)
  clear ht hA hk p1 p2 h0 h1 hbo hs hQ hE
  generalize opText key wire s = X at *
  go_enter Tryz.func40, Tryz.ntmps40
  go_wp2_with fail
  refine (cs.out _ B0).mono ?_
  rintro e w1 ⟨rfl, b1⟩
  have B1 := ac B0 b1
  replace T0 := T0.below b1 T0.lt
  clear B0 b1 cs
  go_upto_region 4 with (fail)
  generalize hq : (w1.alloc (.cells #[.int .i64 0, .int .i64 s] 49)) = w2 at *
  have D2 : Stc w2 w1.heap.size [.int .i64 0, .int .i64 s] 49 := by rw [← hq]; exact Stc.new w1 _ _ _ rfl
  have T2 : Stc w2 w.heap.size [.int .i64 0, .int .i64 0, .int .i64 0, .int .i64 0, .int .i64 0, .int .i64 0, .bool false, .slice none 0 0] 60 := by rw [← hq]; exact T0.alloc _
  have B2 : Below w.heap.size w w2 := by rw [← hq]; exact ab B1 _
  have zl : w.heap.size < w1.heap.size := T0.lt
  clear hq T0 B1
  have d0 := D2.cell (i := 0) rfl
  have d1 := D2.cell (i := 1) rfl
  go_wp2
  go_quiet (fail)
  have D3 := D2.drewN nq
  have T3 := T2.drewN nq
  have B3 := ad B2 nq
  have z3 : w2.heap.size ≤ (w2.drewN nq).heap.size := Nat.le_refl _
  generalize w2.drewN nq = w3 at *
  clear D2 T2 B2 d0 d1
  have d1 := D3.cell (i := 1) rfl
  go_wp2_with fail
  refine (nonceOf_any s _).mono ?_
  rintro e w4 ⟨⟨A4, c4, rfl, o4, k4⟩, b4⟩
  have D4 := D3.below b4 D3.lt
  have T4 := T3.below b4 T3.lt
  have B4 := ac B3 b4
  have z4 := b4.size
  have d1 := D4.cell (i := 1) rfl
  have CX := Shut.mk (CO.out A4 c4 w4 B4 o4.bs k4.1)
  clear D3 T3 B3 b4 CO o4
  go_wp2_with fail
  refine CX.out.mono ?_
  rintro e w5 ⟨⟨A5, c5, rfl, o5, k5, j5⟩, b5⟩
  obtain ⟨g, rfl, hgB, hgl, _⟩ := o5.at_ (by omega)
  have T5 := T4.below b5 T4.lt
  have D5 := D4.below b5 D4.lt
  have B5 := ac B4 b5
  have z5 := b5.size
  have zT := T5.lt
  go_upto_region 8 with (fail)
  generalize hq : (w5.alloc (.cells #[.int .i64 0, .slice (some ⟨g, 0, none⟩) 44 c5] 46)) = w6 at *
  have E6 : Stc w6 w5.heap.size [.int .i64 0, .slice (some ⟨g, 0, none⟩) 44 c5] 46 := by rw [← hq]; exact Stc.new w5 _ _ _ rfl
  have T6 := T5.alloc (.cells #[.int .i64 0, .slice (some ⟨g, 0, none⟩) 44 c5] 46)
  have D6 := D5.alloc (.cells #[.int .i64 0, .slice (some ⟨g, 0, none⟩) 44 c5] 46)
  have B6 := ab B5 (.cells #[.int .i64 0, .slice (some ⟨g, 0, none⟩) 44 c5] 46)
  have o6 := o5.alloc (.cells #[.int .i64 0, .slice (some ⟨g, 0, none⟩) 44 c5] 46)
  rw [hq] at T6 D6 B6 o6
  have CD := Shut.mk (implDecodeCell_any g 44 c5 X _ o6.bs k5)
  rw [show decD 44 X = decOk X by simp [decD]] at CD
  clear hq T5 D5 B5 T4 D4 B4 b5 CX d1 o5 o6
  have e0 := E6.cell (i := 0) rfl
  have e1 := E6.cell (i := 1) rfl
  go_wp2_with fail
  refine CD.out.mono ?_
  rintro e w7 ⟨⟨A7, f7, rfl, R7, k7, j7⟩, b7⟩
  clear e0 e1 CD
  have HN : Shut (¬ decCode 44 X = 0 → decOk X = false) := ⟨fun h => by
    cases ho : decOk X with
    | false => rfl
    | true => exact absurd (by simp [decCode, ho]) h⟩
  have HY : Shut (decCode 44 X = 0 → decOk X = true) := ⟨fun h => by
    cases ho : decOk X with
    | true => rfl
    | false => exact absurd h (by simp [decCode, ho])⟩
  have zT4 := T6.lt
  replace T6 := T6.below b7 T6.lt
  replace D6 := D6.below b7 D6.lt
  have B7 := ac B6 b7
  have z7 := b7.size
  have zT := T6.lt
  have zD := D6.lt
  clear b7 B6
  by_cases hz : decCode 44 X = 0
  · have ho := HY.out hz
    have HZ := Shut.mk hz
    have HO := Shut.mk ho
    obtain ⟨K1, h1⟩ : ∃ x, x = selI true (fK X) := ⟨_, rfl⟩
    obtain ⟨K2, h2⟩ : ∃ x, x = selI true (fS X) := ⟨_, rfl⟩
    obtain ⟨K3, h3⟩ : ∃ x, x = selI true (fA X) := ⟨_, rfl⟩
    obtain ⟨K4, h4⟩ : ∃ x, x = selI true (fM X) := ⟨_, rfl⟩
    obtain ⟨K5, h5⟩ : ∃ x, x = selB true (fL X) := ⟨_, rfl⟩
    obtain ⟨N6, h6⟩ : ∃ x, x = selN true (fZ X).toNat := ⟨_, rfl⟩
    obtain ⟨L6, h7⟩ : ∃ x, x = selL true (fB X (fZ X).toNat) := ⟨_, rfl⟩
    rw [ho, ← h6, ← h7] at R7
    rw [ho, ← h6] at k7
    rw [hz, ho, ← h1, ← h2, ← h3, ← h4, ← h5, ← h6]
    have HH := Shut.mk (⟨h1, h2, h3, h4, h5, h6, h7⟩ : K1 = selI true (fK X) ∧ K2 = selI true (fS X) ∧ K3 = selI true (fA X) ∧ K4 = selI true (fM X) ∧ K5 = selB true (fL X) ∧ N6 = selN true (fZ X).toNat ∧ L6 = selL true (fB X (fZ X).toNat))
    clear hz ho HN HY h1 h2 h3 h4 h5 h6 h7
    go_upto_region 11 with (fail)
    generalize hq : (w7.alloc (.cells #[.int .i64 0, .int .i64 0, .int .i64 K1, .int .i64 K2, .int .i64 K3, .int .i64 K4, .bool K5, .slice A7 N6 f7] 60)) = w8 at *
    have E8 : Stc w8 w7.heap.size [.int .i64 0, .int .i64 0, .int .i64 K1, .int .i64 K2, .int .i64 K3, .int .i64 K4, .bool K5, .slice A7 N6 f7] 60 := by rw [← hq]; exact Stc.new w7 _ _ _ rfl
    have T8 := T6.alloc (.cells #[.int .i64 0, .int .i64 0, .int .i64 K1, .int .i64 K2, .int .i64 K3, .int .i64 K4, .bool K5, .slice A7 N6 f7] 60)
    have D8 := D6.alloc (.cells #[.int .i64 0, .int .i64 0, .int .i64 K1, .int .i64 K2, .int .i64 K3, .int .i64 K4, .bool K5, .slice A7 N6 f7] 60)
    have R8 := R7.alloc (.cells #[.int .i64 0, .int .i64 0, .int .i64 K1, .int .i64 K2, .int .i64 K3, .int .i64 K4, .bool K5, .slice A7 N6 f7] 60)
    have B8 := ab B7 (.cells #[.int .i64 0, .int .i64 0, .int .i64 K1, .int .i64 K2, .int .i64 K3, .int .i64 K4, .bool K5, .slice A7 N6 f7] 60)
    rw [hq] at T8 D8 R8 B8
    clear hq T6 D6 R7 B7
    have hz4 : w.heap.size < w6.heap.size := zT4
    have ne1 : ¬ w7.heap.size = w.heap.size := by omega
    have ne2 : ¬ w1.heap.size = w.heap.size := by omega
    have d1 := D8.cell (i := 1) rfl
    have t0 := T8.cell (i := 0) rfl
    have t1 := T8.cell (i := 1) rfl
    have t2 := T8.cell (i := 2) rfl
    have t3 := T8.cell (i := 3) rfl
    have t4 := T8.cell (i := 4) rfl
    have t5 := T8.cell (i := 5) rfl
    have t6 := T8.cell (i := 6) rfl
    have t7 := T8.cell (i := 7) rfl
    have e0 := E8.cell (i := 0) rfl
    have e1 := E8.cell (i := 1) rfl
    have e2 := E8.cell (i := 2) rfl
    have e3 := E8.cell (i := 3) rfl
    have e4 := E8.cell (i := 4) rfl
    have e5 := E8.cell (i := 5) rfl
    have e6 := E8.cell (i := 6) rfl
    have e7 := E8.cell (i := 7) rfl
    have tf := T8.frozen
    go_wp2
    refine bodyPost_ret (v := .agg #[.int .i64 0, .int .i64 s, .int .i64 K1, .int .i64 K2, .int .i64 K3, .int .i64 K4, .bool K5, .slice A7 N6 f7]) (by simp [results, Tryz.results40, go_sem, t0, t1, t2, t3, t4, t5, t6, t7]) rfl ?_
    obtain ⟨g1, g2, g3, g4, g5, g6, g7⟩ := HH.out
    unfold OpnAns
    rw [HZ.out, HO.out, ← g1, ← g2, ← g3, ← g4, ← g5, ← g6, ← g7]
    refine ⟨⟨A7, f7, by simp [selI], (((((((((R8.far (p := ⟨w.heap.size, 0, none⟩) hz4 _).far (p := ⟨w.heap.size, 1, none⟩) hz4 _).far (p := ⟨w.heap.size, 2, none⟩) hz4 _).far (p := ⟨w.heap.size, 3, none⟩) hz4 _).far (p := ⟨w.heap.size, 4, none⟩) hz4 _).far (p := ⟨w.heap.size, 5, none⟩) hz4 _).far (p := ⟨w.heap.size, 6, none⟩) hz4 _).far (p := ⟨w.heap.size, 7, none⟩) hz4 _).mono (by omega)), k7, j7⟩, ?_⟩
    exact ((((((((B8.setCell (p := ⟨w.heap.size, 0, none⟩) (Nat.le_refl _) _).setCell (p := ⟨w.heap.size, 1, none⟩) (Nat.le_refl _) _).setCell (p := ⟨w.heap.size, 2, none⟩) (Nat.le_refl _) _).setCell (p := ⟨w.heap.size, 3, none⟩) (Nat.le_refl _) _).setCell (p := ⟨w.heap.size, 4, none⟩) (Nat.le_refl _) _).setCell (p := ⟨w.heap.size, 5, none⟩) (Nat.le_refl _) _).setCell (p := ⟨w.heap.size, 6, none⟩) (Nat.le_refl _) _).setCell (p := ⟨w.heap.size, 7, none⟩) (Nat.le_refl _) _)
  · have ho := HN.out hz
    have HO := Shut.mk ho
    have hzz : (decCode 44 X != 0) = true := by simpa using hz
    have e1 : selI false (fK X) = 0 ∧ selI false (fS X) = 0 ∧ selI false (fA X) = 0 ∧ selI false (fM X) = 0 ∧ selB false (fL X) = false ∧ selN false (fZ X).toNat = 0 := by simp [selI, selB, selN]
    rw [ho, e1.1, e1.2.1, e1.2.2.1, e1.2.2.2.1, e1.2.2.2.2.1, e1.2.2.2.2.2]
    obtain ⟨C6, h6⟩ : ∃ x, x = decCode 44 X := ⟨_, rfl⟩
    rw [← h6] at hzz ⊢
    have HC := Shut.mk h6
    clear hz ho HN HY h6 R7 k7 e1
    go_upto_region 11 with (fail)
    generalize hq : (w7.alloc (.cells #[.int .i64 C6, .int .i64 0, .int .i64 0, .int .i64 0, .int .i64 0, .int .i64 0, .bool false, .slice A7 0 f7] 60)) = w8 at *
    have E8 : Stc w8 w7.heap.size [.int .i64 C6, .int .i64 0, .int .i64 0, .int .i64 0, .int .i64 0, .int .i64 0, .bool false, .slice A7 0 f7] 60 := by rw [← hq]; exact Stc.new w7 _ _ _ rfl
    have T8 := T6.alloc (.cells #[.int .i64 C6, .int .i64 0, .int .i64 0, .int .i64 0, .int .i64 0, .int .i64 0, .bool false, .slice A7 0 f7] 60)
    have B8 := ab B7 (.cells #[.int .i64 C6, .int .i64 0, .int .i64 0, .int .i64 0, .int .i64 0, .int .i64 0, .bool false, .slice A7 0 f7] 60)
    rw [hq] at T8 B8
    clear hq T6 D6 B7
    have ne1 : ¬ w7.heap.size = w.heap.size := by omega
    have t0 := T8.cell (i := 0) rfl
    have t1 := T8.cell (i := 1) rfl
    have t2 := T8.cell (i := 2) rfl
    have t3 := T8.cell (i := 3) rfl
    have t4 := T8.cell (i := 4) rfl
    have t5 := T8.cell (i := 5) rfl
    have t6 := T8.cell (i := 6) rfl
    have t7 := T8.cell (i := 7) rfl
    have e0 := E8.cell (i := 0) rfl
    have e1 := E8.cell (i := 1) rfl
    have e2 := E8.cell (i := 2) rfl
    have e3 := E8.cell (i := 3) rfl
    have e4 := E8.cell (i := 4) rfl
    have e5 := E8.cell (i := 5) rfl
    have e6 := E8.cell (i := 6) rfl
    have e7 := E8.cell (i := 7) rfl
    have tf := T8.frozen
    go_wp2
    refine bodyPost_ret (v := .agg #[.int .i64 C6, .int .i64 0, .int .i64 0, .int .i64 0, .int .i64 0, .int .i64 0, .bool false, .slice A7 0 f7]) (by simp [results, Tryz.results40, go_sem, t0, t1, t2, t3, t4, t5, t6, t7]) rfl ?_
    rw [HO.out, ← HC.out]
    exact ⟨⟨A7, f7, by simp [selI, selB, selN], Rs.one (Ow.zero _ _ _), Nat.zero_le _, j7⟩, ((((((((B8.setCell (by simp) _).setCell (by simp) _).setCell (by simp) _).setCell (by simp) _).setCell (by simp) _).setCell (by simp) _).setCell (by simp) _).setCell (by simp) _)⟩

end Go.Proofs.YtabhcolfkkfonaaGreatDoor
