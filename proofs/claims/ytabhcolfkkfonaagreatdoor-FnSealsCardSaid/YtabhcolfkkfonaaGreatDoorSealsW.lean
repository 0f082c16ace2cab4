/- The walk of FnSeals. -/
import Derived.Test.YtabhcolfkkfonaaGreatDoorSelM
import Derived.Deep.RegionHeld3
import Derived.Deep.CutRange
namespace Go.Proofs.YtabhcolfkkfonaaGreatDoor
open Go.RowKit
set_option linter.unusedVariables false

set_option maxRecDepth 100000 in
set_option maxHeartbeats 16000000 in
theorem seals_walk (A : Option Addr) (n c : Nat) (l : List Int) (w : World) (hQ : Quar w) (hS : Sent w) (h : Bs w A n l) (hn : n ≤ 1048576) :
    Calls Tryz.prog 5 #[.slice A n c] w fun e w' => e = .returned (.bool true) ∧ Below w.heap.size w w' := by
  have Hd : Shut (decide (1048576 < n) = false) := ⟨by simp; omega⟩
  go_enter Tryz.func5, Tryz.ntmps5
  go_wp2_with fail
  refine (lwBig_any _ _ _ _ (by omega)).mono ?_
  rintro e w0 ⟨rfl, rfl⟩
  rw [Hd.out]
  go_wp2_with fail
  refine (drawSealCell_any _ _ _ _ _ h hn).mono ?_
  rintro e w1 ⟨⟨Ak, nk, ck, rk, sl, a, b, cc, d, v, A3, n3, c3, r, rfl, qk, kk, hnk, hsl0, hsl1, q3, k3, hn3⟩, B1⟩
  have TC := Stc.new w1 52 [.int .i64 a, .int .i64 b, .int .i64 cc, .int .i64 d, .bool v, .slice A3 n3 c3] _ rfl
  replace qk := qk.alloc (.cells #[.int .i64 a, .int .i64 b, .int .i64 cc, .int .i64 d, .bool v, .slice A3 n3 c3] 52)
  replace q3 := q3.alloc (.cells #[.int .i64 a, .int .i64 b, .int .i64 cc, .int .i64 d, .bool v, .slice A3 n3 c3] 52)
  have B2 := ab B1 (.cells #[.int .i64 a, .int .i64 b, .int .i64 cc, .int .i64 d, .bool v, .slice A3 n3 c3] 52)
  have zW : (w1.alloc (.cells #[.int .i64 a, .int .i64 b, .int .i64 cc, .int .i64 d, .bool v, .slice A3 n3 c3] 52)).heap.size = w1.heap.size + 1 := by simp
  obtain ⟨w2, hw2⟩ : ∃ W, W = w1.alloc (.cells #[.int .i64 a, .int .i64 b, .int .i64 cc, .int .i64 d, .bool v, .slice A3 n3 c3] 52) := ⟨_, rfl⟩
  rw [← hw2] at TC qk q3 B2 zW
  have z2 : w1.heap.size < w2.heap.size := by omega
  clear zW B1
  go_upto_region 4 with (fail)
  rw [← hw2]
  clear hw2
  have y0 := TC.cell (i := 0) rfl
  have y1 := TC.cell (i := 1) rfl
  have y2 := TC.cell (i := 2) rfl
  have y3 := TC.cell (i := 3) rfl
  have y4 := TC.cell (i := 4) rfl
  have y5 := TC.cell (i := 5) rfl
  go_wp2_with fail
  refine (implSealCell_any Ak nk ck rk sl a b cc d v A3 n3 c3 r w2 (hQ.keep B2) qk kk q3).mono ?_
  rintro e w3 ⟨⟨A4, c4, rfl, R4, k4, _⟩, b3⟩
  clear y0 y1 y2 y3 y4 y5
  have hrl := q3.len
  have hby3 := q3.byte
  have HF : Shut (selC nk sl (cellC a b cc d v n3) = 0 → nk = 32 ∧ inB sl 0 400 = true ∧ cellC a b cc d v r.length = 0) := ⟨fun h0 => by
    unfold selC at h0
    by_cases hh : nk = 32 ∧ inB sl 0 400 = true
    · rw [if_pos hh] at h0; exact ⟨hh.1, hh.2, by rw [hrl]; exact h0⟩
    · rw [if_neg hh] at h0; omega⟩
  have GE := Shut.mk (fun (W : World) (h3 : Bs W A3 n3 r) (hk : Bs W Ak nk rk) => specSealCell_any Ak nk ck rk sl a b cc d v A3 n3 c3 r W hk kk h3 k3)
  have HR := Shut.mk hrl
  have HBy := Shut.mk hby3
  obtain ⟨EL, hEL⟩ : ∃ x, x = wireL rk sl (cellL a b cc d v r) := ⟨_, rfl⟩
  obtain ⟨SC, hSC⟩ : ∃ x, x = selC nk sl (cellC a b cc d v n3) := ⟨_, rfl⟩
  rw [← hSC] at GE HF R4 k4 ⊢
  rw [← hEL] at GE R4
  have HEL := Shut.mk hEL
  clear hEL hSC hrl hby3
  have z3 := b3.size
  replace TC := (TC.below b3 TC.lt).alloc (.cells #[.int .i64 SC, .slice A4 (wirN SC) c4] 46)
  replace qk := (qk.below b3).alloc (.cells #[.int .i64 SC, .slice A4 (wirN SC) c4] 46)
  replace q3 := (q3.below b3).alloc (.cells #[.int .i64 SC, .slice A4 (wirN SC) c4] 46)
  replace R4 := R4.alloc (.cells #[.int .i64 SC, .slice A4 (wirN SC) c4] 46)
  have TE := Stc.new w3 46 [.int .i64 SC, .slice A4 (wirN SC) c4] _ rfl
  have B3 := ab (ac B2 b3) (.cells #[.int .i64 SC, .slice A4 (wirN SC) c4] 46)
  have nzE : ¬ w3.heap.size = w1.heap.size := by omega
  clear b3 B2
  go_wp2_with fail
  refine (drawSlotOf_any _ _ _ _ _ (h.below B3) hn).mono ?_
  rintro e w4 ⟨⟨Aw, mw, cw, rw_, rfl, qw, kw, hmw⟩, b4⟩
  replace TC := TC.below b4 TC.lt
  replace TE := TE.below b4 TE.lt
  replace qk := qk.below b4
  replace q3 := q3.below b4
  replace R4 := R4.below b4 (Nat.le_refl _)
  have B4 := ac B3 b4
  have z4 := b4.size
  rw [World.size_alloc] at z4
  clear b4 B3
  go_wp2_with fail
  refine (drawOpenCell_any _ _ _ _ _ (h.below B4) hn).mono ?_
  rintro e w5 ⟨⟨Ao, no, co, ro, Ax, mx, cx, rx, rfl, qo, ko, hno, qx, kx, hmx⟩, b5⟩
  replace TC := TC.below b5 TC.lt
  replace TE := TE.below b5 TE.lt
  replace qk := qk.below b5
  replace q3 := q3.below b5
  replace qw := qw.below b5
  replace R4 := R4.below b5 (Nat.le_refl _)
  have B5 := ac B4 b5
  have z5 := b5.size
  clear b5 B4 h
  have GD : Shut (∀ (W : World), Bs W Ao no ro → Bs W Ax mx rx → Calls Tryz.prog 45 #[.slice Ao no co, .slice Ax mx cx] W fun e w' => (∃ A f, e = .returned (.agg #[.int .i64 (opC no mx ro rx), .int .i64 (selI (opD no mx ro rx) (slotV mx rx)), .int .i64 (selI (opD no mx ro rx) (fK (opText ro rx (slotV mx rx)))), .int .i64 (selI (opD no mx ro rx) (fS (opText ro rx (slotV mx rx)))), .int .i64 (selI (opD no mx ro rx) (fA (opText ro rx (slotV mx rx)))), .int .i64 (selI (opD no mx ro rx) (fM (opText ro rx (slotV mx rx)))), .bool (selB (opD no mx ro rx) (fL (opText ro rx (slotV mx rx)))), .slice A (selN (opD no mx ro rx) (fZ (opText ro rx (slotV mx rx))).toNat) f]) ∧ Rs w' W.heap.size [(A, selN (opD no mx ro rx) (fZ (opText ro rx (slotV mx rx))).toNat, selL (opD no mx ro rx) (fB (opText ro rx (slotV mx rx)) (fZ (opText ro rx (slotV mx rx))).toNat))] ∧ selN (opD no mx ro rx) (fZ (opText ro rx (slotV mx rx))).toNat ≤ f ∧ (A = none → f = 0)) ∧ Below W.heap.size W w') := ⟨fun W h1 h2 => specOpenCell_any Ao no co ro Ax mx cx rx W h1 ko h2 kx⟩
  go_wp2_with fail
  refine (implOpenCell_any Ao no co ro Ax mx cx rx w5 (hQ.keep B5) (hS.keep B5) qo ko qx kx).mono ?_
  rintro e w6 ⟨⟨A6, f6, rfl, R6, k6, _⟩, b6⟩
  have HB : Shut (opC no mx ro rx = 0 → no = 32 ∧ mx = 64 ∧ inB (selI (opD no mx ro rx) (slotV mx rx)) 0 400 = true ∧ cellC (selI (opD no mx ro rx) (fK (opText ro rx (slotV mx rx)))) (selI (opD no mx ro rx) (fS (opText ro rx (slotV mx rx)))) (selI (opD no mx ro rx) (fA (opText ro rx (slotV mx rx)))) (selI (opD no mx ro rx) (fM (opText ro rx (slotV mx rx)))) (selB (opD no mx ro rx) (fL (opText ro rx (slotV mx rx)))) (selN (opD no mx ro rx) (fZ (opText ro rx (slotV mx rx))).toNat) = 0 ∧ wireL ro (selI (opD no mx ro rx) (slotV mx rx)) (cellL (selI (opD no mx ro rx) (fK (opText ro rx (slotV mx rx)))) (selI (opD no mx ro rx) (fS (opText ro rx (slotV mx rx)))) (selI (opD no mx ro rx) (fA (opText ro rx (slotV mx rx)))) (selI (opD no mx ro rx) (fM (opText ro rx (slotV mx rx)))) (selB (opD no mx ro rx) (fL (opText ro rx (slotV mx rx)))) (selL (opD no mx ro rx) (fB (opText ro rx (slotV mx rx)) (fZ (opText ro rx (slotV mx rx))).toNat))) = rx) := ⟨fun h0 => by
    obtain ⟨g1, g2, g3, g4, g5, g6⟩ := open_back qx.len qx.byte h0
    rw [g4]
    simp only [selI, selB, selN, selL, if_true, Bool.true_and]
    exact ⟨g1, g2, g3, g5, g6⟩⟩
  generalize selI (opD no mx ro rx) (slotV mx rx) = s0 at *
  generalize selI (opD no mx ro rx) (fK (opText ro rx (slotV mx rx))) = K at *
  generalize selI (opD no mx ro rx) (fS (opText ro rx (slotV mx rx))) = S at *
  generalize selI (opD no mx ro rx) (fA (opText ro rx (slotV mx rx))) = U at *
  generalize selI (opD no mx ro rx) (fM (opText ro rx (slotV mx rx))) = M at *
  generalize selB (opD no mx ro rx) (fL (opText ro rx (slotV mx rx))) = V at *
  generalize selN (opD no mx ro rx) (fZ (opText ro rx (slotV mx rx))).toNat = N6 at *
  generalize selL (opD no mx ro rx) (fB (opText ro rx (slotV mx rx)) (fZ (opText ro rx (slotV mx rx))).toNat) = L6 at *
  generalize opC no mx ro rx = C at *
  have z6 := b6.size
  replace TC := (TC.below b6 TC.lt).alloc (.cells #[.int .i64 C, .int .i64 s0, .int .i64 K, .int .i64 S, .int .i64 U, .int .i64 M, .bool V, .slice A6 N6 f6] 60)
  replace TE := (TE.below b6 TE.lt).alloc (.cells #[.int .i64 C, .int .i64 s0, .int .i64 K, .int .i64 S, .int .i64 U, .int .i64 M, .bool V, .slice A6 N6 f6] 60)
  replace qk := (qk.below b6).alloc (.cells #[.int .i64 C, .int .i64 s0, .int .i64 K, .int .i64 S, .int .i64 U, .int .i64 M, .bool V, .slice A6 N6 f6] 60)
  replace q3 := (q3.below b6).alloc (.cells #[.int .i64 C, .int .i64 s0, .int .i64 K, .int .i64 S, .int .i64 U, .int .i64 M, .bool V, .slice A6 N6 f6] 60)
  replace qw := (qw.below b6).alloc (.cells #[.int .i64 C, .int .i64 s0, .int .i64 K, .int .i64 S, .int .i64 U, .int .i64 M, .bool V, .slice A6 N6 f6] 60)
  replace qo := (qo.below b6).alloc (.cells #[.int .i64 C, .int .i64 s0, .int .i64 K, .int .i64 S, .int .i64 U, .int .i64 M, .bool V, .slice A6 N6 f6] 60)
  replace qx := (qx.below b6).alloc (.cells #[.int .i64 C, .int .i64 s0, .int .i64 K, .int .i64 S, .int .i64 U, .int .i64 M, .bool V, .slice A6 N6 f6] 60)
  replace R4 := (R4.below b6 (Nat.le_refl _)).alloc (.cells #[.int .i64 C, .int .i64 s0, .int .i64 K, .int .i64 S, .int .i64 U, .int .i64 M, .bool V, .slice A6 N6 f6] 60)
  replace R6 := R6.alloc (.cells #[.int .i64 C, .int .i64 s0, .int .i64 K, .int .i64 S, .int .i64 U, .int .i64 M, .bool V, .slice A6 N6 f6] 60)
  have TD := Stc.new w6 60 [.int .i64 C, .int .i64 s0, .int .i64 K, .int .i64 S, .int .i64 U, .int .i64 M, .bool V, .slice A6 N6 f6] _ rfl
  have B6 := ab (ac B5 b6) (.cells #[.int .i64 C, .int .i64 s0, .int .i64 K, .int .i64 S, .int .i64 U, .int .i64 M, .bool V, .slice A6 N6 f6] 60)
  have nzD : ¬ w6.heap.size = w1.heap.size ∧ ¬ w6.heap.size = w3.heap.size := by omega
  have q4 := R4.head.bs
  have q6 := R6.head.bs
  clear b6 B5 R4 R6
  go_wp2_with fail
  generalize w6.alloc (.cells #[.int .i64 C, .int .i64 s0, .int .i64 K, .int .i64 S, .int .i64 U, .int .i64 M, .bool V, .slice A6 N6 f6] 60) = W7 at *
  have lt_TC := TC.lt
  have i0_0 := TC.cell (i := 0) rfl
  have i0_1 := TC.cell (i := 1) rfl
  have i0_2 := TC.cell (i := 2) rfl
  have i0_3 := TC.cell (i := 3) rfl
  have i0_4 := TC.cell (i := 4) rfl
  have i0_5 := TC.cell (i := 5) rfl
  have lt_TE := TE.lt
  have i1_0 := TE.cell (i := 0) rfl
  have i1_1 := TE.cell (i := 1) rfl
  have lt_TD := TD.lt
  have i2_0 := TD.cell (i := 0) rfl
  have i2_1 := TD.cell (i := 1) rfl
  have i2_2 := TD.cell (i := 2) rfl
  have i2_3 := TD.cell (i := 3) rfl
  have i2_4 := TD.cell (i := 4) rfl
  have i2_5 := TD.cell (i := 5) rfl
  have i2_6 := TD.cell (i := 6) rfl
  have i2_7 := TD.cell (i := 7) rfl
  have hWW := Below.refl W7.heap.size W7
  have XE : Shut (∀  (W : World), (W.cell? ⟨w1.heap.size, 0, none⟩ = some (.int .i64 a) ∧ W.cell? ⟨w1.heap.size, 1, none⟩ = some (.int .i64 b) ∧ W.cell? ⟨w1.heap.size, 2, none⟩ = some (.int .i64 cc) ∧ W.cell? ⟨w1.heap.size, 3, none⟩ = some (.int .i64 d) ∧ W.cell? ⟨w1.heap.size, 4, none⟩ = some (.bool v) ∧ W.cell? ⟨w1.heap.size, 5, none⟩ = some (.slice A3 n3 c3) ∧ W.cell? ⟨w3.heap.size, 0, none⟩ = some (.int .i64 SC) ∧ W.cell? ⟨w3.heap.size, 1, none⟩ = some (.slice A4 (wirN SC) c4) ∧ W.cell? ⟨w6.heap.size, 0, none⟩ = some (.int .i64 C) ∧ W.cell? ⟨w6.heap.size, 1, none⟩ = some (.int .i64 s0) ∧ W.cell? ⟨w6.heap.size, 2, none⟩ = some (.int .i64 K) ∧ W.cell? ⟨w6.heap.size, 3, none⟩ = some (.int .i64 S) ∧ W.cell? ⟨w6.heap.size, 4, none⟩ = some (.int .i64 U) ∧ W.cell? ⟨w6.heap.size, 5, none⟩ = some (.int .i64 M) ∧ W.cell? ⟨w6.heap.size, 6, none⟩ = some (.bool V) ∧ W.cell? ⟨w6.heap.size, 7, none⟩ = some (.slice A6 N6 f6) ∧ Below W7.heap.size W7 W) → Calls Tryz.prog 42 #[.slice Ak nk ck, .int .i64 sl, .agg #[.int .i64 a, .int .i64 b, .int .i64 cc, .int .i64 d, .bool v, .slice A3 n3 c3]] W fun e w' => (∃ (A' : Option Addr) (c' : Nat), e = .returned (.agg #[.int .i64 SC, .slice A' (wirN SC) c']) ∧ Bs w' A' (wirN SC) (wirL SC EL)) ∧ (∀ (A : Option Addr) (m : Nat) (l : List Int), Bs W A m l → Bs w' A m l) ∧ w'.cell? ⟨w1.heap.size, 0, none⟩ = some (.int .i64 a) ∧ w'.cell? ⟨w1.heap.size, 1, none⟩ = some (.int .i64 b) ∧ w'.cell? ⟨w1.heap.size, 2, none⟩ = some (.int .i64 cc) ∧ w'.cell? ⟨w1.heap.size, 3, none⟩ = some (.int .i64 d) ∧ w'.cell? ⟨w1.heap.size, 4, none⟩ = some (.bool v) ∧ w'.cell? ⟨w1.heap.size, 5, none⟩ = some (.slice A3 n3 c3) ∧ w'.cell? ⟨w3.heap.size, 0, none⟩ = some (.int .i64 SC) ∧ w'.cell? ⟨w3.heap.size, 1, none⟩ = some (.slice A4 (wirN SC) c4) ∧ w'.cell? ⟨w6.heap.size, 0, none⟩ = some (.int .i64 C) ∧ w'.cell? ⟨w6.heap.size, 1, none⟩ = some (.int .i64 s0) ∧ w'.cell? ⟨w6.heap.size, 2, none⟩ = some (.int .i64 K) ∧ w'.cell? ⟨w6.heap.size, 3, none⟩ = some (.int .i64 S) ∧ w'.cell? ⟨w6.heap.size, 4, none⟩ = some (.int .i64 U) ∧ w'.cell? ⟨w6.heap.size, 5, none⟩ = some (.int .i64 M) ∧ w'.cell? ⟨w6.heap.size, 6, none⟩ = some (.bool V) ∧ w'.cell? ⟨w6.heap.size, 7, none⟩ = some (.slice A6 N6 f6) ∧ Below W7.heap.size W7 w') := by
    refine ⟨fun  W ⟨_, _, _, _, _, _, _, _, _, _, _, _, _, _, _, _, hW⟩  => (GE.out W (q3.below hW) (qk.below hW)).mono ?_⟩
    rintro e w' ⟨⟨A', c', rfl, Q, _⟩, hb⟩
    have hB := ac hW hb
    exact ⟨⟨A', c', rfl, Q.head.bs⟩, fun A m l hA => hA.below hb, (TC.below hB lt_TC).cell (i := 0) rfl, (TC.below hB lt_TC).cell (i := 1) rfl, (TC.below hB lt_TC).cell (i := 2) rfl, (TC.below hB lt_TC).cell (i := 3) rfl, (TC.below hB lt_TC).cell (i := 4) rfl, (TC.below hB lt_TC).cell (i := 5) rfl, (TE.below hB lt_TE).cell (i := 0) rfl, (TE.below hB lt_TE).cell (i := 1) rfl, (TD.below hB lt_TD).cell (i := 0) rfl, (TD.below hB lt_TD).cell (i := 1) rfl, (TD.below hB lt_TD).cell (i := 2) rfl, (TD.below hB lt_TD).cell (i := 3) rfl, (TD.below hB lt_TD).cell (i := 4) rfl, (TD.below hB lt_TD).cell (i := 5) rfl, (TD.below hB lt_TD).cell (i := 6) rfl, (TD.below hB lt_TD).cell (i := 7) rfl, hB⟩
  have XL : Shut (∀ (A' : Option Addr) (c' : Nat) (W : World), (W.cell? ⟨w1.heap.size, 0, none⟩ = some (.int .i64 a) ∧ W.cell? ⟨w1.heap.size, 1, none⟩ = some (.int .i64 b) ∧ W.cell? ⟨w1.heap.size, 2, none⟩ = some (.int .i64 cc) ∧ W.cell? ⟨w1.heap.size, 3, none⟩ = some (.int .i64 d) ∧ W.cell? ⟨w1.heap.size, 4, none⟩ = some (.bool v) ∧ W.cell? ⟨w1.heap.size, 5, none⟩ = some (.slice A3 n3 c3) ∧ W.cell? ⟨w3.heap.size, 0, none⟩ = some (.int .i64 SC) ∧ W.cell? ⟨w3.heap.size, 1, none⟩ = some (.slice A4 (wirN SC) c4) ∧ W.cell? ⟨w6.heap.size, 0, none⟩ = some (.int .i64 C) ∧ W.cell? ⟨w6.heap.size, 1, none⟩ = some (.int .i64 s0) ∧ W.cell? ⟨w6.heap.size, 2, none⟩ = some (.int .i64 K) ∧ W.cell? ⟨w6.heap.size, 3, none⟩ = some (.int .i64 S) ∧ W.cell? ⟨w6.heap.size, 4, none⟩ = some (.int .i64 U) ∧ W.cell? ⟨w6.heap.size, 5, none⟩ = some (.int .i64 M) ∧ W.cell? ⟨w6.heap.size, 6, none⟩ = some (.bool V) ∧ W.cell? ⟨w6.heap.size, 7, none⟩ = some (.slice A6 N6 f6) ∧ Below W7.heap.size W7 W) → Bs W A' (wirN SC) (wirL SC EL) → Calls Tryz.prog 41 #[.agg #[.int .i64 SC, .slice A4 (wirN SC) c4], .agg #[.int .i64 SC, .slice A' (wirN SC) c']] W fun e w' => (e = .returned (.bool true)) ∧ (∀ (A : Option Addr) (m : Nat) (l : List Int), Bs W A m l → Bs w' A m l) ∧ w'.cell? ⟨w1.heap.size, 0, none⟩ = some (.int .i64 a) ∧ w'.cell? ⟨w1.heap.size, 1, none⟩ = some (.int .i64 b) ∧ w'.cell? ⟨w1.heap.size, 2, none⟩ = some (.int .i64 cc) ∧ w'.cell? ⟨w1.heap.size, 3, none⟩ = some (.int .i64 d) ∧ w'.cell? ⟨w1.heap.size, 4, none⟩ = some (.bool v) ∧ w'.cell? ⟨w1.heap.size, 5, none⟩ = some (.slice A3 n3 c3) ∧ w'.cell? ⟨w3.heap.size, 0, none⟩ = some (.int .i64 SC) ∧ w'.cell? ⟨w3.heap.size, 1, none⟩ = some (.slice A4 (wirN SC) c4) ∧ w'.cell? ⟨w6.heap.size, 0, none⟩ = some (.int .i64 C) ∧ w'.cell? ⟨w6.heap.size, 1, none⟩ = some (.int .i64 s0) ∧ w'.cell? ⟨w6.heap.size, 2, none⟩ = some (.int .i64 K) ∧ w'.cell? ⟨w6.heap.size, 3, none⟩ = some (.int .i64 S) ∧ w'.cell? ⟨w6.heap.size, 4, none⟩ = some (.int .i64 U) ∧ w'.cell? ⟨w6.heap.size, 5, none⟩ = some (.int .i64 M) ∧ w'.cell? ⟨w6.heap.size, 6, none⟩ = some (.bool V) ∧ w'.cell? ⟨w6.heap.size, 7, none⟩ = some (.slice A6 N6 f6) ∧ Below W7.heap.size W7 w') := by
    refine ⟨fun A' c' W ⟨_, _, _, _, _, _, _, _, _, _, _, _, _, _, _, _, hW⟩ ha => (lwBytes_any SC SC A4 A' (wirN SC) c4 (wirN SC) c' _ _ W (q4.below hW) ha).mono ?_⟩
    rintro e w' ⟨rfl, hb⟩
    have hB := ac hW hb
    exact ⟨by simp, fun A m l hA => hA.below hb, (TC.below hB lt_TC).cell (i := 0) rfl, (TC.below hB lt_TC).cell (i := 1) rfl, (TC.below hB lt_TC).cell (i := 2) rfl, (TC.below hB lt_TC).cell (i := 3) rfl, (TC.below hB lt_TC).cell (i := 4) rfl, (TC.below hB lt_TC).cell (i := 5) rfl, (TE.below hB lt_TE).cell (i := 0) rfl, (TE.below hB lt_TE).cell (i := 1) rfl, (TD.below hB lt_TD).cell (i := 0) rfl, (TD.below hB lt_TD).cell (i := 1) rfl, (TD.below hB lt_TD).cell (i := 2) rfl, (TD.below hB lt_TD).cell (i := 3) rfl, (TD.below hB lt_TD).cell (i := 4) rfl, (TD.below hB lt_TD).cell (i := 5) rfl, (TD.below hB lt_TD).cell (i := 6) rfl, (TD.below hB lt_TD).cell (i := 7) rfl, hB⟩
  have XI : Shut (∀  (W : World), (W.cell? ⟨w1.heap.size, 0, none⟩ = some (.int .i64 a) ∧ W.cell? ⟨w1.heap.size, 1, none⟩ = some (.int .i64 b) ∧ W.cell? ⟨w1.heap.size, 2, none⟩ = some (.int .i64 cc) ∧ W.cell? ⟨w1.heap.size, 3, none⟩ = some (.int .i64 d) ∧ W.cell? ⟨w1.heap.size, 4, none⟩ = some (.bool v) ∧ W.cell? ⟨w1.heap.size, 5, none⟩ = some (.slice A3 n3 c3) ∧ W.cell? ⟨w3.heap.size, 0, none⟩ = some (.int .i64 SC) ∧ W.cell? ⟨w3.heap.size, 1, none⟩ = some (.slice A4 (wirN SC) c4) ∧ W.cell? ⟨w6.heap.size, 0, none⟩ = some (.int .i64 C) ∧ W.cell? ⟨w6.heap.size, 1, none⟩ = some (.int .i64 s0) ∧ W.cell? ⟨w6.heap.size, 2, none⟩ = some (.int .i64 K) ∧ W.cell? ⟨w6.heap.size, 3, none⟩ = some (.int .i64 S) ∧ W.cell? ⟨w6.heap.size, 4, none⟩ = some (.int .i64 U) ∧ W.cell? ⟨w6.heap.size, 5, none⟩ = some (.int .i64 M) ∧ W.cell? ⟨w6.heap.size, 6, none⟩ = some (.bool V) ∧ W.cell? ⟨w6.heap.size, 7, none⟩ = some (.slice A6 N6 f6) ∧ Below W7.heap.size W7 W) → Calls Tryz.prog 43 #[.slice Aw mw cw] W fun e w' => (e = .returned (.agg #[.int .i64 (slotC mw rw_), .int .i64 (slotV mw rw_)])) ∧ (∀ (A : Option Addr) (m : Nat) (l : List Int), Bs W A m l → Bs w' A m l) ∧ w'.cell? ⟨w1.heap.size, 0, none⟩ = some (.int .i64 a) ∧ w'.cell? ⟨w1.heap.size, 1, none⟩ = some (.int .i64 b) ∧ w'.cell? ⟨w1.heap.size, 2, none⟩ = some (.int .i64 cc) ∧ w'.cell? ⟨w1.heap.size, 3, none⟩ = some (.int .i64 d) ∧ w'.cell? ⟨w1.heap.size, 4, none⟩ = some (.bool v) ∧ w'.cell? ⟨w1.heap.size, 5, none⟩ = some (.slice A3 n3 c3) ∧ w'.cell? ⟨w3.heap.size, 0, none⟩ = some (.int .i64 SC) ∧ w'.cell? ⟨w3.heap.size, 1, none⟩ = some (.slice A4 (wirN SC) c4) ∧ w'.cell? ⟨w6.heap.size, 0, none⟩ = some (.int .i64 C) ∧ w'.cell? ⟨w6.heap.size, 1, none⟩ = some (.int .i64 s0) ∧ w'.cell? ⟨w6.heap.size, 2, none⟩ = some (.int .i64 K) ∧ w'.cell? ⟨w6.heap.size, 3, none⟩ = some (.int .i64 S) ∧ w'.cell? ⟨w6.heap.size, 4, none⟩ = some (.int .i64 U) ∧ w'.cell? ⟨w6.heap.size, 5, none⟩ = some (.int .i64 M) ∧ w'.cell? ⟨w6.heap.size, 6, none⟩ = some (.bool V) ∧ w'.cell? ⟨w6.heap.size, 7, none⟩ = some (.slice A6 N6 f6) ∧ Below W7.heap.size W7 w') := by
    refine ⟨fun  W ⟨_, _, _, _, _, _, _, _, _, _, _, _, _, _, _, _, hW⟩  => (implSlotOf_any Aw mw cw rw_ W (qw.below hW) kw).mono ?_⟩
    rintro e w' ⟨rfl, hb⟩
    have hB := ac hW hb
    exact ⟨rfl, fun A m l hA => hA.below hb, (TC.below hB lt_TC).cell (i := 0) rfl, (TC.below hB lt_TC).cell (i := 1) rfl, (TC.below hB lt_TC).cell (i := 2) rfl, (TC.below hB lt_TC).cell (i := 3) rfl, (TC.below hB lt_TC).cell (i := 4) rfl, (TC.below hB lt_TC).cell (i := 5) rfl, (TE.below hB lt_TE).cell (i := 0) rfl, (TE.below hB lt_TE).cell (i := 1) rfl, (TD.below hB lt_TD).cell (i := 0) rfl, (TD.below hB lt_TD).cell (i := 1) rfl, (TD.below hB lt_TD).cell (i := 2) rfl, (TD.below hB lt_TD).cell (i := 3) rfl, (TD.below hB lt_TD).cell (i := 4) rfl, (TD.below hB lt_TD).cell (i := 5) rfl, (TD.below hB lt_TD).cell (i := 6) rfl, (TD.below hB lt_TD).cell (i := 7) rfl, hB⟩
  have XJ : Shut (∀  (W : World), (W.cell? ⟨w1.heap.size, 0, none⟩ = some (.int .i64 a) ∧ W.cell? ⟨w1.heap.size, 1, none⟩ = some (.int .i64 b) ∧ W.cell? ⟨w1.heap.size, 2, none⟩ = some (.int .i64 cc) ∧ W.cell? ⟨w1.heap.size, 3, none⟩ = some (.int .i64 d) ∧ W.cell? ⟨w1.heap.size, 4, none⟩ = some (.bool v) ∧ W.cell? ⟨w1.heap.size, 5, none⟩ = some (.slice A3 n3 c3) ∧ W.cell? ⟨w3.heap.size, 0, none⟩ = some (.int .i64 SC) ∧ W.cell? ⟨w3.heap.size, 1, none⟩ = some (.slice A4 (wirN SC) c4) ∧ W.cell? ⟨w6.heap.size, 0, none⟩ = some (.int .i64 C) ∧ W.cell? ⟨w6.heap.size, 1, none⟩ = some (.int .i64 s0) ∧ W.cell? ⟨w6.heap.size, 2, none⟩ = some (.int .i64 K) ∧ W.cell? ⟨w6.heap.size, 3, none⟩ = some (.int .i64 S) ∧ W.cell? ⟨w6.heap.size, 4, none⟩ = some (.int .i64 U) ∧ W.cell? ⟨w6.heap.size, 5, none⟩ = some (.int .i64 M) ∧ W.cell? ⟨w6.heap.size, 6, none⟩ = some (.bool V) ∧ W.cell? ⟨w6.heap.size, 7, none⟩ = some (.slice A6 N6 f6) ∧ Below W7.heap.size W7 W) → Calls Tryz.prog 44 #[.slice Aw mw cw] W fun e w' => (e = .returned (.agg #[.int .i64 (slotC mw rw_), .int .i64 (slotV mw rw_)])) ∧ (∀ (A : Option Addr) (m : Nat) (l : List Int), Bs W A m l → Bs w' A m l) ∧ w'.cell? ⟨w1.heap.size, 0, none⟩ = some (.int .i64 a) ∧ w'.cell? ⟨w1.heap.size, 1, none⟩ = some (.int .i64 b) ∧ w'.cell? ⟨w1.heap.size, 2, none⟩ = some (.int .i64 cc) ∧ w'.cell? ⟨w1.heap.size, 3, none⟩ = some (.int .i64 d) ∧ w'.cell? ⟨w1.heap.size, 4, none⟩ = some (.bool v) ∧ w'.cell? ⟨w1.heap.size, 5, none⟩ = some (.slice A3 n3 c3) ∧ w'.cell? ⟨w3.heap.size, 0, none⟩ = some (.int .i64 SC) ∧ w'.cell? ⟨w3.heap.size, 1, none⟩ = some (.slice A4 (wirN SC) c4) ∧ w'.cell? ⟨w6.heap.size, 0, none⟩ = some (.int .i64 C) ∧ w'.cell? ⟨w6.heap.size, 1, none⟩ = some (.int .i64 s0) ∧ w'.cell? ⟨w6.heap.size, 2, none⟩ = some (.int .i64 K) ∧ w'.cell? ⟨w6.heap.size, 3, none⟩ = some (.int .i64 S) ∧ w'.cell? ⟨w6.heap.size, 4, none⟩ = some (.int .i64 U) ∧ w'.cell? ⟨w6.heap.size, 5, none⟩ = some (.int .i64 M) ∧ w'.cell? ⟨w6.heap.size, 6, none⟩ = some (.bool V) ∧ w'.cell? ⟨w6.heap.size, 7, none⟩ = some (.slice A6 N6 f6) ∧ Below W7.heap.size W7 w') := by
    refine ⟨fun  W ⟨_, _, _, _, _, _, _, _, _, _, _, _, _, _, _, _, hW⟩  => (specSlotOf_any Aw mw cw rw_ W (qw.below hW) kw).mono ?_⟩
    rintro e w' ⟨rfl, hb⟩
    have hB := ac hW hb
    exact ⟨rfl, fun A m l hA => hA.below hb, (TC.below hB lt_TC).cell (i := 0) rfl, (TC.below hB lt_TC).cell (i := 1) rfl, (TC.below hB lt_TC).cell (i := 2) rfl, (TC.below hB lt_TC).cell (i := 3) rfl, (TC.below hB lt_TC).cell (i := 4) rfl, (TC.below hB lt_TC).cell (i := 5) rfl, (TE.below hB lt_TE).cell (i := 0) rfl, (TE.below hB lt_TE).cell (i := 1) rfl, (TD.below hB lt_TD).cell (i := 0) rfl, (TD.below hB lt_TD).cell (i := 1) rfl, (TD.below hB lt_TD).cell (i := 2) rfl, (TD.below hB lt_TD).cell (i := 3) rfl, (TD.below hB lt_TD).cell (i := 4) rfl, (TD.below hB lt_TD).cell (i := 5) rfl, (TD.below hB lt_TD).cell (i := 6) rfl, (TD.below hB lt_TD).cell (i := 7) rfl, hB⟩
  have XD : Shut (∀  (W : World), (W.cell? ⟨w1.heap.size, 0, none⟩ = some (.int .i64 a) ∧ W.cell? ⟨w1.heap.size, 1, none⟩ = some (.int .i64 b) ∧ W.cell? ⟨w1.heap.size, 2, none⟩ = some (.int .i64 cc) ∧ W.cell? ⟨w1.heap.size, 3, none⟩ = some (.int .i64 d) ∧ W.cell? ⟨w1.heap.size, 4, none⟩ = some (.bool v) ∧ W.cell? ⟨w1.heap.size, 5, none⟩ = some (.slice A3 n3 c3) ∧ W.cell? ⟨w3.heap.size, 0, none⟩ = some (.int .i64 SC) ∧ W.cell? ⟨w3.heap.size, 1, none⟩ = some (.slice A4 (wirN SC) c4) ∧ W.cell? ⟨w6.heap.size, 0, none⟩ = some (.int .i64 C) ∧ W.cell? ⟨w6.heap.size, 1, none⟩ = some (.int .i64 s0) ∧ W.cell? ⟨w6.heap.size, 2, none⟩ = some (.int .i64 K) ∧ W.cell? ⟨w6.heap.size, 3, none⟩ = some (.int .i64 S) ∧ W.cell? ⟨w6.heap.size, 4, none⟩ = some (.int .i64 U) ∧ W.cell? ⟨w6.heap.size, 5, none⟩ = some (.int .i64 M) ∧ W.cell? ⟨w6.heap.size, 6, none⟩ = some (.bool V) ∧ W.cell? ⟨w6.heap.size, 7, none⟩ = some (.slice A6 N6 f6) ∧ Below W7.heap.size W7 W) → Calls Tryz.prog 45 #[.slice Ao no co, .slice Ax mx cx] W fun e w' => (∃ (A' : Option Addr) (f' : Nat), e = .returned (.agg #[.int .i64 C, .int .i64 s0, .int .i64 K, .int .i64 S, .int .i64 U, .int .i64 M, .bool V, .slice A' N6 f']) ∧ Bs w' A' N6 L6) ∧ (∀ (A : Option Addr) (m : Nat) (l : List Int), Bs W A m l → Bs w' A m l) ∧ w'.cell? ⟨w1.heap.size, 0, none⟩ = some (.int .i64 a) ∧ w'.cell? ⟨w1.heap.size, 1, none⟩ = some (.int .i64 b) ∧ w'.cell? ⟨w1.heap.size, 2, none⟩ = some (.int .i64 cc) ∧ w'.cell? ⟨w1.heap.size, 3, none⟩ = some (.int .i64 d) ∧ w'.cell? ⟨w1.heap.size, 4, none⟩ = some (.bool v) ∧ w'.cell? ⟨w1.heap.size, 5, none⟩ = some (.slice A3 n3 c3) ∧ w'.cell? ⟨w3.heap.size, 0, none⟩ = some (.int .i64 SC) ∧ w'.cell? ⟨w3.heap.size, 1, none⟩ = some (.slice A4 (wirN SC) c4) ∧ w'.cell? ⟨w6.heap.size, 0, none⟩ = some (.int .i64 C) ∧ w'.cell? ⟨w6.heap.size, 1, none⟩ = some (.int .i64 s0) ∧ w'.cell? ⟨w6.heap.size, 2, none⟩ = some (.int .i64 K) ∧ w'.cell? ⟨w6.heap.size, 3, none⟩ = some (.int .i64 S) ∧ w'.cell? ⟨w6.heap.size, 4, none⟩ = some (.int .i64 U) ∧ w'.cell? ⟨w6.heap.size, 5, none⟩ = some (.int .i64 M) ∧ w'.cell? ⟨w6.heap.size, 6, none⟩ = some (.bool V) ∧ w'.cell? ⟨w6.heap.size, 7, none⟩ = some (.slice A6 N6 f6) ∧ Below W7.heap.size W7 w') := by
    refine ⟨fun  W ⟨_, _, _, _, _, _, _, _, _, _, _, _, _, _, _, _, hW⟩  => (GD.out W (qo.below hW) (qx.below hW)).mono ?_⟩
    rintro e w' ⟨⟨A', f', rfl, Q, _⟩, hb⟩
    have hB := ac hW hb
    exact ⟨⟨A', f', rfl, Q.head.bs⟩, fun A m l hA => hA.below hb, (TC.below hB lt_TC).cell (i := 0) rfl, (TC.below hB lt_TC).cell (i := 1) rfl, (TC.below hB lt_TC).cell (i := 2) rfl, (TC.below hB lt_TC).cell (i := 3) rfl, (TC.below hB lt_TC).cell (i := 4) rfl, (TC.below hB lt_TC).cell (i := 5) rfl, (TE.below hB lt_TE).cell (i := 0) rfl, (TE.below hB lt_TE).cell (i := 1) rfl, (TD.below hB lt_TD).cell (i := 0) rfl, (TD.below hB lt_TD).cell (i := 1) rfl, (TD.below hB lt_TD).cell (i := 2) rfl, (TD.below hB lt_TD).cell (i := 3) rfl, (TD.below hB lt_TD).cell (i := 4) rfl, (TD.below hB lt_TD).cell (i := 5) rfl, (TD.below hB lt_TD).cell (i := 6) rfl, (TD.below hB lt_TD).cell (i := 7) rfl, hB⟩
  have XS : Shut (∀ (A' : Option Addr) (f' : Nat) (W : World), (W.cell? ⟨w1.heap.size, 0, none⟩ = some (.int .i64 a) ∧ W.cell? ⟨w1.heap.size, 1, none⟩ = some (.int .i64 b) ∧ W.cell? ⟨w1.heap.size, 2, none⟩ = some (.int .i64 cc) ∧ W.cell? ⟨w1.heap.size, 3, none⟩ = some (.int .i64 d) ∧ W.cell? ⟨w1.heap.size, 4, none⟩ = some (.bool v) ∧ W.cell? ⟨w1.heap.size, 5, none⟩ = some (.slice A3 n3 c3) ∧ W.cell? ⟨w3.heap.size, 0, none⟩ = some (.int .i64 SC) ∧ W.cell? ⟨w3.heap.size, 1, none⟩ = some (.slice A4 (wirN SC) c4) ∧ W.cell? ⟨w6.heap.size, 0, none⟩ = some (.int .i64 C) ∧ W.cell? ⟨w6.heap.size, 1, none⟩ = some (.int .i64 s0) ∧ W.cell? ⟨w6.heap.size, 2, none⟩ = some (.int .i64 K) ∧ W.cell? ⟨w6.heap.size, 3, none⟩ = some (.int .i64 S) ∧ W.cell? ⟨w6.heap.size, 4, none⟩ = some (.int .i64 U) ∧ W.cell? ⟨w6.heap.size, 5, none⟩ = some (.int .i64 M) ∧ W.cell? ⟨w6.heap.size, 6, none⟩ = some (.bool V) ∧ W.cell? ⟨w6.heap.size, 7, none⟩ = some (.slice A6 N6 f6) ∧ Below W7.heap.size W7 W) → Bs W A' N6 L6 → Calls Tryz.prog 46 #[.agg #[.int .i64 K, .int .i64 S, .int .i64 U, .int .i64 M, .bool V, .slice A6 N6 f6], .agg #[.int .i64 K, .int .i64 S, .int .i64 U, .int .i64 M, .bool V, .slice A' N6 f']] W fun e w' => (e = .returned (.bool true)) ∧ (∀ (A : Option Addr) (m : Nat) (l : List Int), Bs W A m l → Bs w' A m l) ∧ w'.cell? ⟨w1.heap.size, 0, none⟩ = some (.int .i64 a) ∧ w'.cell? ⟨w1.heap.size, 1, none⟩ = some (.int .i64 b) ∧ w'.cell? ⟨w1.heap.size, 2, none⟩ = some (.int .i64 cc) ∧ w'.cell? ⟨w1.heap.size, 3, none⟩ = some (.int .i64 d) ∧ w'.cell? ⟨w1.heap.size, 4, none⟩ = some (.bool v) ∧ w'.cell? ⟨w1.heap.size, 5, none⟩ = some (.slice A3 n3 c3) ∧ w'.cell? ⟨w3.heap.size, 0, none⟩ = some (.int .i64 SC) ∧ w'.cell? ⟨w3.heap.size, 1, none⟩ = some (.slice A4 (wirN SC) c4) ∧ w'.cell? ⟨w6.heap.size, 0, none⟩ = some (.int .i64 C) ∧ w'.cell? ⟨w6.heap.size, 1, none⟩ = some (.int .i64 s0) ∧ w'.cell? ⟨w6.heap.size, 2, none⟩ = some (.int .i64 K) ∧ w'.cell? ⟨w6.heap.size, 3, none⟩ = some (.int .i64 S) ∧ w'.cell? ⟨w6.heap.size, 4, none⟩ = some (.int .i64 U) ∧ w'.cell? ⟨w6.heap.size, 5, none⟩ = some (.int .i64 M) ∧ w'.cell? ⟨w6.heap.size, 6, none⟩ = some (.bool V) ∧ w'.cell? ⟨w6.heap.size, 7, none⟩ = some (.slice A6 N6 f6) ∧ Below W7.heap.size W7 w') := by
    refine ⟨fun A' f' W ⟨_, _, _, _, _, _, _, _, _, _, _, _, _, _, _, _, hW⟩ ha => (implSameCells_any K S U M V K S U M V A6 A' N6 f6 N6 f' L6 L6 W (q6.below hW) ha).mono ?_⟩
    rintro e w' ⟨rfl, hb⟩
    have hB := ac hW hb
    exact ⟨by rw [sameC_self], fun A m l hA => hA.below hb, (TC.below hB lt_TC).cell (i := 0) rfl, (TC.below hB lt_TC).cell (i := 1) rfl, (TC.below hB lt_TC).cell (i := 2) rfl, (TC.below hB lt_TC).cell (i := 3) rfl, (TC.below hB lt_TC).cell (i := 4) rfl, (TC.below hB lt_TC).cell (i := 5) rfl, (TE.below hB lt_TE).cell (i := 0) rfl, (TE.below hB lt_TE).cell (i := 1) rfl, (TD.below hB lt_TD).cell (i := 0) rfl, (TD.below hB lt_TD).cell (i := 1) rfl, (TD.below hB lt_TD).cell (i := 2) rfl, (TD.below hB lt_TD).cell (i := 3) rfl, (TD.below hB lt_TD).cell (i := 4) rfl, (TD.below hB lt_TD).cell (i := 5) rfl, (TD.below hB lt_TD).cell (i := 6) rfl, (TD.below hB lt_TD).cell (i := 7) rfl, hB⟩
  have hf0 := fun (A : Option Addr) (f : Nat) (W : World) => fld_cr0 C s0 K S U M V A N6 f W
  have hf1 := fun (A : Option Addr) (f : Nat) (W : World) => fld_cr1 C s0 K S U M V A N6 f W
  have hf2 := fun (A : Option Addr) (f : Nat) (W : World) => fld_cr2 C s0 K S U M V A N6 f W
  go_region_held3 (fun W => W.cell? ⟨w1.heap.size, 0, none⟩ = some (.int .i64 a) ∧ W.cell? ⟨w1.heap.size, 1, none⟩ = some (.int .i64 b) ∧ W.cell? ⟨w1.heap.size, 2, none⟩ = some (.int .i64 cc) ∧ W.cell? ⟨w1.heap.size, 3, none⟩ = some (.int .i64 d) ∧ W.cell? ⟨w1.heap.size, 4, none⟩ = some (.bool v) ∧ W.cell? ⟨w1.heap.size, 5, none⟩ = some (.slice A3 n3 c3) ∧ W.cell? ⟨w3.heap.size, 0, none⟩ = some (.int .i64 SC) ∧ W.cell? ⟨w3.heap.size, 1, none⟩ = some (.slice A4 (wirN SC) c4) ∧ W.cell? ⟨w6.heap.size, 0, none⟩ = some (.int .i64 C) ∧ W.cell? ⟨w6.heap.size, 1, none⟩ = some (.int .i64 s0) ∧ W.cell? ⟨w6.heap.size, 2, none⟩ = some (.int .i64 K) ∧ W.cell? ⟨w6.heap.size, 3, none⟩ = some (.int .i64 S) ∧ W.cell? ⟨w6.heap.size, 4, none⟩ = some (.int .i64 U) ∧ W.cell? ⟨w6.heap.size, 5, none⟩ = some (.int .i64 M) ∧ W.cell? ⟨w6.heap.size, 6, none⟩ = some (.bool V) ∧ W.cell? ⟨w6.heap.size, 7, none⟩ = some (.slice A6 N6 f6) ∧ Below W7.heap.size W7 W)
    (first | (exact ⟨by with_reducible assumption, by with_reducible assumption, by with_reducible assumption, by with_reducible assumption, by with_reducible assumption, by with_reducible assumption, by with_reducible assumption, by with_reducible assumption, by with_reducible assumption, by with_reducible assumption, by with_reducible assumption, by with_reducible assumption, by with_reducible assumption, by with_reducible assumption, by with_reducible assumption, by with_reducible assumption, by with_reducible assumption⟩) | (exact ⟨i0_0, i0_1, i0_2, i0_3, i0_4, i0_5, i1_0, i1_1, i2_0, i2_1, i2_2, i2_3, i2_4, i2_5, i2_6, i2_7, hWW.drew⟩) | (exact ⟨i0_0, i0_1, i0_2, i0_3, i0_4, i0_5, i1_0, i1_1, i2_0, i2_1, i2_2, i2_3, i2_4, i2_5, i2_6, i2_7, hWW⟩) | go_keep)
    (first
      | (go_at_call 42; refine (XE.out _ ?_).mono ?_; (first | with_reducible assumption | (simp [*]; done)); (try clear z0 z1 z2 z3 z4 z5 z6 z7 z8 z9 z10 z11 z12 z13 z14 z15 z16); rintro e w' ⟨⟨A', c', rfl, u1⟩, hh, z0, z1, z2, z3, z4, z5, z6, z7, z8, z9, z10, z11, z12, z13, z14, z15, z16⟩)
      | (go_at_call 41; refine (XL.out _ _ _ ?_ ?_).mono ?_; (first | with_reducible assumption | (simp [*]; done)); exact u1; (try clear z0 z1 z2 z3 z4 z5 z6 z7 z8 z9 z10 z11 z12 z13 z14 z15 z16); rintro e w' ⟨rfl, hh, z0, z1, z2, z3, z4, z5, z6, z7, z8, z9, z10, z11, z12, z13, z14, z15, z16⟩)
      | (go_at_call 43; refine (XI.out _ ?_).mono ?_; (first | with_reducible assumption | (simp [*]; done)); (try clear z0 z1 z2 z3 z4 z5 z6 z7 z8 z9 z10 z11 z12 z13 z14 z15 z16); rintro e w' ⟨rfl, hh, z0, z1, z2, z3, z4, z5, z6, z7, z8, z9, z10, z11, z12, z13, z14, z15, z16⟩)
      | (go_at_call 44; refine (XJ.out _ ?_).mono ?_; (first | with_reducible assumption | (simp [*]; done)); (try clear z0 z1 z2 z3 z4 z5 z6 z7 z8 z9 z10 z11 z12 z13 z14 z15 z16); rintro e w' ⟨rfl, hh, z0, z1, z2, z3, z4, z5, z6, z7, z8, z9, z10, z11, z12, z13, z14, z15, z16⟩)
      | (go_at_call 45; refine (XD.out _ ?_).mono ?_; (first | with_reducible assumption | (simp [*]; done)); (try clear z0 z1 z2 z3 z4 z5 z6 z7 z8 z9 z10 z11 z12 z13 z14 z15 z16); rintro e w' ⟨⟨A', f', rfl, u2⟩, hh, z0, z1, z2, z3, z4, z5, z6, z7, z8, z9, z10, z11, z12, z13, z14, z15, z16⟩)
      | (go_at_call 46; refine (XS.out _ _ _ ?_ ?_).mono ?_; (first | with_reducible assumption | (simp [*]; done)); exact u2; (try clear z0 z1 z2 z3 z4 z5 z6 z7 z8 z9 z10 z11 z12 z13 z14 z15 z16); rintro e w' ⟨rfl, hh, z0, z1, z2, z3, z4, z5, z6, z7, z8, z9, z10, z11, z12, z13, z14, z15, z16⟩))
  replace TC := TC.below z16 lt_TC
  replace TE := TE.below z16 lt_TE
  replace TD := TD.below z16 lt_TD
  replace q3 := q3.below z16
  replace qk := qk.below z16
  replace q4 := q4.below z16
  replace qo := qo.below z16
  replace qx := qx.below z16
  replace q6 := q6.below z16
  have B8 := ac B6 z16
  clear i0_0 i0_1 i0_2 i0_3 i0_4 i0_5 i1_0 i1_1 i2_0 i2_1 i2_2 i2_3 i2_4 i2_5 i2_6 i2_7 XE XL XI XJ XD XS hWW lt_TC lt_TE lt_TD B6 GE GD qw
  obtain ⟨w8, rfl⟩ : ∃ x, x = w' := ⟨_, rfl⟩
  clear z0 z1 z2 z3 z4 z5 z6 z7 z8 z9 z10 z11 z12 z13 z14 z15 z16 hf0 hf1 hf2
  by_cases hC : C = 0
  · subst hC
    obtain ⟨rfl, rfl, g0, g1, g2⟩ := HB.out rfl
    have x0 := TD.cell (i := 0) rfl
    have x1 := TD.cell (i := 1) rfl
    have x2 := TD.cell (i := 2) rfl
    have x3 := TD.cell (i := 3) rfl
    have x4 := TD.cell (i := 4) rfl
    have x5 := TD.cell (i := 5) rfl
    have x6 := TD.cell (i := 6) rfl
    have x7 := TD.cell (i := 7) rfl
    go_wp2_with fail
    refine (show Calls Tryz.prog 37 #[.slice Ao 32 co, .int .i64 s0, .agg #[.int .i64 K, .int .i64 S, .int .i64 U, .int .i64 M, .bool V, .slice A6 N6 f6]] w8 (WirAns 0 rx w8) by have t := implSealCell_any Ao 32 co ro s0 K S U M V A6 N6 f6 L6 w8 (hQ.keep B8) qo ko q6; rw [selC, if_pos ⟨rfl, g0⟩, g1, g2] at t; exact t).mono ?_
    rintro e w9 ⟨⟨A', c', rfl, Q, _⟩, b9⟩
    rw [show wirN 0 = 64 from rfl, show wirL 0 rx = rx from rfl] at Q
    rw [show wirN 0 = 64 from rfl]
    have hf1 := fld_br1 0 A' 64 c' w9
    have B9 := ac B8 b9
    clear x0 x1 x2 x3 x4 x5 x6 x7 g0 g1 g2
    go_wp2_with fail
    refine (lwSame_any A' Ax 64 c' 64 cx rx rx w9 Q.head.bs (qx.below b9)).mono ?_
    rintro e w' ⟨rfl, hw⟩
    replace hw := hw.symm
    subst hw
    rw [show decide (rx = rx) = true by simp]
    replace TC := TC.below b9 TC.lt
    replace TE := TE.below b9 TE.lt
    replace q3 := q3.below b9
    replace qk := qk.below b9
    replace q4 := q4.below b9
    clear TD qo qx q6 HB B8 b9 hf1 Q
    by_cases hE : SC = 0
    rotate_left
    · have hE2 : (SC != 0) = true := by simpa using hE
      have x0 := TE.cell (i := 0) rfl
      have x1 := TE.cell (i := 1) rfl
      clear HF HEL HR HBy q3 q4 qk
      go_wp2
      go_ret
      exact ⟨rfl, B9⟩
    subst hE
    obtain ⟨rfl, hin, hr0⟩ := HF.out rfl
    have hsb := seal_back (key := rk) hin (cellL_by (cellC_ok hr0).1.1 (cellC_ok hr0).1.2 (cellC_ok hr0).2.2.2.1.1 (cellC_ok hr0).2.2.2.1.2 HBy.out (cellC_ok hr0).2.2.2.2.1) hr0
    have hlm := cellC_lim hr0
    simp only [show wirN 0 = 64 from rfl, show ∀ l, wirL 0 l = l from fun _ => rfl] at TE q4 k4
    have CD : Shut (∀ W : World, Quar W → Sent W → Bs W Ak 32 rk → Bs W A4 64 EL → Calls Tryz.prog 40 #[.slice Ak 32 ck, .slice A4 64 c4] W fun e w' => (∃ A' f', e = .returned (.agg #[.int .i64 0, .int .i64 sl, .int .i64 a, .int .i64 b, .int .i64 cc, .int .i64 d, .bool v, .slice A' n3 f']) ∧ Bs w' A' n3 r) ∧ Below W.heap.size W w') := ⟨fun W h1 h2 h3 h4 => by
      have t := implOpenCell_any Ak 32 ck rk A4 64 c4 EL W h1 h2 h3 kk h4 k4
      have hEL := HEL.out
      have hrl := HR.out
      refine t.mono ?_
      rintro e w' ⟨⟨A', f', he, R, _⟩, hb⟩
      rw [hEL, hsb.2.1, hsb.2.2.1, hsb.2.2.2.1, hsb.2.2.2.2] at he
      rw [hEL, hsb.2.1, hsb.2.2.2.1, hsb.2.2.2.2] at R
      simp only [selI, selB, selN, selL, if_true, Bool.true_and] at he R
      rw [fK_cellL, fS_cellL a cc d v r hlm.1, fA_cellL a b d v r hlm.2.1, fM_cellL, fL_cellL, fZ_cellL, Int.toNat_natCast, hrl] at he
      rw [fZ_cellL, Int.toNat_natCast, fB_cellL, hrl] at R
      exact ⟨⟨A', f', he, R.head.bs⟩, hb⟩⟩
    have CS : Shut (∀ W : World, Bs W A4 64 EL → Calls Tryz.prog 43 #[.slice A4 64 c4] W fun e w' => e = .returned (.agg #[.int .i64 0, .int .i64 sl]) ∧ Below W.heap.size W w') := ⟨fun W h4 => by
      have t := implSlotOf_any A4 64 c4 EL W h4 k4
      rw [HEL.out, hsb.1, hsb.2.1] at t
      exact t⟩
    have x0 := TE.cell (i := 0) rfl
    have x1 := TE.cell (i := 1) rfl
    clear HF HEL hr0 hlm hsb hin
    go_wp2_with fail
    refine (CD.out _ (hQ.keep B9) (hS.keep B9) qk q4).mono ?_
    rintro e w10 ⟨⟨A9, f9, rfl, q9⟩, b10⟩
    clear x0 x1
    have z10 := b10.size
    replace TC := (TC.below b10 TC.lt).alloc (.cells #[.int .i64 0, .int .i64 sl, .int .i64 a, .int .i64 b, .int .i64 cc, .int .i64 d, .bool v, .slice A9 n3 f9] 60)
    replace TE := (TE.below b10 TE.lt).alloc (.cells #[.int .i64 0, .int .i64 sl, .int .i64 a, .int .i64 b, .int .i64 cc, .int .i64 d, .bool v, .slice A9 n3 f9] 60)
    replace q3 := (q3.below b10).alloc (.cells #[.int .i64 0, .int .i64 sl, .int .i64 a, .int .i64 b, .int .i64 cc, .int .i64 d, .bool v, .slice A9 n3 f9] 60)
    replace q4 := (q4.below b10).alloc (.cells #[.int .i64 0, .int .i64 sl, .int .i64 a, .int .i64 b, .int .i64 cc, .int .i64 d, .bool v, .slice A9 n3 f9] 60)
    replace q9 := q9.alloc (.cells #[.int .i64 0, .int .i64 sl, .int .i64 a, .int .i64 b, .int .i64 cc, .int .i64 d, .bool v, .slice A9 n3 f9] 60)
    have T9 := Stc.new w10 60 [.int .i64 0, .int .i64 sl, .int .i64 a, .int .i64 b, .int .i64 cc, .int .i64 d, .bool v, .slice A9 n3 f9] _ rfl
    have BA := ab (ac B9 b10) (.cells #[.int .i64 0, .int .i64 sl, .int .i64 a, .int .i64 b, .int .i64 cc, .int .i64 d, .bool v, .slice A9 n3 f9] 60)
    clear b10 CD qk
    go_upto_region 15 with (fail)
    generalize w10.alloc (.cells #[.int .i64 0, .int .i64 sl, .int .i64 a, .int .i64 b, .int .i64 cc, .int .i64 d, .bool v, .slice A9 n3 f9] 60) = w11 at *
    have x0 := TC.cell (i := 0) rfl
    have x1 := TC.cell (i := 1) rfl
    have x2 := TC.cell (i := 2) rfl
    have x3 := TC.cell (i := 3) rfl
    have x4 := TC.cell (i := 4) rfl
    have x5 := TC.cell (i := 5) rfl
    have y0 := TE.cell (i := 0) rfl
    have y1 := TE.cell (i := 1) rfl
    have t0 := T9.cell (i := 0) rfl
    have t1 := T9.cell (i := 1) rfl
    have t2 := T9.cell (i := 2) rfl
    have t3 := T9.cell (i := 3) rfl
    have t4 := T9.cell (i := 4) rfl
    have t5 := T9.cell (i := 5) rfl
    have t6 := T9.cell (i := 6) rfl
    have t7 := T9.cell (i := 7) rfl
    go_wp2_with fail
    refine (CS.out w11 q4).mono ?_
    rintro e w12 ⟨rfl, b12⟩
    clear x0 x1 x2 x3 x4 x5 y0 y1 t0 t1 t2 t3 t4 t5 t6 t7
    replace TC := TC.below b12 TC.lt
    replace TE := TE.below b12 TE.lt
    replace T9 := T9.below b12 T9.lt
    replace q3 := q3.below b12
    replace q9 := q9.below b12
    have BB := ac BA b12
    clear BA b12 CS q4
    have x0 := TC.cell (i := 0) rfl
    have x1 := TC.cell (i := 1) rfl
    have x2 := TC.cell (i := 2) rfl
    have x3 := TC.cell (i := 3) rfl
    have x4 := TC.cell (i := 4) rfl
    have x5 := TC.cell (i := 5) rfl
    have y0 := TE.cell (i := 0) rfl
    have y1 := TE.cell (i := 1) rfl
    have t0 := T9.cell (i := 0) rfl
    have t1 := T9.cell (i := 1) rfl
    have t2 := T9.cell (i := 2) rfl
    have t3 := T9.cell (i := 3) rfl
    have t4 := T9.cell (i := 4) rfl
    have t5 := T9.cell (i := 5) rfl
    have t6 := T9.cell (i := 6) rfl
    have t7 := T9.cell (i := 7) rfl
    go_wp2_with fail
    refine (implSameCells_any a b cc d v a b cc d v A9 A3 n3 f9 n3 c3 r r w12 q9 q3).mono ?_
    rintro e w13 ⟨rfl, b13⟩
    rw [sameC_self]
    go_wp2
    go_ret
    exact ⟨rfl, ac BB b13⟩
  · have hC2 : (C == 0) = false := by simpa using hC
    have y0 := TD.cell (i := 0) rfl
    clear qo qx q6 HB
    have B9 := B8
    obtain ⟨w9, rfl⟩ : ∃ x, x = w8 := ⟨_, rfl⟩
    clear TD
    by_cases hE : SC = 0
    rotate_left
    · have hE2 : (SC != 0) = true := by simpa using hE
      have x0 := TE.cell (i := 0) rfl
      have x1 := TE.cell (i := 1) rfl
      clear HF HEL HR HBy q3 q4 qk
      go_wp2
      go_ret
      exact ⟨rfl, B9⟩
    subst hE
    obtain ⟨rfl, hin, hr0⟩ := HF.out rfl
    have hsb := seal_back (key := rk) hin (cellL_by (cellC_ok hr0).1.1 (cellC_ok hr0).1.2 (cellC_ok hr0).2.2.2.1.1 (cellC_ok hr0).2.2.2.1.2 HBy.out (cellC_ok hr0).2.2.2.2.1) hr0
    have hlm := cellC_lim hr0
    simp only [show wirN 0 = 64 from rfl, show ∀ l, wirL 0 l = l from fun _ => rfl] at TE q4 k4
    have CD : Shut (∀ W : World, Quar W → Sent W → Bs W Ak 32 rk → Bs W A4 64 EL → Calls Tryz.prog 40 #[.slice Ak 32 ck, .slice A4 64 c4] W fun e w' => (∃ A' f', e = .returned (.agg #[.int .i64 0, .int .i64 sl, .int .i64 a, .int .i64 b, .int .i64 cc, .int .i64 d, .bool v, .slice A' n3 f']) ∧ Bs w' A' n3 r) ∧ Below W.heap.size W w') := ⟨fun W h1 h2 h3 h4 => by
      have t := implOpenCell_any Ak 32 ck rk A4 64 c4 EL W h1 h2 h3 kk h4 k4
      have hEL := HEL.out
      have hrl := HR.out
      refine t.mono ?_
      rintro e w' ⟨⟨A', f', he, R, _⟩, hb⟩
      rw [hEL, hsb.2.1, hsb.2.2.1, hsb.2.2.2.1, hsb.2.2.2.2] at he
      rw [hEL, hsb.2.1, hsb.2.2.2.1, hsb.2.2.2.2] at R
      simp only [selI, selB, selN, selL, if_true, Bool.true_and] at he R
      rw [fK_cellL, fS_cellL a cc d v r hlm.1, fA_cellL a b d v r hlm.2.1, fM_cellL, fL_cellL, fZ_cellL, Int.toNat_natCast, hrl] at he
      rw [fZ_cellL, Int.toNat_natCast, fB_cellL, hrl] at R
      exact ⟨⟨A', f', he, R.head.bs⟩, hb⟩⟩
    have CS : Shut (∀ W : World, Bs W A4 64 EL → Calls Tryz.prog 43 #[.slice A4 64 c4] W fun e w' => e = .returned (.agg #[.int .i64 0, .int .i64 sl]) ∧ Below W.heap.size W w') := ⟨fun W h4 => by
      have t := implSlotOf_any A4 64 c4 EL W h4 k4
      rw [HEL.out, hsb.1, hsb.2.1] at t
      exact t⟩
    have x0 := TE.cell (i := 0) rfl
    have x1 := TE.cell (i := 1) rfl
    clear HF HEL hr0 hlm hsb hin
    go_wp2_with fail
    refine (CD.out _ (hQ.keep B9) (hS.keep B9) qk q4).mono ?_
    rintro e w10 ⟨⟨A9, f9, rfl, q9⟩, b10⟩
    clear x0 x1
    have z10 := b10.size
    replace TC := (TC.below b10 TC.lt).alloc (.cells #[.int .i64 0, .int .i64 sl, .int .i64 a, .int .i64 b, .int .i64 cc, .int .i64 d, .bool v, .slice A9 n3 f9] 60)
    replace TE := (TE.below b10 TE.lt).alloc (.cells #[.int .i64 0, .int .i64 sl, .int .i64 a, .int .i64 b, .int .i64 cc, .int .i64 d, .bool v, .slice A9 n3 f9] 60)
    replace q3 := (q3.below b10).alloc (.cells #[.int .i64 0, .int .i64 sl, .int .i64 a, .int .i64 b, .int .i64 cc, .int .i64 d, .bool v, .slice A9 n3 f9] 60)
    replace q4 := (q4.below b10).alloc (.cells #[.int .i64 0, .int .i64 sl, .int .i64 a, .int .i64 b, .int .i64 cc, .int .i64 d, .bool v, .slice A9 n3 f9] 60)
    replace q9 := q9.alloc (.cells #[.int .i64 0, .int .i64 sl, .int .i64 a, .int .i64 b, .int .i64 cc, .int .i64 d, .bool v, .slice A9 n3 f9] 60)
    have T9 := Stc.new w10 60 [.int .i64 0, .int .i64 sl, .int .i64 a, .int .i64 b, .int .i64 cc, .int .i64 d, .bool v, .slice A9 n3 f9] _ rfl
    have BA := ab (ac B9 b10) (.cells #[.int .i64 0, .int .i64 sl, .int .i64 a, .int .i64 b, .int .i64 cc, .int .i64 d, .bool v, .slice A9 n3 f9] 60)
    clear b10 CD qk
    go_upto_region 15 with (fail)
    generalize w10.alloc (.cells #[.int .i64 0, .int .i64 sl, .int .i64 a, .int .i64 b, .int .i64 cc, .int .i64 d, .bool v, .slice A9 n3 f9] 60) = w11 at *
    have x0 := TC.cell (i := 0) rfl
    have x1 := TC.cell (i := 1) rfl
    have x2 := TC.cell (i := 2) rfl
    have x3 := TC.cell (i := 3) rfl
    have x4 := TC.cell (i := 4) rfl
    have x5 := TC.cell (i := 5) rfl
    have y0 := TE.cell (i := 0) rfl
    have y1 := TE.cell (i := 1) rfl
    have t0 := T9.cell (i := 0) rfl
    have t1 := T9.cell (i := 1) rfl
    have t2 := T9.cell (i := 2) rfl
    have t3 := T9.cell (i := 3) rfl
    have t4 := T9.cell (i := 4) rfl
    have t5 := T9.cell (i := 5) rfl
    have t6 := T9.cell (i := 6) rfl
    have t7 := T9.cell (i := 7) rfl
    go_wp2_with fail
    refine (CS.out w11 q4).mono ?_
    rintro e w12 ⟨rfl, b12⟩
    clear x0 x1 x2 x3 x4 x5 y0 y1 t0 t1 t2 t3 t4 t5 t6 t7
    replace TC := TC.below b12 TC.lt
    replace TE := TE.below b12 TE.lt
    replace T9 := T9.below b12 T9.lt
    replace q3 := q3.below b12
    replace q9 := q9.below b12
    have BB := ac BA b12
    clear BA b12 CS q4
    have x0 := TC.cell (i := 0) rfl
    have x1 := TC.cell (i := 1) rfl
    have x2 := TC.cell (i := 2) rfl
    have x3 := TC.cell (i := 3) rfl
    have x4 := TC.cell (i := 4) rfl
    have x5 := TC.cell (i := 5) rfl
    have y0 := TE.cell (i := 0) rfl
    have y1 := TE.cell (i := 1) rfl
    have t0 := T9.cell (i := 0) rfl
    have t1 := T9.cell (i := 1) rfl
    have t2 := T9.cell (i := 2) rfl
    have t3 := T9.cell (i := 3) rfl
    have t4 := T9.cell (i := 4) rfl
    have t5 := T9.cell (i := 5) rfl
    have t6 := T9.cell (i := 6) rfl
    have t7 := T9.cell (i := 7) rfl
    go_wp2_with fail
    refine (implSameCells_any a b cc d v a b cc d v A9 A3 n3 f9 n3 c3 r r w12 q9 q3).mono ?_
    rintro e w13 ⟨rfl, b13⟩
    rw [sameC_self]
    go_wp2
    go_ret
    exact ⟨rfl, ac BB b13⟩

theorem seals_all (A : Option Addr) (n c : Nat) (l : List Int) (w : World) (hQ : Quar w) (hS : Sent w) (h : Bs w A n l) (hm : n ≤ 9223372036854775807) :
    Calls Tryz.prog 5 #[.slice A n c] w fun e w' => e = .returned (.bool true) ∧ Below w.heap.size w w' := by
  by_cases hl0 : n ≤ 1048576
  · exact seals_walk A n c l w hQ hS h hl0
  · have Hd : Shut (decide (1048576 < n) = true) := ⟨by simp; omega⟩
    go_enter Tryz.func5, Tryz.ntmps5
    go_wp2_with fail
    refine (lwBig_any _ _ _ _ hm).mono ?_
    rintro e w1 ⟨rfl, rfl⟩
    rw [Hd.out]
    go_wp2
    go_ret
    exact ⟨rfl, Below.refl _ _⟩
end Go.Proofs.YtabhcolfkkfonaaGreatDoor
