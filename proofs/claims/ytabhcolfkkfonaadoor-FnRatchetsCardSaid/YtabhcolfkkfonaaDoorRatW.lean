/- The walk of FnRatchets. -/
import Derived.Test.YtabhcolfkkfonaaDoorKeyR
import Derived.Test.YtabhcolfkkfonaaDoorKeyD
import Derived.Test.YtabhcolfkkfonaaDoorTurnsC
import Derived.Deep.RegionHeld3
import Derived.Deep.CutRange
namespace Go.Proofs.YtabhcolfkkfonaaDoor
open Go.RowKit
set_option linter.unusedVariables false

theorem fld_key0 (C : Int) (A B : Option Addr) (n m c d : Nat) (w : World) : (Instr.field 27 (.agg #[.int .i64 C, .slice A n c, .slice B m d]) 0).run Tryd.prog w = .ok (.int .i64 C) w := by kernel_rfl
theorem fld_key1 (C : Int) (A B : Option Addr) (n m c d : Nat) (w : World) : (Instr.field 27 (.agg #[.int .i64 C, .slice A n c, .slice B m d]) 1).run Tryd.prog w = .ok (.slice A n c) w := by kernel_rfl
theorem fld_key2 (C : Int) (A B : Option Addr) (n m c d : Nat) (w : World) : (Instr.field 27 (.agg #[.int .i64 C, .slice A n c, .slice B m d]) 2).run Tryd.prog w = .ok (.slice B m d) w := by kernel_rfl

theorem kaK_first (s : Int) (h0 : 0 ≤ s) (h1 : s ≤ 400) : kaK (s / 16 * 16) = kaK s := by
  unfold kaK
  rw [Int.mul_ediv_cancel _ (by decide)]
theorem kaK_next (s : Int) (h0 : 0 ≤ s) (h1 : s ≤ 400) : kaK (s / 16 * 16 + 16) = kaK s + 1 := by
  unfold kaK
  omega

set_option maxRecDepth 100000 in
set_option maxHeartbeats 8000000 in
theorem ratchets_walk (A : Option Addr) (n c : Nat) (l : List Int) (w : World) (hT : Tabs w) (h : Bs w A n l) (hn : n ≤ 1048576) :
    Calls Tryd.prog 3 #[.slice A n c] w fun e w' => e = .returned (.bool true) ∧ Below w.heap.size w w' := by
  have Hd : Shut (decide (1048576 < n) = false) := ⟨by simp; omega⟩
  go_enter Tryd.func3, Tryd.ntmps3
  go_wp2_with fail
  refine (lwBig_any _ _ _ _ (by omega)).mono ?_
  rintro e w0 ⟨rfl, rfl⟩
  rw [Hd.out]
  go_wp2_with fail
  refine (drawKeyAt_any _ _ _ _ _ h hn).mono ?_
  rintro e w1 ⟨⟨A1, c1, m, r, s, rfl, p1, hm, hs0, hs1⟩, B1⟩
  go_wp2_with fail
  refine (implKeyAt_any A1 m c1 r s w1 (hT.keep B1) p1).mono ?_
  rintro e w2 ⟨⟨A5, c5, A6, c6, rfl, R2⟩, b2⟩
  have HD : Shut ((kaC m s = 0 ∧ kaN m s = 32 ∧ m = 32 ∧ 0 ≤ s ∧ s ≤ 400 ∧ kaL m s (chK r (kaK s)).1 = (chK r (kaK s)).1 ∧ kaL m s (chK r (kaK s)).2 = (chK r (kaK s)).2) ∨ (kaC m s = 3 ∧ kaN m s = 0)) := ⟨by
    unfold kaC kaN kaL
    cases hk : kaOk m s with
    | true =>
      refine .inl ?_
      have hk2 : m = 32 ∧ 0 ≤ s ∧ s ≤ 400 := by simpa [kaOk, inB] using hk
      simp [hk2]
    | false => exact .inr (by simp)⟩
  have GK := Shut.mk (fun (W : World) (hW : Below w1.heap.size w1 W) => specKeyAt_any A1 m c1 r s W (p1.below hW))
  have KI := Shut.mk (fun (t : Int) (W : World) (hW : Below w1.heap.size w1 W) => implKeyAt_any A1 m c1 r t W (hT.keep (ac B1 hW)) (p1.below hW))
  generalize hL1 : kaL m s (chK r (kaK s)).1 = L1 at *
  generalize hL2 : kaL m s (chK r (kaK s)).2 = L2 at *
  generalize hC : kaC m s = C at *
  generalize hN : kaN m s = N at *
  have HC := Shut.mk hC
  clear hL1 hL2 hC hN
  have z2 := b2.size
  have TK := Stc.new w2 27 [.int .i64 C, .slice A5 N c5, .slice A6 N c6] _ rfl
  replace R2 := R2.alloc (.cells #[.int .i64 C, .slice A5 N c5, .slice A6 N c6] 27)
  have B2 := ab (ac B1 b2) (.cells #[.int .i64 C, .slice A5 N c5, .slice A6 N c6] 27)
  have D2 := ab b2 (.cells #[.int .i64 C, .slice A5 N c5, .slice A6 N c6] 27)
  clear b2
  go_wp2_with fail
  refine (drawEpochOf_any _ _ _ _ _ (h.below B2) hn).mono ?_
  rintro e w3 ⟨⟨ep, rfl, he0, he1⟩, b3⟩
  replace TK := TK.below b3 TK.lt
  replace R2 := R2.below b3 (Nat.le_refl _)
  have B3 := ac B2 b3
  have D3 := ac D2 b3
  have z3 := b3.size
  rw [World.size_alloc] at z3
  clear b3 B2 D2
  go_wp2_with fail
  refine (drawNextChain_any _ _ _ _ _ (h.below B3) hn).mono ?_
  rintro e w4 ⟨⟨A2, c2, m2, r2, rfl, p2, hm2⟩, b4⟩
  replace TK := TK.below b4 TK.lt
  replace R2 := R2.below b4 (Nat.le_refl _)
  have B4 := ac B3 b4
  have D4 := ac D3 b4
  have z4 := b4.size
  clear b4 B3 D3
  have GN := Shut.mk (fun (W : World) (hW : Below w4.heap.size w4 W) => specNextChain_any A2 m2 c2 r2 W (p2.below hW))
  go_wp2_with fail
  refine (implNextChain_any A2 m2 c2 r2 w4 (hT.keep B4) p2).mono ?_
  rintro e w5 ⟨⟨A7, c7, A8, c8, rfl, R5⟩, b5⟩
  generalize ncL m2 (firstW r2 []) = M1 at *
  generalize ncL m2 (otherW r2 []) = M2 at *
  generalize ncC m2 = C2 at *
  generalize ncN m2 = N2 at *
  replace TK := (TK.below b5 TK.lt).alloc (.cells #[.int .i64 C2, .slice A7 N2 c7, .slice A8 N2 c8] 27)
  replace R2 := (R2.below b5 (Nat.le_refl _)).alloc (.cells #[.int .i64 C2, .slice A7 N2 c7, .slice A8 N2 c8] 27)
  replace R5 := R5.alloc (.cells #[.int .i64 C2, .slice A7 N2 c7, .slice A8 N2 c8] 27)
  have TN := Stc.new w5 27 [.int .i64 C2, .slice A7 N2 c7, .slice A8 N2 c8] _ rfl
  have D5 := ab b5 (.cells #[.int .i64 C2, .slice A7 N2 c7, .slice A8 N2 c8] 27)
  have B5 := ac B4 D5
  have E5 := ac D4 D5
  have hne : ¬ w5.heap.size = w2.heap.size := by have := b5.size; omega
  clear b5 B4 D4 z3 z4
  go_wp2_with fail
  generalize w5.alloc (.cells #[.int .i64 C2, .slice A7 N2 c7, .slice A8 N2 c8] 27) = w6 at *
  have q1 := R2.head.bs
  have q2 := R2.rest.head.bs
  have q3 := R5.head.bs
  have q4 := R5.rest.head.bs
  have lt_TK := TK.lt
  have i0_0 := TK.cell (i := 0) rfl
  have i0_1 := TK.cell (i := 1) rfl
  have i0_2 := TK.cell (i := 2) rfl
  have lt_TN := TN.lt
  have i1_0 := TN.cell (i := 0) rfl
  have i1_1 := TN.cell (i := 1) rfl
  have i1_2 := TN.cell (i := 2) rfl
  have hWW := Below.refl w6.heap.size w6
  have XK : Shut (∀  (W : World), (W.cell? ⟨w2.heap.size, 0, none⟩ = some (.int .i64 C) ∧ W.cell? ⟨w2.heap.size, 1, none⟩ = some (.slice A5 N c5) ∧ W.cell? ⟨w2.heap.size, 2, none⟩ = some (.slice A6 N c6) ∧ W.cell? ⟨w5.heap.size, 0, none⟩ = some (.int .i64 C2) ∧ W.cell? ⟨w5.heap.size, 1, none⟩ = some (.slice A7 N2 c7) ∧ W.cell? ⟨w5.heap.size, 2, none⟩ = some (.slice A8 N2 c8) ∧ Below w6.heap.size w6 W) → Calls Tryd.prog 12 #[.slice A1 m c1, .int .i64 s] W fun e w' => (∃ (A' : Option Addr) (c' : Nat) (B' : Option Addr) (d' : Nat), e = .returned (.agg #[.int .i64 C, .slice A' N c', .slice B' N d']) ∧ Bs w' A' N L1 ∧ Bs w' B' N L2) ∧ (∀ (A : Option Addr) (m : Nat) (l : List Int), Bs W A m l → Bs w' A m l) ∧ w'.cell? ⟨w2.heap.size, 0, none⟩ = some (.int .i64 C) ∧ w'.cell? ⟨w2.heap.size, 1, none⟩ = some (.slice A5 N c5) ∧ w'.cell? ⟨w2.heap.size, 2, none⟩ = some (.slice A6 N c6) ∧ w'.cell? ⟨w5.heap.size, 0, none⟩ = some (.int .i64 C2) ∧ w'.cell? ⟨w5.heap.size, 1, none⟩ = some (.slice A7 N2 c7) ∧ w'.cell? ⟨w5.heap.size, 2, none⟩ = some (.slice A8 N2 c8) ∧ Below w6.heap.size w6 w') := by
    refine ⟨fun  W ⟨_, _, _, _, _, _, hW⟩  => (GK.out W (ac E5 hW)).mono ?_⟩
    rintro e w' ⟨⟨A', c', B', d', rfl, Q⟩, hb⟩
    have hB := ac hW hb
    exact ⟨⟨A', c', B', d', rfl, Q.head.bs, Q.rest.head.bs⟩, fun A m l hA => hA.below hb, (TK.below hB lt_TK).cell (i := 0) rfl, (TK.below hB lt_TK).cell (i := 1) rfl, (TK.below hB lt_TK).cell (i := 2) rfl, (TN.below hB lt_TN).cell (i := 0) rfl, (TN.below hB lt_TN).cell (i := 1) rfl, (TN.below hB lt_TN).cell (i := 2) rfl, hB⟩
  have XN : Shut (∀  (W : World), (W.cell? ⟨w2.heap.size, 0, none⟩ = some (.int .i64 C) ∧ W.cell? ⟨w2.heap.size, 1, none⟩ = some (.slice A5 N c5) ∧ W.cell? ⟨w2.heap.size, 2, none⟩ = some (.slice A6 N c6) ∧ W.cell? ⟨w5.heap.size, 0, none⟩ = some (.int .i64 C2) ∧ W.cell? ⟨w5.heap.size, 1, none⟩ = some (.slice A7 N2 c7) ∧ W.cell? ⟨w5.heap.size, 2, none⟩ = some (.slice A8 N2 c8) ∧ Below w6.heap.size w6 W) → Calls Tryd.prog 16 #[.slice A2 m2 c2] W fun e w' => (∃ (A' : Option Addr) (c' : Nat) (B' : Option Addr) (d' : Nat), e = .returned (.agg #[.int .i64 C2, .slice A' N2 c', .slice B' N2 d']) ∧ Bs w' A' N2 M1 ∧ Bs w' B' N2 M2) ∧ (∀ (A : Option Addr) (m : Nat) (l : List Int), Bs W A m l → Bs w' A m l) ∧ w'.cell? ⟨w2.heap.size, 0, none⟩ = some (.int .i64 C) ∧ w'.cell? ⟨w2.heap.size, 1, none⟩ = some (.slice A5 N c5) ∧ w'.cell? ⟨w2.heap.size, 2, none⟩ = some (.slice A6 N c6) ∧ w'.cell? ⟨w5.heap.size, 0, none⟩ = some (.int .i64 C2) ∧ w'.cell? ⟨w5.heap.size, 1, none⟩ = some (.slice A7 N2 c7) ∧ w'.cell? ⟨w5.heap.size, 2, none⟩ = some (.slice A8 N2 c8) ∧ Below w6.heap.size w6 w') := by
    refine ⟨fun  W ⟨_, _, _, _, _, _, hW⟩  => (GN.out W (ac D5 hW)).mono ?_⟩
    rintro e w' ⟨⟨A', c', B', d', rfl, Q⟩, hb⟩
    have hB := ac hW hb
    exact ⟨⟨A', c', B', d', rfl, Q.head.bs, Q.rest.head.bs⟩, fun A m l hA => hA.below hb, (TK.below hB lt_TK).cell (i := 0) rfl, (TK.below hB lt_TK).cell (i := 1) rfl, (TK.below hB lt_TK).cell (i := 2) rfl, (TN.below hB lt_TN).cell (i := 0) rfl, (TN.below hB lt_TN).cell (i := 1) rfl, (TN.below hB lt_TN).cell (i := 2) rfl, hB⟩
  have XS1 : Shut (∀ (A' : Option Addr) (c' : Nat) (W : World), (W.cell? ⟨w2.heap.size, 0, none⟩ = some (.int .i64 C) ∧ W.cell? ⟨w2.heap.size, 1, none⟩ = some (.slice A5 N c5) ∧ W.cell? ⟨w2.heap.size, 2, none⟩ = some (.slice A6 N c6) ∧ W.cell? ⟨w5.heap.size, 0, none⟩ = some (.int .i64 C2) ∧ W.cell? ⟨w5.heap.size, 1, none⟩ = some (.slice A7 N2 c7) ∧ W.cell? ⟨w5.heap.size, 2, none⟩ = some (.slice A8 N2 c8) ∧ Below w6.heap.size w6 W) → Bs W A' N L1 → Calls Tryd.prog 13 #[.slice A5 N c5, .slice A' N c'] W fun e w' => (e = .returned (.bool true)) ∧ (∀ (A : Option Addr) (m : Nat) (l : List Int), Bs W A m l → Bs w' A m l) ∧ w'.cell? ⟨w2.heap.size, 0, none⟩ = some (.int .i64 C) ∧ w'.cell? ⟨w2.heap.size, 1, none⟩ = some (.slice A5 N c5) ∧ w'.cell? ⟨w2.heap.size, 2, none⟩ = some (.slice A6 N c6) ∧ w'.cell? ⟨w5.heap.size, 0, none⟩ = some (.int .i64 C2) ∧ w'.cell? ⟨w5.heap.size, 1, none⟩ = some (.slice A7 N2 c7) ∧ w'.cell? ⟨w5.heap.size, 2, none⟩ = some (.slice A8 N2 c8) ∧ Below w6.heap.size w6 w') := by
    refine ⟨fun A' c' W ⟨_, _, _, _, _, _, hW⟩ ha => (lwSame_any A5 A' N c5 N c' L1 L1 W (q1.below hW) ha).mono ?_⟩
    rintro e w' ⟨rfl, hb⟩
    replace hb := hb.symm
    subst hb
    have hB := hW
    exact ⟨by simp, fun A m l hA => hA, (TK.below hB lt_TK).cell (i := 0) rfl, (TK.below hB lt_TK).cell (i := 1) rfl, (TK.below hB lt_TK).cell (i := 2) rfl, (TN.below hB lt_TN).cell (i := 0) rfl, (TN.below hB lt_TN).cell (i := 1) rfl, (TN.below hB lt_TN).cell (i := 2) rfl, hB⟩
  have XS2 : Shut (∀ (A' : Option Addr) (c' : Nat) (W : World), (W.cell? ⟨w2.heap.size, 0, none⟩ = some (.int .i64 C) ∧ W.cell? ⟨w2.heap.size, 1, none⟩ = some (.slice A5 N c5) ∧ W.cell? ⟨w2.heap.size, 2, none⟩ = some (.slice A6 N c6) ∧ W.cell? ⟨w5.heap.size, 0, none⟩ = some (.int .i64 C2) ∧ W.cell? ⟨w5.heap.size, 1, none⟩ = some (.slice A7 N2 c7) ∧ W.cell? ⟨w5.heap.size, 2, none⟩ = some (.slice A8 N2 c8) ∧ Below w6.heap.size w6 W) → Bs W A' N L2 → Calls Tryd.prog 13 #[.slice A6 N c6, .slice A' N c'] W fun e w' => (e = .returned (.bool true)) ∧ (∀ (A : Option Addr) (m : Nat) (l : List Int), Bs W A m l → Bs w' A m l) ∧ w'.cell? ⟨w2.heap.size, 0, none⟩ = some (.int .i64 C) ∧ w'.cell? ⟨w2.heap.size, 1, none⟩ = some (.slice A5 N c5) ∧ w'.cell? ⟨w2.heap.size, 2, none⟩ = some (.slice A6 N c6) ∧ w'.cell? ⟨w5.heap.size, 0, none⟩ = some (.int .i64 C2) ∧ w'.cell? ⟨w5.heap.size, 1, none⟩ = some (.slice A7 N2 c7) ∧ w'.cell? ⟨w5.heap.size, 2, none⟩ = some (.slice A8 N2 c8) ∧ Below w6.heap.size w6 w') := by
    refine ⟨fun A' c' W ⟨_, _, _, _, _, _, hW⟩ ha => (lwSame_any A6 A' N c6 N c' L2 L2 W (q2.below hW) ha).mono ?_⟩
    rintro e w' ⟨rfl, hb⟩
    replace hb := hb.symm
    subst hb
    have hB := hW
    exact ⟨by simp, fun A m l hA => hA, (TK.below hB lt_TK).cell (i := 0) rfl, (TK.below hB lt_TK).cell (i := 1) rfl, (TK.below hB lt_TK).cell (i := 2) rfl, (TN.below hB lt_TN).cell (i := 0) rfl, (TN.below hB lt_TN).cell (i := 1) rfl, (TN.below hB lt_TN).cell (i := 2) rfl, hB⟩
  have XS3 : Shut (∀ (A' : Option Addr) (c' : Nat) (W : World), (W.cell? ⟨w2.heap.size, 0, none⟩ = some (.int .i64 C) ∧ W.cell? ⟨w2.heap.size, 1, none⟩ = some (.slice A5 N c5) ∧ W.cell? ⟨w2.heap.size, 2, none⟩ = some (.slice A6 N c6) ∧ W.cell? ⟨w5.heap.size, 0, none⟩ = some (.int .i64 C2) ∧ W.cell? ⟨w5.heap.size, 1, none⟩ = some (.slice A7 N2 c7) ∧ W.cell? ⟨w5.heap.size, 2, none⟩ = some (.slice A8 N2 c8) ∧ Below w6.heap.size w6 W) → Bs W A' N2 M1 → Calls Tryd.prog 13 #[.slice A7 N2 c7, .slice A' N2 c'] W fun e w' => (e = .returned (.bool true)) ∧ (∀ (A : Option Addr) (m : Nat) (l : List Int), Bs W A m l → Bs w' A m l) ∧ w'.cell? ⟨w2.heap.size, 0, none⟩ = some (.int .i64 C) ∧ w'.cell? ⟨w2.heap.size, 1, none⟩ = some (.slice A5 N c5) ∧ w'.cell? ⟨w2.heap.size, 2, none⟩ = some (.slice A6 N c6) ∧ w'.cell? ⟨w5.heap.size, 0, none⟩ = some (.int .i64 C2) ∧ w'.cell? ⟨w5.heap.size, 1, none⟩ = some (.slice A7 N2 c7) ∧ w'.cell? ⟨w5.heap.size, 2, none⟩ = some (.slice A8 N2 c8) ∧ Below w6.heap.size w6 w') := by
    refine ⟨fun A' c' W ⟨_, _, _, _, _, _, hW⟩ ha => (lwSame_any A7 A' N2 c7 N2 c' M1 M1 W (q3.below hW) ha).mono ?_⟩
    rintro e w' ⟨rfl, hb⟩
    replace hb := hb.symm
    subst hb
    have hB := hW
    exact ⟨by simp, fun A m l hA => hA, (TK.below hB lt_TK).cell (i := 0) rfl, (TK.below hB lt_TK).cell (i := 1) rfl, (TK.below hB lt_TK).cell (i := 2) rfl, (TN.below hB lt_TN).cell (i := 0) rfl, (TN.below hB lt_TN).cell (i := 1) rfl, (TN.below hB lt_TN).cell (i := 2) rfl, hB⟩
  have XS4 : Shut (∀ (A' : Option Addr) (c' : Nat) (W : World), (W.cell? ⟨w2.heap.size, 0, none⟩ = some (.int .i64 C) ∧ W.cell? ⟨w2.heap.size, 1, none⟩ = some (.slice A5 N c5) ∧ W.cell? ⟨w2.heap.size, 2, none⟩ = some (.slice A6 N c6) ∧ W.cell? ⟨w5.heap.size, 0, none⟩ = some (.int .i64 C2) ∧ W.cell? ⟨w5.heap.size, 1, none⟩ = some (.slice A7 N2 c7) ∧ W.cell? ⟨w5.heap.size, 2, none⟩ = some (.slice A8 N2 c8) ∧ Below w6.heap.size w6 W) → Bs W A' N2 M2 → Calls Tryd.prog 13 #[.slice A8 N2 c8, .slice A' N2 c'] W fun e w' => (e = .returned (.bool true)) ∧ (∀ (A : Option Addr) (m : Nat) (l : List Int), Bs W A m l → Bs w' A m l) ∧ w'.cell? ⟨w2.heap.size, 0, none⟩ = some (.int .i64 C) ∧ w'.cell? ⟨w2.heap.size, 1, none⟩ = some (.slice A5 N c5) ∧ w'.cell? ⟨w2.heap.size, 2, none⟩ = some (.slice A6 N c6) ∧ w'.cell? ⟨w5.heap.size, 0, none⟩ = some (.int .i64 C2) ∧ w'.cell? ⟨w5.heap.size, 1, none⟩ = some (.slice A7 N2 c7) ∧ w'.cell? ⟨w5.heap.size, 2, none⟩ = some (.slice A8 N2 c8) ∧ Below w6.heap.size w6 w') := by
    refine ⟨fun A' c' W ⟨_, _, _, _, _, _, hW⟩ ha => (lwSame_any A8 A' N2 c8 N2 c' M2 M2 W (q4.below hW) ha).mono ?_⟩
    rintro e w' ⟨rfl, hb⟩
    replace hb := hb.symm
    subst hb
    have hB := hW
    exact ⟨by simp, fun A m l hA => hA, (TK.below hB lt_TK).cell (i := 0) rfl, (TK.below hB lt_TK).cell (i := 1) rfl, (TK.below hB lt_TK).cell (i := 2) rfl, (TN.below hB lt_TN).cell (i := 0) rfl, (TN.below hB lt_TN).cell (i := 1) rfl, (TN.below hB lt_TN).cell (i := 2) rfl, hB⟩
  have XE1 : Shut (∀  (W : World), (W.cell? ⟨w2.heap.size, 0, none⟩ = some (.int .i64 C) ∧ W.cell? ⟨w2.heap.size, 1, none⟩ = some (.slice A5 N c5) ∧ W.cell? ⟨w2.heap.size, 2, none⟩ = some (.slice A6 N c6) ∧ W.cell? ⟨w5.heap.size, 0, none⟩ = some (.int .i64 C2) ∧ W.cell? ⟨w5.heap.size, 1, none⟩ = some (.slice A7 N2 c7) ∧ W.cell? ⟨w5.heap.size, 2, none⟩ = some (.slice A8 N2 c8) ∧ Below w6.heap.size w6 W) → Calls Tryd.prog 14 #[.int .i64 ep] W fun e w' => (e = .returned (.agg #[.int .i64 (epC ep), .int .i64 (epV ep)])) ∧ (∀ (A : Option Addr) (m : Nat) (l : List Int), Bs W A m l → Bs w' A m l) ∧ w'.cell? ⟨w2.heap.size, 0, none⟩ = some (.int .i64 C) ∧ w'.cell? ⟨w2.heap.size, 1, none⟩ = some (.slice A5 N c5) ∧ w'.cell? ⟨w2.heap.size, 2, none⟩ = some (.slice A6 N c6) ∧ w'.cell? ⟨w5.heap.size, 0, none⟩ = some (.int .i64 C2) ∧ w'.cell? ⟨w5.heap.size, 1, none⟩ = some (.slice A7 N2 c7) ∧ w'.cell? ⟨w5.heap.size, 2, none⟩ = some (.slice A8 N2 c8) ∧ Below w6.heap.size w6 w') := by
    refine ⟨fun  W ⟨_, _, _, _, _, _, hW⟩  => (implEpochOf_any ep W).mono ?_⟩
    rintro e w' ⟨rfl, hb⟩
    have hB := ac hW hb
    exact ⟨rfl, fun A m l hA => hA.below hb, (TK.below hB lt_TK).cell (i := 0) rfl, (TK.below hB lt_TK).cell (i := 1) rfl, (TK.below hB lt_TK).cell (i := 2) rfl, (TN.below hB lt_TN).cell (i := 0) rfl, (TN.below hB lt_TN).cell (i := 1) rfl, (TN.below hB lt_TN).cell (i := 2) rfl, hB⟩
  have XE2 : Shut (∀  (W : World), (W.cell? ⟨w2.heap.size, 0, none⟩ = some (.int .i64 C) ∧ W.cell? ⟨w2.heap.size, 1, none⟩ = some (.slice A5 N c5) ∧ W.cell? ⟨w2.heap.size, 2, none⟩ = some (.slice A6 N c6) ∧ W.cell? ⟨w5.heap.size, 0, none⟩ = some (.int .i64 C2) ∧ W.cell? ⟨w5.heap.size, 1, none⟩ = some (.slice A7 N2 c7) ∧ W.cell? ⟨w5.heap.size, 2, none⟩ = some (.slice A8 N2 c8) ∧ Below w6.heap.size w6 W) → Calls Tryd.prog 15 #[.int .i64 ep] W fun e w' => (e = .returned (.agg #[.int .i64 (epC ep), .int .i64 (epV ep)])) ∧ (∀ (A : Option Addr) (m : Nat) (l : List Int), Bs W A m l → Bs w' A m l) ∧ w'.cell? ⟨w2.heap.size, 0, none⟩ = some (.int .i64 C) ∧ w'.cell? ⟨w2.heap.size, 1, none⟩ = some (.slice A5 N c5) ∧ w'.cell? ⟨w2.heap.size, 2, none⟩ = some (.slice A6 N c6) ∧ w'.cell? ⟨w5.heap.size, 0, none⟩ = some (.int .i64 C2) ∧ w'.cell? ⟨w5.heap.size, 1, none⟩ = some (.slice A7 N2 c7) ∧ w'.cell? ⟨w5.heap.size, 2, none⟩ = some (.slice A8 N2 c8) ∧ Below w6.heap.size w6 w') := by
    refine ⟨fun  W ⟨_, _, _, _, _, _, hW⟩  => (specEpochOf_any ep W).mono ?_⟩
    rintro e w' ⟨rfl, hb⟩
    have hB := ac hW hb
    exact ⟨rfl, fun A m l hA => hA.below hb, (TK.below hB lt_TK).cell (i := 0) rfl, (TK.below hB lt_TK).cell (i := 1) rfl, (TK.below hB lt_TK).cell (i := 2) rfl, (TN.below hB lt_TN).cell (i := 0) rfl, (TN.below hB lt_TN).cell (i := 1) rfl, (TN.below hB lt_TN).cell (i := 2) rfl, hB⟩
  have hf00 := fun (A B : Option Addr) (c d : Nat) (W : World) => fld_key0 C A B N N c d W
  have hf01 := fun (A B : Option Addr) (c d : Nat) (W : World) => fld_key1 C A B N N c d W
  have hf02 := fun (A B : Option Addr) (c d : Nat) (W : World) => fld_key2 C A B N N c d W
  have hf10 := fun (A B : Option Addr) (c d : Nat) (W : World) => fld_key0 C2 A B N2 N2 c d W
  have hf11 := fun (A B : Option Addr) (c d : Nat) (W : World) => fld_key1 C2 A B N2 N2 c d W
  have hf12 := fun (A B : Option Addr) (c d : Nat) (W : World) => fld_key2 C2 A B N2 N2 c d W
  go_region_held3 (fun W => W.cell? ⟨w2.heap.size, 0, none⟩ = some (.int .i64 C) ∧ W.cell? ⟨w2.heap.size, 1, none⟩ = some (.slice A5 N c5) ∧ W.cell? ⟨w2.heap.size, 2, none⟩ = some (.slice A6 N c6) ∧ W.cell? ⟨w5.heap.size, 0, none⟩ = some (.int .i64 C2) ∧ W.cell? ⟨w5.heap.size, 1, none⟩ = some (.slice A7 N2 c7) ∧ W.cell? ⟨w5.heap.size, 2, none⟩ = some (.slice A8 N2 c8) ∧ Below w6.heap.size w6 W)
    (first | (exact ⟨by with_reducible assumption, by with_reducible assumption, by with_reducible assumption, by with_reducible assumption, by with_reducible assumption, by with_reducible assumption, by with_reducible assumption⟩) | (exact ⟨i0_0, i0_1, i0_2, i1_0, i1_1, i1_2, hWW.drew⟩) | (exact ⟨i0_0, i0_1, i0_2, i1_0, i1_1, i1_2, hWW⟩) | go_keep)
    (first
      | (go_at_call 12; refine (XK.out _ ?_).mono ?_; (first | with_reducible assumption | (simp [*]; done)); (try clear z0 z1 z2 z3 z4 z5 z6); rintro e w' ⟨⟨A', c', B', d', rfl, u1, u2⟩, hh, z0, z1, z2, z3, z4, z5, z6⟩)
      | (go_at_call 16; refine (XN.out _ ?_).mono ?_; (first | with_reducible assumption | (simp [*]; done)); (try clear z0 z1 z2 z3 z4 z5 z6); rintro e w' ⟨⟨A', c', B', d', rfl, u3, u4⟩, hh, z0, z1, z2, z3, z4, z5, z6⟩)
      | (go_at_call_of 13 A5; refine (XS1.out _ _ _ ?_ ?_).mono ?_; (first | with_reducible assumption | (simp [*]; done)); exact u1; (try clear z0 z1 z2 z3 z4 z5 z6); rintro e w' ⟨rfl, hh, z0, z1, z2, z3, z4, z5, z6⟩)
      | (go_at_call_of 13 A6; refine (XS2.out _ _ _ ?_ ?_).mono ?_; (first | with_reducible assumption | (simp [*]; done)); exact u2; (try clear z0 z1 z2 z3 z4 z5 z6); rintro e w' ⟨rfl, hh, z0, z1, z2, z3, z4, z5, z6⟩)
      | (go_at_call_of 13 A7; refine (XS3.out _ _ _ ?_ ?_).mono ?_; (first | with_reducible assumption | (simp [*]; done)); exact u3; (try clear z0 z1 z2 z3 z4 z5 z6); rintro e w' ⟨rfl, hh, z0, z1, z2, z3, z4, z5, z6⟩)
      | (go_at_call_of 13 A8; refine (XS4.out _ _ _ ?_ ?_).mono ?_; (first | with_reducible assumption | (simp [*]; done)); exact u4; (try clear z0 z1 z2 z3 z4 z5 z6); rintro e w' ⟨rfl, hh, z0, z1, z2, z3, z4, z5, z6⟩)
      | (go_at_call 14; refine (XE1.out _ ?_).mono ?_; (first | with_reducible assumption | (simp [*]; done)); (try clear z0 z1 z2 z3 z4 z5 z6); rintro e w' ⟨rfl, hh, z0, z1, z2, z3, z4, z5, z6⟩)
      | (go_at_call 15; refine (XE2.out _ ?_).mono ?_; (first | with_reducible assumption | (simp [*]; done)); (try clear z0 z1 z2 z3 z4 z5 z6); rintro e w' ⟨rfl, hh, z0, z1, z2, z3, z4, z5, z6⟩))
  clear q3 q4 TN R5 GK GN
  replace TK := TK.below z6 lt_TK
  replace q1 := q1.below z6
  replace q2 := q2.below z6
  have B9 := ac B5 z6
  have E9 := ac E5 z6
  clear i0_0 i0_1 i0_2 i1_0 i1_1 i1_2 XK XN XS1 XS2 XS3 XS4 XE1 XE2 hWW lt_TK lt_TN B5 E5 D5 R2
  obtain ⟨w7, rfl⟩ : ∃ x, x = w' := ⟨_, rfl⟩
  clear z0 z1 z2 z3 z4 z5 z6 hf00 hf01 hf02 hf10 hf11 hf12
  rcases HD.out with ⟨rfl, rfl, rfl, h0, h4, rfl, rfl⟩ | ⟨rfl, rfl⟩
  rotate_left
  · clear KI q1 q2 HD
    have x0 := TK.cell (i := 0) rfl
    have x1 := TK.cell (i := 1) rfl
    have x2 := TK.cell (i := 2) rfl
    go_wp2
    go_ret
    exact ⟨rfl, B9⟩
  have wq : IntKind.i64.wrap (s.tdiv 16) = s / 16 := IntWalk.i64_quo s 16 (by omega)
  have K1 := fun W hW => KI.out (s / 16 * 16) W hW
  have ko1 : kaOk 32 (s / 16 * 16) = true := by simp [kaOk, inB]; omega
  simp only [kaC, kaN, kaL, ko1, if_true, kaK_first s h0 h4] at K1
  have K1 := Shut.mk K1
  have K2 := Shut.mk (fun (ht : s / 16 * 16 + 16 ≤ 400) W hW => by
    have k2 := KI.out (s / 16 * 16 + 16) W hW
    have ko2 : kaOk 32 (s / 16 * 16 + 16) = true := by simp [kaOk, inB]; omega
    simp only [kaC, kaN, kaL, ko2, if_true, kaK_next s h0 h4, (chK_succ r (kaK s)).2] at k2
    exact k2)
  have KN := Shut.mk (fun (W : World) (hW : Below w7.heap.size w7 W) => by
    have k3 := implNextChain_any A5 32 c5 (chK r (kaK s)).1 W (hT.keep (ac B9 hW)) (q1.below hW)
    simp only [ncC, ncN, ncL, if_true] at k3
    exact k3)
  generalize (chK r (kaK s)).2 = L2 at *
  generalize (chK r (kaK s)).1 = L1 at *
  generalize otherW L1 [] = LN at *
  generalize firstW L1 [] = LF at *
  obtain ⟨t, ht⟩ : ∃ t, t = s / 16 * 16 := ⟨_, rfl⟩
  rw [← ht] at K1 K2
  have wm : IntKind.i64.wrap (s / 16 * 16) = t := by rw [ht]; exact IntWalk.i64_in _ (by omega)
  have wa : IntKind.i64.wrap (t + 16) = t + 16 := IntWalk.i64_in _ (by omega)
  have t0 : 0 ≤ t ∧ t ≤ 400 := by omega
  clear KI ko1 q1 HD HC ht
  have x0 := TK.cell (i := 0) rfl
  have x1 := TK.cell (i := 1) rfl
  have x2 := TK.cell (i := 2) rfl
  have hf := fun (A B : Option Addr) (c d : Nat) (W : World) => fld_key2 0 A B 32 32 c d W
  go_wp2_with fail
  have lt_TK := TK.lt
  have i0_0 := TK.cell (i := 0) rfl
  have i0_1 := TK.cell (i := 1) rfl
  have i0_2 := TK.cell (i := 2) rfl
  have hWW := Below.refl w7.heap.size w7
  have XK : Shut (∀  (W : World), (W.cell? ⟨w2.heap.size, 0, none⟩ = some (.int .i64 0) ∧ W.cell? ⟨w2.heap.size, 1, none⟩ = some (.slice A5 32 c5) ∧ W.cell? ⟨w2.heap.size, 2, none⟩ = some (.slice A6 32 c6) ∧ Below w7.heap.size w7 W) → Calls Tryd.prog 8 #[.slice A1 32 c1, .int .i64 t] W fun e w' => (∃ (A' : Option Addr) (c' : Nat) (B' : Option Addr) (d' : Nat), e = .returned (.agg #[.int .i64 0, .slice A' 32 c', .slice B' 32 d']) ∧ Bs w' B' 32 L2) ∧ (∀ (A : Option Addr) (m : Nat) (l : List Int), Bs W A m l → Bs w' A m l) ∧ w'.cell? ⟨w2.heap.size, 0, none⟩ = some (.int .i64 0) ∧ w'.cell? ⟨w2.heap.size, 1, none⟩ = some (.slice A5 32 c5) ∧ w'.cell? ⟨w2.heap.size, 2, none⟩ = some (.slice A6 32 c6) ∧ Below w7.heap.size w7 w') := by
    refine ⟨fun  W ⟨_, _, _, hW⟩  => (K1.out W (ac E9 hW)).mono ?_⟩
    rintro e w' ⟨⟨A', c', B', d', rfl, Q⟩, hb⟩
    have hB := ac hW hb
    exact ⟨⟨A', c', B', d', rfl, Q.rest.head.bs⟩, fun A m l hA => hA.below hb, (TK.below hB lt_TK).cell (i := 0) rfl, (TK.below hB lt_TK).cell (i := 1) rfl, (TK.below hB lt_TK).cell (i := 2) rfl, hB⟩
  have XS : Shut (∀ (A' : Option Addr) (c' : Nat) (W : World), (W.cell? ⟨w2.heap.size, 0, none⟩ = some (.int .i64 0) ∧ W.cell? ⟨w2.heap.size, 1, none⟩ = some (.slice A5 32 c5) ∧ W.cell? ⟨w2.heap.size, 2, none⟩ = some (.slice A6 32 c6) ∧ Below w7.heap.size w7 W) → Bs W A' 32 L2 → Calls Tryd.prog 13 #[.slice A' 32 c', .slice A6 32 c6] W fun e w' => (e = .returned (.bool true)) ∧ (∀ (A : Option Addr) (m : Nat) (l : List Int), Bs W A m l → Bs w' A m l) ∧ w'.cell? ⟨w2.heap.size, 0, none⟩ = some (.int .i64 0) ∧ w'.cell? ⟨w2.heap.size, 1, none⟩ = some (.slice A5 32 c5) ∧ w'.cell? ⟨w2.heap.size, 2, none⟩ = some (.slice A6 32 c6) ∧ Below w7.heap.size w7 w') := by
    refine ⟨fun A' c' W ⟨_, _, _, hW⟩ ha => (lwSame_any A' A6 32 c' 32 c6 L2 L2 W ha (q2.below hW)).mono ?_⟩
    rintro e w' ⟨rfl, hb⟩
    replace hb := hb.symm
    subst hb
    have hB := hW
    exact ⟨by simp, fun A m l hA => hA, (TK.below hB lt_TK).cell (i := 0) rfl, (TK.below hB lt_TK).cell (i := 1) rfl, (TK.below hB lt_TK).cell (i := 2) rfl, hB⟩
  clear x0 x1 x2
  go_region_held3 (fun W => W.cell? ⟨w2.heap.size, 0, none⟩ = some (.int .i64 0) ∧ W.cell? ⟨w2.heap.size, 1, none⟩ = some (.slice A5 32 c5) ∧ W.cell? ⟨w2.heap.size, 2, none⟩ = some (.slice A6 32 c6) ∧ Below w7.heap.size w7 W)
    (first | (exact ⟨by with_reducible assumption, by with_reducible assumption, by with_reducible assumption, by with_reducible assumption⟩) | (exact ⟨i0_0, i0_1, i0_2, hWW.drew⟩) | (exact ⟨i0_0, i0_1, i0_2, hWW⟩) | go_keep)
    (first
      | (go_at_call 8; refine (XK.out _ ?_).mono ?_; (first | with_reducible assumption | (simp [*]; done)); (try clear z0 z1 z2 z3); rintro e w' ⟨⟨A', c', B', d', rfl, u2⟩, hh, z0, z1, z2, z3⟩)
      | (go_at_call 13; refine (XS.out _ _ _ ?_ ?_).mono ?_; (first | with_reducible assumption | (simp [*]; done)); exact u2; (try clear z0 z1 z2 z3); rintro e w' ⟨rfl, hh, z0, z1, z2, z3⟩))
  replace TK := TK.below z3 lt_TK
  have BB := ac B9 z3
  have EE := ac E9 z3
  clear XK XS hWW lt_TK B9 E9 i0_0 i0_1 i0_2
  obtain ⟨w8, rfl⟩ : ∃ x, x = w' := ⟨_, rfl⟩
  have KM := Shut.mk (fun (W : World) (hW : Below w8.heap.size w8 W) => KN.out W (ac z3 hW))
  clear z0 z1 z2 z3 KN q2 K1
  have x0 := TK.cell (i := 0) rfl
  have x1 := TK.cell (i := 1) rfl
  have x2 := TK.cell (i := 2) rfl
  by_cases hb : 400 < t + 16
  · clear K2 KM
    go_wp2
    go_quiet (fail)
    go_wp2
    go_ret
    exact ⟨rfl, ad BB _⟩
  · have hb2 : t + 16 ≤ 400 := by omega
    have hbd : decide (400 < t + 16) = false := by simpa using hb
    have hbe : decide (t + 16 > 400) = false := by simpa using hb
    go_wp2_with fail
    have lt_TK := TK.lt
    have i0_0 := TK.cell (i := 0) rfl
    have i0_1 := TK.cell (i := 1) rfl
    have i0_2 := TK.cell (i := 2) rfl
    have hWW := Below.refl w8.heap.size w8
    have XK : Shut (∀  (W : World), (W.cell? ⟨w2.heap.size, 0, none⟩ = some (.int .i64 0) ∧ W.cell? ⟨w2.heap.size, 1, none⟩ = some (.slice A5 32 c5) ∧ W.cell? ⟨w2.heap.size, 2, none⟩ = some (.slice A6 32 c6) ∧ Below w8.heap.size w8 W) → Calls Tryd.prog 8 #[.slice A1 32 c1, .int .i64 (t + 16)] W fun e w' => (∃ (A' : Option Addr) (c' : Nat) (B' : Option Addr) (d' : Nat), e = .returned (.agg #[.int .i64 0, .slice A' 32 c', .slice B' 32 d']) ∧ Bs w' B' 32 LN) ∧ (∀ (A : Option Addr) (m : Nat) (l : List Int), Bs W A m l → Bs w' A m l) ∧ w'.cell? ⟨w2.heap.size, 0, none⟩ = some (.int .i64 0) ∧ w'.cell? ⟨w2.heap.size, 1, none⟩ = some (.slice A5 32 c5) ∧ w'.cell? ⟨w2.heap.size, 2, none⟩ = some (.slice A6 32 c6) ∧ Below w8.heap.size w8 w') := by
      refine ⟨fun  W ⟨_, _, _, hW⟩  => (K2.out hb2 W (ac EE hW)).mono ?_⟩
      rintro e w' ⟨⟨A', c', B', d', rfl, Q⟩, hb⟩
      have hB := ac hW hb
      exact ⟨⟨A', c', B', d', rfl, Q.rest.head.bs⟩, fun A m l hA => hA.below hb, (TK.below hB lt_TK).cell (i := 0) rfl, (TK.below hB lt_TK).cell (i := 1) rfl, (TK.below hB lt_TK).cell (i := 2) rfl, hB⟩
    have XN : Shut (∀  (W : World), (W.cell? ⟨w2.heap.size, 0, none⟩ = some (.int .i64 0) ∧ W.cell? ⟨w2.heap.size, 1, none⟩ = some (.slice A5 32 c5) ∧ W.cell? ⟨w2.heap.size, 2, none⟩ = some (.slice A6 32 c6) ∧ Below w8.heap.size w8 W) → Calls Tryd.prog 11 #[.slice A5 32 c5] W fun e w' => (∃ (A' : Option Addr) (c' : Nat) (B' : Option Addr) (d' : Nat), e = .returned (.agg #[.int .i64 0, .slice A' 32 c', .slice B' 32 d']) ∧ Bs w' B' 32 LN) ∧ (∀ (A : Option Addr) (m : Nat) (l : List Int), Bs W A m l → Bs w' A m l) ∧ w'.cell? ⟨w2.heap.size, 0, none⟩ = some (.int .i64 0) ∧ w'.cell? ⟨w2.heap.size, 1, none⟩ = some (.slice A5 32 c5) ∧ w'.cell? ⟨w2.heap.size, 2, none⟩ = some (.slice A6 32 c6) ∧ Below w8.heap.size w8 w') := by
      refine ⟨fun  W ⟨_, _, _, hW⟩  => (KM.out W hW).mono ?_⟩
      rintro e w' ⟨⟨A', c', B', d', rfl, Q⟩, hb⟩
      have hB := ac hW hb
      exact ⟨⟨A', c', B', d', rfl, Q.rest.head.bs⟩, fun A m l hA => hA.below hb, (TK.below hB lt_TK).cell (i := 0) rfl, (TK.below hB lt_TK).cell (i := 1) rfl, (TK.below hB lt_TK).cell (i := 2) rfl, hB⟩
    have XS : Shut (∀ (A' : Option Addr) (c' : Nat) (B' : Option Addr) (d' : Nat) (W : World), (W.cell? ⟨w2.heap.size, 0, none⟩ = some (.int .i64 0) ∧ W.cell? ⟨w2.heap.size, 1, none⟩ = some (.slice A5 32 c5) ∧ W.cell? ⟨w2.heap.size, 2, none⟩ = some (.slice A6 32 c6) ∧ Below w8.heap.size w8 W) → Bs W A' 32 LN → Bs W B' 32 LN → Calls Tryd.prog 13 #[.slice A' 32 c', .slice B' 32 d'] W fun e w' => (e = .returned (.bool true)) ∧ (∀ (A : Option Addr) (m : Nat) (l : List Int), Bs W A m l → Bs w' A m l) ∧ w'.cell? ⟨w2.heap.size, 0, none⟩ = some (.int .i64 0) ∧ w'.cell? ⟨w2.heap.size, 1, none⟩ = some (.slice A5 32 c5) ∧ w'.cell? ⟨w2.heap.size, 2, none⟩ = some (.slice A6 32 c6) ∧ Below w8.heap.size w8 w') := by
      refine ⟨fun A' c' B' d' W ⟨_, _, _, hW⟩ ha hb => (lwSame_any A' B' 32 c' 32 d' LN LN W ha hb).mono ?_⟩
      rintro e w' ⟨rfl, hb⟩
      replace hb := hb.symm
      subst hb
      have hB := hW
      exact ⟨by simp, fun A m l hA => hA, (TK.below hB lt_TK).cell (i := 0) rfl, (TK.below hB lt_TK).cell (i := 1) rfl, (TK.below hB lt_TK).cell (i := 2) rfl, hB⟩
    clear x0 x1 x2
    go_region_held3 (fun W => W.cell? ⟨w2.heap.size, 0, none⟩ = some (.int .i64 0) ∧ W.cell? ⟨w2.heap.size, 1, none⟩ = some (.slice A5 32 c5) ∧ W.cell? ⟨w2.heap.size, 2, none⟩ = some (.slice A6 32 c6) ∧ Below w8.heap.size w8 W)
      (first | (exact ⟨by with_reducible assumption, by with_reducible assumption, by with_reducible assumption, by with_reducible assumption⟩) | (exact ⟨i0_0, i0_1, i0_2, hWW.drew⟩) | (exact ⟨i0_0, i0_1, i0_2, hWW⟩) | go_keep)
      (first
        | (go_at_call 8; refine (XK.out _ ?_).mono ?_; (first | with_reducible assumption | (simp [*]; done)); (try clear z0 z1 z2 z3); rintro e w' ⟨⟨A', c', B', d', rfl, u1⟩, hk, z0, z1, z2, z3⟩)
        | (go_at_call 11; refine (XN.out _ ?_).mono ?_; (first | with_reducible assumption | (simp [*]; done)); (try clear z0 z1 z2 z3); rintro e w' ⟨⟨A'', c'', B'', d'', rfl, u2⟩, hm, z0, z1, z2, z3⟩)
        | (go_at_call 13; refine (XS.out _ _ _ _ _ ?_ ?_ ?_).mono ?_; (first | with_reducible assumption | (simp [*]; done)); (first | exact u1 | exact hm _ _ _ u1); (first | exact u2 | exact hk _ _ _ u2); (try clear z0 z1 z2 z3); rintro e w' ⟨rfl, hh, z0, z1, z2, z3⟩))
    all_goals
      go_wp2
      go_ret
      exact ⟨rfl, ac BB z3⟩

theorem ratchets_all (A : Option Addr) (n c : Nat) (l : List Int) (w : World) (hT : Tabs w) (h : Bs w A n l) (hm : n ≤ 9223372036854775807) :
    Calls Tryd.prog 3 #[.slice A n c] w fun e w' => e = .returned (.bool true) ∧ Below w.heap.size w w' := by
  by_cases hl0 : n ≤ 1048576
  · exact ratchets_walk A n c l w hT h hl0
  · have Hd : Shut (decide (1048576 < n) = true) := ⟨by simp; omega⟩
    go_enter Tryd.func3, Tryd.ntmps3
    go_wp2_with fail
    refine (lwBig_any _ _ _ _ hm).mono ?_
    rintro e w1 ⟨rfl, rfl⟩
    rw [Hd.out]
    go_wp2
    go_ret
    exact ⟨rfl, Below.refl _ _⟩
end Go.Proofs.YtabhcolfkkfonaaDoor
