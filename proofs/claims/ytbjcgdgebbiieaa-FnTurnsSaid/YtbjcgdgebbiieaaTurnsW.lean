/- The walk of FnTurns. -/
import Derived.Test.YtbjcgdgebbiieaaTurnsC
import Derived.Deep.RegionHeld3
namespace Go.Proofs.Ytbjcgdgebbiieaa
open Go.RowKit

set_option maxHeartbeats 1000000 in
theorem turns_walk (A : Option Addr) (n c : Nat) (l : List Int) (w : World) (h : Bs w A n l) (hn : n ≤ 1048576) :
    Calls Try.prog 4 #[.slice A n c] w fun e w' => e = .returned (.bool true) ∧ Below w.heap.size w w' := by
  have hd : decide (1048576 < n) = false := by simpa using hn
  have Hd := Lib.hid hd
  clear hd
  go_enter Try.func4, Try.ntmps4
  go_wp2_with fail
  refine (lwBig_any _ _ _ _ (by omega)).mono ?_
  rintro e w0 ⟨rfl, rfl⟩
  rw [Hd.out]
  go_wp2_with fail
  refine (drawTurnWord_any _ _ _ _ _ h hn).mono ?_
  rintro e w1 ⟨⟨x, b, rfl⟩, b1⟩
  go_wp2_with fail
  refine (implTurnWord_any _ _ _).mono ?_
  rintro e w2 ⟨rfl, b2⟩
  obtain ⟨T, hT⟩ : ∃ T, T = tcode x b := ⟨_, rfl⟩
  obtain ⟨V, hV⟩ : ∃ V, V = tval x b := ⟨_, rfl⟩
  rw [← hT, ← hV]
  have HT := Lib.hid hT
  have HV := Lib.hid hV
  clear hT hV
  have B2 := ac b1 b2
  have t2 := Two.new w2 31 (.int .i64 T) (.int .i64 V)
  go_wp2_with fail
  refine (drawXorBytes_any _ _ _ _ _ (h.below (ab B2 _)) hn).mono ?_
  rintro e w3 ⟨⟨A1, c1, n1, r1, A2, c2, n2, r2, rfl, o1, o2, hn1, hn2⟩, b3⟩
  have B3 := ac (ab B2 _) b3
  have t3 := t2.below b3 (by simp)
  go_wp2_with fail
  refine (implXorBytes_any _ _ _ _ _ _ _ _ _ o1.bs o2.bs (by omega) (by omega)).mono ?_
  rintro e w4 ⟨⟨A3, c3, rfl, o3⟩, b4⟩
  have B4 := ac B3 b4
  have s3 := b3.size
  have s4 := b4.size
  simp only [World.size_alloc] at s3
  have t4 := t3.below b4 (by omega)
  obtain ⟨N, hN⟩ : ∃ N, N = xlen n1 n2 := ⟨_, rfl⟩
  obtain ⟨C, hC⟩ : ∃ C, C = xcode n1 n2 := ⟨_, rfl⟩
  obtain ⟨L, hL⟩ : ∃ L, L = xbytes r1 r2 := ⟨_, rfl⟩
  rw [← hN, ← hC]
  rw [← hN, ← hL] at o3
  have HN := Lib.hid hN
  have HC := Lib.hid hC
  have HL := Lib.hid hL
  clear hN hC hL
  have u4 := Two.new w4 27 (.int .i64 C) (.slice A3 N c3)
  go_wp2_with fail
  refine (drawSameBytes_any _ _ _ _ _ (h.below (ab B4 _)) hn).mono ?_
  rintro e w5 ⟨⟨A5, c5, n5, r5, A6, c6, n6, r6, rfl, o5, o6, hn5, hn6⟩, b5⟩
  have B5 := ac (ab B4 _) b5
  have s5 := b5.size
  simp only [World.size_alloc] at s5
  have t5 := (t4.alloc (.cells #[.int .i64 C, .slice A3 N c3] 27) (by omega)).below b5 (by simp; omega)
  have u5 := u4.below b5 (by simp)
  have p1 := ((o1.bs.below b4).alloc (.cells #[.int .i64 C, .slice A3 N c3] 27)).below b5
  have p2 := ((o2.bs.below b4).alloc (.cells #[.int .i64 C, .slice A3 N c3] 27)).below b5
  have p3 := ((o3.bs).alloc (.cells #[.int .i64 C, .slice A3 N c3] 27)).below b5
  have p5 := o5.bs
  have p6 := o6.bs
  obtain ⟨x0, x1, _, _⟩ := t5.cells
  obtain ⟨y0, y1, _, _⟩ := u5.cells
  have G30 : Hid (∀ W, (W.cell? ⟨w2.heap.size, 0, none⟩ = some (.int .i64 T) ∧ W.cell? ⟨w2.heap.size, 1, none⟩ = some (.int .i64 V) ∧ W.cell? ⟨w4.heap.size, 0, none⟩ = some (.int .i64 C) ∧ W.cell? ⟨w4.heap.size, 1, none⟩ = some (.slice A3 N c3) ∧ Below w5.heap.size w5 W) → Calls Try.prog 31 #[.int .i64 x, .int .i64 b] W fun e w' => e = .returned (.agg #[.int .i64 T, .int .i64 V]) ∧
      w'.cell? ⟨w2.heap.size, 0, none⟩ = some (.int .i64 T) ∧ w'.cell? ⟨w2.heap.size, 1, none⟩ = some (.int .i64 V) ∧ w'.cell? ⟨w4.heap.size, 0, none⟩ = some (.int .i64 C) ∧ w'.cell? ⟨w4.heap.size, 1, none⟩ = some (.slice A3 N c3) ∧ Below w5.heap.size w5 w') := fun W ⟨_, _, _, _, hW⟩ => (specTurnWord_any x b W).mono fun e w' ⟨he, hb⟩ => by
    have hB := ac hW hb
    exact ⟨by rw [HT.out, HV.out]; exact he, (t5.below hB (by omega)).cells.1, (t5.below hB (by omega)).cells.2.1, (u5.below hB (by omega)).cells.1, (u5.below hB (by omega)).cells.2.1, hB⟩
  have G31 : Hid (∀ W, (W.cell? ⟨w2.heap.size, 0, none⟩ = some (.int .i64 T) ∧ W.cell? ⟨w2.heap.size, 1, none⟩ = some (.int .i64 V) ∧ W.cell? ⟨w4.heap.size, 0, none⟩ = some (.int .i64 C) ∧ W.cell? ⟨w4.heap.size, 1, none⟩ = some (.slice A3 N c3) ∧ Below w5.heap.size w5 W) → Calls Try.prog 32 #[.slice A1 n1 c1, .slice A2 n2 c2] W fun e w' => (∃ A' c', e = .returned (.agg #[.int .i64 C, .slice A' N c']) ∧ Bs w' A' N L) ∧
      w'.cell? ⟨w2.heap.size, 0, none⟩ = some (.int .i64 T) ∧ w'.cell? ⟨w2.heap.size, 1, none⟩ = some (.int .i64 V) ∧ w'.cell? ⟨w4.heap.size, 0, none⟩ = some (.int .i64 C) ∧ w'.cell? ⟨w4.heap.size, 1, none⟩ = some (.slice A3 N c3) ∧ Below w5.heap.size w5 w') := fun W ⟨_, _, _, _, hW⟩ => (specXorBytes_any A1 A2 n1 n2 c1 c2 r1 r2 W (p1.below hW) (p2.below hW) (by omega) (by omega)).mono fun e w' ⟨⟨A', c', he, ho⟩, hb⟩ => by
    have hB := ac hW hb
    exact ⟨⟨A', c', by rw [HC.out, HN.out]; exact he, by rw [HN.out, HL.out]; exact ho.bs⟩, (t5.below hB (by omega)).cells.1, (t5.below hB (by omega)).cells.2.1, (u5.below hB (by omega)).cells.1, (u5.below hB (by omega)).cells.2.1, hB⟩
  have G19 : Hid (∀ W A' c', (W.cell? ⟨w2.heap.size, 0, none⟩ = some (.int .i64 T) ∧ W.cell? ⟨w2.heap.size, 1, none⟩ = some (.int .i64 V) ∧ W.cell? ⟨w4.heap.size, 0, none⟩ = some (.int .i64 C) ∧ W.cell? ⟨w4.heap.size, 1, none⟩ = some (.slice A3 N c3) ∧ Below w5.heap.size w5 W) → Bs W A' N L → Calls Try.prog 20 #[.agg #[.int .i64 C, .slice A3 N c3], .agg #[.int .i64 C, .slice A' N c']] W fun e w' => e = .returned (.bool true) ∧
      w'.cell? ⟨w2.heap.size, 0, none⟩ = some (.int .i64 T) ∧ w'.cell? ⟨w2.heap.size, 1, none⟩ = some (.int .i64 V) ∧ w'.cell? ⟨w4.heap.size, 0, none⟩ = some (.int .i64 C) ∧ w'.cell? ⟨w4.heap.size, 1, none⟩ = some (.slice A3 N c3) ∧ Below w5.heap.size w5 w') := fun W A' c' ⟨_, _, _, _, hW⟩ ho => (lwBytes_any C C A3 A' N c3 N c' L L W (p3.below hW) ho).mono fun e w' ⟨he, hb⟩ => by
    have hB := ac hW hb
    exact ⟨by rw [he]; simp, (t5.below hB (by omega)).cells.1, (t5.below hB (by omega)).cells.2.1, (u5.below hB (by omega)).cells.1, (u5.below hB (by omega)).cells.2.1, hB⟩
  have G32 : Hid (∀ W, (W.cell? ⟨w2.heap.size, 0, none⟩ = some (.int .i64 T) ∧ W.cell? ⟨w2.heap.size, 1, none⟩ = some (.int .i64 V) ∧ W.cell? ⟨w4.heap.size, 0, none⟩ = some (.int .i64 C) ∧ W.cell? ⟨w4.heap.size, 1, none⟩ = some (.slice A3 N c3) ∧ Below w5.heap.size w5 W) → Calls Try.prog 33 #[.slice A5 n5 c5, .slice A6 n6 c6] W fun e w' => e = .returned (.bool (decide (r5 = r6))) ∧ W = w') := fun W ⟨_, _, _, _, hW⟩ => implSameBytes_any A5 A6 n5 c5 n6 c6 r5 r6 W (p5.below hW) (p6.below hW)
  have G24 : Hid (∀ W, (W.cell? ⟨w2.heap.size, 0, none⟩ = some (.int .i64 T) ∧ W.cell? ⟨w2.heap.size, 1, none⟩ = some (.int .i64 V) ∧ W.cell? ⟨w4.heap.size, 0, none⟩ = some (.int .i64 C) ∧ W.cell? ⟨w4.heap.size, 1, none⟩ = some (.slice A3 N c3) ∧ Below w5.heap.size w5 W) → Calls Try.prog 25 #[.slice A5 n5 c5, .slice A6 n6 c6] W fun e w' => e = .returned (.bool (decide (r5 = r6))) ∧ W = w') := fun W ⟨_, _, _, _, hW⟩ => lwSame_any A5 A6 n5 c5 n6 c6 r5 r6 W (p5.below hW) (p6.below hW)
  have hW5 := Below.refl w5.heap.size w5
  go_wp2_with fail
  go_region_held3 (fun W => W.cell? ⟨w2.heap.size, 0, none⟩ = some (.int .i64 T) ∧ W.cell? ⟨w2.heap.size, 1, none⟩ = some (.int .i64 V) ∧ W.cell? ⟨w4.heap.size, 0, none⟩ = some (.int .i64 C) ∧ W.cell? ⟨w4.heap.size, 1, none⟩ = some (.slice A3 N c3) ∧ Below w5.heap.size w5 W)
    (first | (exact ⟨by assumption, by assumption, by assumption, by assumption, by assumption⟩) | (exact ⟨x0, x1, y0, y1, hW5.drew⟩) | go_keep)
    (first
      | (go_at_call 31; refine (G30.out _ ?_).mono ?_; (first | assumption | (simp [*]; done)); rintro e w' ⟨rfl, z0, z1, z2, z3, z4⟩)
      | (go_at_call 32; refine (G31.out _ ?_).mono ?_; (first | assumption | (simp [*]; done)); rintro e w' ⟨⟨A', c', rfl, ho⟩, z0, z1, z2, z3, z4⟩)
      | (go_at_call 20; refine (G19.out _ _ _ ?_ ?_).mono ?_; (first | assumption | (simp [*]; done)); assumption; rintro e w' ⟨rfl, z0, z1, z2, z3, z4⟩)
      | (go_at_call 33; refine (G32.out _ ?_).mono ?_; (first | assumption | (simp [*]; done)); rintro e w' ⟨rfl, rfl⟩)
      | (go_at_call 25; refine (G24.out _ ?_).mono ?_; (first | assumption | (simp [*]; done)); rintro e w' ⟨rfl, rfl⟩))
  have B' := ac B5 z4
  clear G30 G31 G19 G32 G24 x0 x1 y0 y1
  have G26 : Hid (T = 0 → (0 ≤ b ∧ b ≤ 31) ∧ ∀ W, Calls Try.prog 27 #[.int .i64 V, .int .i64 (-b % 32)] W fun e w' => e = .returned (.agg #[.int .i64 0, .int .i64 x]) ∧ Below W.heap.size W w') := by
    intro hT0
    have hok : (wordB x && inB b 0 31) = true := by
      have := HT.out
      unfold tcode at this
      by_cases hh : (wordB x && inB b 0 31) = true
      · exact hh
      · rw [if_neg hh] at this; omega
    have hx : 0 ≤ x ∧ x ≤ 4294967295 := by
      have : wordB x = true := by simp at hok; exact hok.1
      simpa [wordB] using this
    have hb : 0 ≤ b ∧ b ≤ 31 := by
      have : inB b 0 31 = true := by simp at hok; exact hok.2
      simpa [inB] using this
    refine ⟨hb, fun W => (implTurnWord_any V (-b % 32) W).mono fun e w' ⟨he, hbel⟩ => ⟨?_, hbel⟩⟩
    have hV : V = turn x b := by rw [HV.out]; unfold tval; rw [if_pos hok]
    have hbd := turn_bd x b hx.1 hx.2 hb.1 hb.2
    have hok2 : (wordB (turn x b) && inB ((32 - b) % 32) 0 31) = true := by
      have h1 : wordB (turn x b) = true := by simp [wordB]; exact hbd
      have h2 : inB ((32 - b) % 32) 0 31 = true := by simp [inB]; omega
      rw [h1, h2]; rfl
    have hneg : -b % 32 = (32 - b) % 32 := by omega
    rw [he, hV, hneg]
    unfold tcode tval
    rw [if_pos hok2, if_pos hok2, turn_back x b hx.1 hx.2 hb.1 hb.2]
  have G28 : Hid (C = 0 → N = n1 ∧ ∀ W, Below w5.heap.size w5 W → Calls Try.prog 29 #[.slice A3 N c3, .slice A2 n2 c2] W fun e w' => (∃ A' c', e = .returned (.agg #[.int .i64 0, .slice A' n1 c']) ∧ Bs w' A' n1 r1) ∧ Below W.heap.size W w') := by
    intro hC0
    have hok : n1 = n2 ∧ n1 ≤ 1000 := by
      have := HC.out
      unfold xcode at this
      by_cases hh : n1 = n2 ∧ n1 ≤ 1000
      · exact hh
      · rw [if_neg hh] at this; omega
    have hN : N = n1 := by rw [HN.out]; unfold xlen; rw [if_pos hok]
    have hlen : r1.length = r2.length := by rw [o1.len, o2.len]; exact hok.1
    have hL : L = xorL r1 r2 := by rw [HL.out]; unfold xbytes; rw [if_pos ⟨hlen, by rw [o1.len]; exact hok.2⟩]
    refine ⟨hN, fun W hW => (implXorBytes_any A3 A2 N n2 c3 c2 L r2 W (p3.below hW) (p2.below hW) (by omega) (by omega)).mono fun e w' ⟨⟨A', c', he, ho⟩, hbel⟩ => ?_⟩
    have h1 : xcode N n2 = 0 := by unfold xcode; rw [if_pos (by omega)]
    have h2 : xlen N n2 = n1 := by unfold xlen; rw [if_pos (by omega)]; exact hN
    have h3 : xbytes L r2 = r1 := by
      unfold xbytes
      rw [hL, if_pos ⟨by rw [xorL_len _ _ hlen]; exact hlen, by rw [xorL_len _ _ hlen, o1.len]; exact hok.2⟩]
      exact xorL_back r1 r2 o1.byte o2.byte hlen
    rw [h1, h2] at he
    rw [h2, h3] at ho
    exact ⟨⟨A', c', he, ho.bs⟩, hbel⟩
  by_cases hT0 : T = 0
  · obtain ⟨⟨hb0, hb1⟩, g26⟩ := G26.out hT0
    subst hT0
    have Gt := Lib.hid g26
    clear g26 G26
    go_wp2_with fail
    refine (Gt.out _).mono ?_
    rintro e w6 ⟨rfl, b6⟩
    have Z4 := ac z4 b6
    have ZB : Below w5.heap.size w5 w6 := Z4
    have ZW : Below w.heap.size w w6 := ac B' b6
    have q1 := (u5.below Z4 (by omega)).cells
    obtain ⟨q10, q11, _, _⟩ := q1
    clear t2 t3 t4 t5
    by_cases hC0 : C = 0
    · obtain ⟨hN1, g28⟩ := G28.out hC0
      subst hC0
      subst hN1
      have Gx := Lib.hid g28
      clear g28 G28
      go_wp2_with fail
      refine (Gx.out _ ZB).mono ?_
      rintro e w7 ⟨⟨A7, c7, rfl, ho7⟩, b7⟩
      have hfd := fld_bytes 0 A7 N c7 w7
      obtain ⟨v0, v1, _, _⟩ := (u5.below (ac ZB b7) (by omega)).cells
      go_wp2_with fail
      refine (lwSame_any _ _ _ _ _ _ _ _ _ ho7 (p1.below (ac ZB b7))).mono ?_
      rintro e w8 ⟨rfl, rfl⟩
      go_wp2
      go_ret
      exact ⟨by simp, ac ZW b7⟩
    · have hcb : (C != 0) = true := by simpa using hC0
      go_wp2
      go_ret
      exact ⟨rfl, ZW⟩
  · have hTb : (T == 0) = false := by simpa using hT0
    have ZB : Below w5.heap.size w5 w' := z4
    have ZW : Below w.heap.size w w' := B'
    clear G26
    by_cases hC0 : C = 0
    · obtain ⟨hN1, g28⟩ := G28.out hC0
      subst hC0
      subst hN1
      have Gx := Lib.hid g28
      clear g28 G28
      go_wp2_with fail
      refine (Gx.out _ ZB).mono ?_
      rintro e w7 ⟨⟨A7, c7, rfl, ho7⟩, b7⟩
      have hfd := fld_bytes 0 A7 N c7 w7
      obtain ⟨v0, v1, _, _⟩ := (u5.below (ac ZB b7) (by omega)).cells
      go_wp2_with fail
      refine (lwSame_any _ _ _ _ _ _ _ _ _ ho7 (p1.below (ac ZB b7))).mono ?_
      rintro e w8 ⟨rfl, rfl⟩
      go_wp2
      go_ret
      exact ⟨by simp, ac ZW b7⟩
    · have hcb : (C != 0) = true := by simpa using hC0
      go_wp2
      go_ret
      exact ⟨rfl, ZW⟩
end Go.Proofs.Ytbjcgdgebbiieaa
