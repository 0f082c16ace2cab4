/- The walk of FnWords. -/
import Derived.Test.YtbjcgdgebbiieaaWordsC
import Derived.Deep.RegionHeld3
namespace Go.Proofs.Ytbjcgdgebbiieaa
open Go.RowKit

set_option maxHeartbeats 2000000 in
theorem words_walk (A : Option Addr) (n c : Nat) (l : List Int) (w : World) (h : Bs w A n l) (hn : n ≤ 1048576) :
    Calls Try.prog 3 #[.slice A n c] w fun e w' => e = .returned (.bool true) ∧ Below w.heap.size w w' := by
  have hd : decide (1048576 < n) = false := by simpa using hn
  have Hd := Lib.hid hd
  clear hd
  go_enter Try.func3, Try.ntmps3
  go_wp2_with fail
  refine (lwBig_any _ _ _ _ (by omega)).mono ?_
  rintro e w0 ⟨rfl, rfl⟩
  rw [Hd.out]
  go_wp2_with fail
  refine (drawPackLow_any _ _ _ _ _ h hn).mono ?_
  rintro e w1 ⟨⟨x, z, hx, rfl⟩, b1⟩
  have hx' : x ≤ 9223372036854775807 := by omega
  obtain ⟨N, hN⟩ : ∃ N, N = plen x z := ⟨_, rfl⟩
  obtain ⟨C, hC⟩ : ∃ C, C = pcode x z := ⟨_, rfl⟩
  obtain ⟨L, hL⟩ : ∃ L, L = plow x z := ⟨_, rfl⟩
  obtain ⟨H, hH⟩ : ∃ H, H = phigh x z := ⟨_, rfl⟩
  have hN7 := plen_le x z
  have k1 := fun W => implPackLow_any x z W
  have k2 := fun W => implPackHigh_any x z W
  have k3 := fun W => specPackLow_any x z W hx'
  have k4 := fun W => specPackHigh_any x z W hx'
  rw [← hN] at hN7
  rw [← hN, ← hC, ← hL] at k1 k3
  rw [← hN, ← hC, ← hH] at k2 k4
  have K1 := Lib.hid k1
  have K2 := Lib.hid k2
  have K3 := Lib.hid k3
  have K4 := Lib.hid k4
  have HN := Lib.hid hN
  have HC := Lib.hid hC
  have HL := Lib.hid hL
  have HH := Lib.hid hH
  clear k1 k2 k3 k4 hN hC hL hH
  go_wp2_with fail
  refine (K1.out _).mono ?_
  rintro e w2 ⟨⟨A2, c2, rfl, o2⟩, b2⟩
  have B2 := ab (ac b1 b2) (.cells #[.int .i64 C, .slice A2 N c2] 27)
  have t2 := Two.new w2 27 (.int .i64 C) (.slice A2 N c2)
  go_wp2_with fail
  refine (K2.out _).mono ?_
  rintro e w3 ⟨⟨A3, c3, rfl, o3⟩, b3⟩
  have s3 := b3.size
  simp only [World.size_alloc] at s3
  have B3 := ab (ac B2 b3) (.cells #[.int .i64 C, .slice A3 N c3] 27)
  have t23 := (t2.below b3 (by simp)).alloc (.cells #[.int .i64 C, .slice A3 N c3] 27) (by omega)
  have p23 := ((o2.bs.alloc (.cells #[.int .i64 C, .slice A2 N c2] 27)).below b3).alloc (.cells #[.int .i64 C, .slice A3 N c3] 27)
  have t3 := Two.new w3 27 (.int .i64 C) (.slice A3 N c3)
  have p3 := o3.bs.alloc (.cells #[.int .i64 C, .slice A3 N c3] 27)
  go_wp2_with fail
  refine (drawReadHigh_any _ _ _ _ _ (h.below B3) hn).mono ?_
  rintro e w4 ⟨⟨A4, c4, m, r, rfl, o4, hm⟩, b4⟩
  have s4 := b4.size
  simp only [World.size_alloc] at s4
  have B4 := ac B3 b4
  have p4 := o4.bs
  obtain ⟨R, hR⟩ : ∃ R, R = rcode m := ⟨_, rfl⟩
  obtain ⟨V, hV⟩ : ∃ V, V = rhigh r := ⟨_, rfl⟩
  obtain ⟨U, hU⟩ : ∃ U, U = rlow r := ⟨_, rfl⟩
  have q1 := fun W (hb : Bs W A4 m r) => implReadHigh_any A4 m c4 r W hb (by omega)
  have q2 := fun W (hb : Bs W A4 m r) => implReadLow_any A4 m c4 r W hb (by omega)
  have q3 := fun W (hb : Bs W A4 m r) => specReadHigh_any A4 m c4 r W hb (by omega)
  have q4 := fun W (hb : Bs W A4 m r) => specReadLow_any A4 m c4 r W hb (by omega)
  rw [← hR, ← hV] at q1 q3
  rw [← hR, ← hU] at q2 q4
  have Q1 := Lib.hid q1
  have Q2 := Lib.hid q2
  have Q3 := Lib.hid q3
  have Q4 := Lib.hid q4
  have HR := Lib.hid hR
  have HV := Lib.hid hV
  have HU := Lib.hid hU
  clear q1 q2 q3 q4 hR hV hU
  go_wp2_with fail
  refine (Q1.out _ p4).mono ?_
  rintro e w5 ⟨rfl, b5⟩
  have s5 := b5.size
  have B5 := ab (ac B4 b5) (.cells #[.int .i64 R, .int .i64 V] 31)
  have t5 := Two.new w5 31 (.int .i64 R) (.int .i64 V)
  have p45 := (p4.below b5).alloc (.cells #[.int .i64 R, .int .i64 V] 31)
  go_wp2_with fail
  refine (Q2.out _ p45).mono ?_
  rintro e w6 ⟨rfl, b6⟩
  have s6 := b6.size
  simp only [World.size_alloc] at s6
  have B6 := ab (ac B5 b6) (.cells #[.int .i64 R, .int .i64 U] 31)
  have t6 := Two.new w6 31 (.int .i64 R) (.int .i64 U)
  obtain ⟨w7, h7⟩ : ∃ w7, w7 = w6.alloc (.cells #[.int .i64 R, .int .i64 U] 31) := ⟨_, rfl⟩
  have C37 : Below (w3.heap.size + 1) (w3.alloc (.cells #[.int .i64 C, .slice A3 N c3] 27)) w7 := by
    rw [h7]
    have := ab (ac (ab (ac b4 b5) (.cells #[.int .i64 R, .int .i64 V] 31)) b6) (.cells #[.int .i64 R, .int .i64 U] 31)
    simpa using this
  have C57 : Below (w5.heap.size + 1) (w5.alloc (.cells #[.int .i64 R, .int .i64 V] 31)) w7 := by
    rw [h7]
    have := ab b6 (.cells #[.int .i64 R, .int .i64 U] 31)
    simpa using this
  have T2 := t23.below C37 (by omega)
  have T3 := t3.below C37 (by omega)
  have T5 := t5.below C57 (by omega)
  have T6 := t6
  have P2 := p23.below (by simpa using C37)
  have P3 := p3.below (by simpa using C37)
  have P4 := p45.below (by simpa using C57)
  have s7 : w6.heap.size < w7.heap.size := by rw [h7]; simp
  rw [← h7] at T6 B6
  go_wp2_with fail
  rw [← h7]
  have H7 := Lib.hid h7
  clear t2 t23 p23 t3 p3 p4 t5 p45 t6 C37 C57 h7
  have cs : ∀ W, Below w7.heap.size w7 W → (W.cell? ⟨w2.heap.size, 0, none⟩ = some (.int .i64 C) ∧ W.cell? ⟨w2.heap.size, 1, none⟩ = some (.slice A2 N c2) ∧ W.cell? ⟨w3.heap.size, 0, none⟩ = some (.int .i64 C) ∧ W.cell? ⟨w3.heap.size, 1, none⟩ = some (.slice A3 N c3) ∧ W.cell? ⟨w5.heap.size, 0, none⟩ = some (.int .i64 R) ∧ W.cell? ⟨w5.heap.size, 1, none⟩ = some (.int .i64 V) ∧ W.cell? ⟨w6.heap.size, 0, none⟩ = some (.int .i64 R) ∧ W.cell? ⟨w6.heap.size, 1, none⟩ = some (.int .i64 U) ∧ Below w7.heap.size w7 W) := fun W hW =>
    ⟨(T2.below hW (by omega)).cells.1, (T2.below hW (by omega)).cells.2.1, (T3.below hW (by omega)).cells.1, (T3.below hW (by omega)).cells.2.1, (T5.below hW (by omega)).cells.1, (T5.below hW (by omega)).cells.2.1, (T6.below hW (by omega)).cells.1, (T6.below hW (by omega)).cells.2.1, hW⟩
  have Cs := Lib.hid cs
  clear cs
  have G20 : Hid (∀ W, (W.cell? ⟨w2.heap.size, 0, none⟩ = some (.int .i64 C) ∧ W.cell? ⟨w2.heap.size, 1, none⟩ = some (.slice A2 N c2) ∧ W.cell? ⟨w3.heap.size, 0, none⟩ = some (.int .i64 C) ∧ W.cell? ⟨w3.heap.size, 1, none⟩ = some (.slice A3 N c3) ∧ W.cell? ⟨w5.heap.size, 0, none⟩ = some (.int .i64 R) ∧ W.cell? ⟨w5.heap.size, 1, none⟩ = some (.int .i64 V) ∧ W.cell? ⟨w6.heap.size, 0, none⟩ = some (.int .i64 R) ∧ W.cell? ⟨w6.heap.size, 1, none⟩ = some (.int .i64 U) ∧ Below w7.heap.size w7 W) → Calls Try.prog 21 #[.int .i64 x, .int .i64 z] W fun e w' => (∃ A' c', e = .returned (.agg #[.int .i64 C, .slice A' N c']) ∧ Bs w' A' N L) ∧ w'.cell? ⟨w2.heap.size, 0, none⟩ = some (.int .i64 C) ∧ w'.cell? ⟨w2.heap.size, 1, none⟩ = some (.slice A2 N c2) ∧ w'.cell? ⟨w3.heap.size, 0, none⟩ = some (.int .i64 C) ∧ w'.cell? ⟨w3.heap.size, 1, none⟩ = some (.slice A3 N c3) ∧ w'.cell? ⟨w5.heap.size, 0, none⟩ = some (.int .i64 R) ∧ w'.cell? ⟨w5.heap.size, 1, none⟩ = some (.int .i64 V) ∧ w'.cell? ⟨w6.heap.size, 0, none⟩ = some (.int .i64 R) ∧ w'.cell? ⟨w6.heap.size, 1, none⟩ = some (.int .i64 U) ∧ Below w7.heap.size w7 w') := fun W ⟨_, _, _, _, _, _, _, _, hW⟩ =>
    (K3.out W).mono fun e w' ⟨⟨A', c', he, ho⟩, hb⟩ => ⟨⟨A', c', he, ho.bs⟩, Cs.out _ (ac hW hb)⟩
  have G21 : Hid (∀ W, (W.cell? ⟨w2.heap.size, 0, none⟩ = some (.int .i64 C) ∧ W.cell? ⟨w2.heap.size, 1, none⟩ = some (.slice A2 N c2) ∧ W.cell? ⟨w3.heap.size, 0, none⟩ = some (.int .i64 C) ∧ W.cell? ⟨w3.heap.size, 1, none⟩ = some (.slice A3 N c3) ∧ W.cell? ⟨w5.heap.size, 0, none⟩ = some (.int .i64 R) ∧ W.cell? ⟨w5.heap.size, 1, none⟩ = some (.int .i64 V) ∧ W.cell? ⟨w6.heap.size, 0, none⟩ = some (.int .i64 R) ∧ W.cell? ⟨w6.heap.size, 1, none⟩ = some (.int .i64 U) ∧ Below w7.heap.size w7 W) → Calls Try.prog 22 #[.int .i64 x, .int .i64 z] W fun e w' => (∃ A' c', e = .returned (.agg #[.int .i64 C, .slice A' N c']) ∧ Bs w' A' N H) ∧ w'.cell? ⟨w2.heap.size, 0, none⟩ = some (.int .i64 C) ∧ w'.cell? ⟨w2.heap.size, 1, none⟩ = some (.slice A2 N c2) ∧ w'.cell? ⟨w3.heap.size, 0, none⟩ = some (.int .i64 C) ∧ w'.cell? ⟨w3.heap.size, 1, none⟩ = some (.slice A3 N c3) ∧ w'.cell? ⟨w5.heap.size, 0, none⟩ = some (.int .i64 R) ∧ w'.cell? ⟨w5.heap.size, 1, none⟩ = some (.int .i64 V) ∧ w'.cell? ⟨w6.heap.size, 0, none⟩ = some (.int .i64 R) ∧ w'.cell? ⟨w6.heap.size, 1, none⟩ = some (.int .i64 U) ∧ Below w7.heap.size w7 w') := fun W ⟨_, _, _, _, _, _, _, _, hW⟩ =>
    (K4.out W).mono fun e w' ⟨⟨A', c', he, ho⟩, hb⟩ => ⟨⟨A', c', he, ho.bs⟩, Cs.out _ (ac hW hb)⟩
  have G19 : Hid (∀ W A1 c1 A' c' X, (W.cell? ⟨w2.heap.size, 0, none⟩ = some (.int .i64 C) ∧ W.cell? ⟨w2.heap.size, 1, none⟩ = some (.slice A2 N c2) ∧ W.cell? ⟨w3.heap.size, 0, none⟩ = some (.int .i64 C) ∧ W.cell? ⟨w3.heap.size, 1, none⟩ = some (.slice A3 N c3) ∧ W.cell? ⟨w5.heap.size, 0, none⟩ = some (.int .i64 R) ∧ W.cell? ⟨w5.heap.size, 1, none⟩ = some (.int .i64 V) ∧ W.cell? ⟨w6.heap.size, 0, none⟩ = some (.int .i64 R) ∧ W.cell? ⟨w6.heap.size, 1, none⟩ = some (.int .i64 U) ∧ Below w7.heap.size w7 W) → Bs w7 A1 N X → Bs W A' N X → Calls Try.prog 20 #[.agg #[.int .i64 C, .slice A1 N c1], .agg #[.int .i64 C, .slice A' N c']] W fun e w' => e = .returned (.bool true) ∧ w'.cell? ⟨w2.heap.size, 0, none⟩ = some (.int .i64 C) ∧ w'.cell? ⟨w2.heap.size, 1, none⟩ = some (.slice A2 N c2) ∧ w'.cell? ⟨w3.heap.size, 0, none⟩ = some (.int .i64 C) ∧ w'.cell? ⟨w3.heap.size, 1, none⟩ = some (.slice A3 N c3) ∧ w'.cell? ⟨w5.heap.size, 0, none⟩ = some (.int .i64 R) ∧ w'.cell? ⟨w5.heap.size, 1, none⟩ = some (.int .i64 V) ∧ w'.cell? ⟨w6.heap.size, 0, none⟩ = some (.int .i64 R) ∧ w'.cell? ⟨w6.heap.size, 1, none⟩ = some (.int .i64 U) ∧ Below w7.heap.size w7 w') := fun W A1 c1 A' c' X ⟨_, _, _, _, _, _, _, _, hW⟩ hp ho =>
    (lwBytes_any C C A1 A' N c1 N c' X X W (hp.below hW) ho).mono fun e w' ⟨he, hb⟩ => ⟨by rw [he]; simp, Cs.out _ (ac hW hb)⟩
  have G22 : Hid (∀ W, (W.cell? ⟨w2.heap.size, 0, none⟩ = some (.int .i64 C) ∧ W.cell? ⟨w2.heap.size, 1, none⟩ = some (.slice A2 N c2) ∧ W.cell? ⟨w3.heap.size, 0, none⟩ = some (.int .i64 C) ∧ W.cell? ⟨w3.heap.size, 1, none⟩ = some (.slice A3 N c3) ∧ W.cell? ⟨w5.heap.size, 0, none⟩ = some (.int .i64 R) ∧ W.cell? ⟨w5.heap.size, 1, none⟩ = some (.int .i64 V) ∧ W.cell? ⟨w6.heap.size, 0, none⟩ = some (.int .i64 R) ∧ W.cell? ⟨w6.heap.size, 1, none⟩ = some (.int .i64 U) ∧ Below w7.heap.size w7 W) → Calls Try.prog 23 #[.slice A4 m c4] W fun e w' => e = .returned (.agg #[.int .i64 R, .int .i64 V]) ∧ w'.cell? ⟨w2.heap.size, 0, none⟩ = some (.int .i64 C) ∧ w'.cell? ⟨w2.heap.size, 1, none⟩ = some (.slice A2 N c2) ∧ w'.cell? ⟨w3.heap.size, 0, none⟩ = some (.int .i64 C) ∧ w'.cell? ⟨w3.heap.size, 1, none⟩ = some (.slice A3 N c3) ∧ w'.cell? ⟨w5.heap.size, 0, none⟩ = some (.int .i64 R) ∧ w'.cell? ⟨w5.heap.size, 1, none⟩ = some (.int .i64 V) ∧ w'.cell? ⟨w6.heap.size, 0, none⟩ = some (.int .i64 R) ∧ w'.cell? ⟨w6.heap.size, 1, none⟩ = some (.int .i64 U) ∧ Below w7.heap.size w7 w') := fun W ⟨_, _, _, _, _, _, _, _, hW⟩ =>
    (Q3.out W (P4.below hW)).mono fun e w' ⟨he, hb⟩ => ⟨he, Cs.out _ (ac hW hb)⟩
  have G23 : Hid (∀ W, (W.cell? ⟨w2.heap.size, 0, none⟩ = some (.int .i64 C) ∧ W.cell? ⟨w2.heap.size, 1, none⟩ = some (.slice A2 N c2) ∧ W.cell? ⟨w3.heap.size, 0, none⟩ = some (.int .i64 C) ∧ W.cell? ⟨w3.heap.size, 1, none⟩ = some (.slice A3 N c3) ∧ W.cell? ⟨w5.heap.size, 0, none⟩ = some (.int .i64 R) ∧ W.cell? ⟨w5.heap.size, 1, none⟩ = some (.int .i64 V) ∧ W.cell? ⟨w6.heap.size, 0, none⟩ = some (.int .i64 R) ∧ W.cell? ⟨w6.heap.size, 1, none⟩ = some (.int .i64 U) ∧ Below w7.heap.size w7 W) → Calls Try.prog 24 #[.slice A4 m c4] W fun e w' => e = .returned (.agg #[.int .i64 R, .int .i64 U]) ∧ w'.cell? ⟨w2.heap.size, 0, none⟩ = some (.int .i64 C) ∧ w'.cell? ⟨w2.heap.size, 1, none⟩ = some (.slice A2 N c2) ∧ w'.cell? ⟨w3.heap.size, 0, none⟩ = some (.int .i64 C) ∧ w'.cell? ⟨w3.heap.size, 1, none⟩ = some (.slice A3 N c3) ∧ w'.cell? ⟨w5.heap.size, 0, none⟩ = some (.int .i64 R) ∧ w'.cell? ⟨w5.heap.size, 1, none⟩ = some (.int .i64 V) ∧ w'.cell? ⟨w6.heap.size, 0, none⟩ = some (.int .i64 R) ∧ w'.cell? ⟨w6.heap.size, 1, none⟩ = some (.int .i64 U) ∧ Below w7.heap.size w7 w') := fun W ⟨_, _, _, _, _, _, _, _, hW⟩ =>
    (Q4.out W (P4.below hW)).mono fun e w' ⟨he, hb⟩ => ⟨he, Cs.out _ (ac hW hb)⟩
  have hS7 := Cs.out w7 (Below.refl _ _)
  obtain ⟨x0, x1, x2, x3, x4, x5, x6, x7, x8⟩ := hS7
  go_region_held3 (fun W => W.cell? ⟨w2.heap.size, 0, none⟩ = some (.int .i64 C) ∧ W.cell? ⟨w2.heap.size, 1, none⟩ = some (.slice A2 N c2) ∧ W.cell? ⟨w3.heap.size, 0, none⟩ = some (.int .i64 C) ∧ W.cell? ⟨w3.heap.size, 1, none⟩ = some (.slice A3 N c3) ∧ W.cell? ⟨w5.heap.size, 0, none⟩ = some (.int .i64 R) ∧ W.cell? ⟨w5.heap.size, 1, none⟩ = some (.int .i64 V) ∧ W.cell? ⟨w6.heap.size, 0, none⟩ = some (.int .i64 R) ∧ W.cell? ⟨w6.heap.size, 1, none⟩ = some (.int .i64 U) ∧ Below w7.heap.size w7 W)
    (first | (exact ⟨by assumption, by assumption, by assumption, by assumption, by assumption, by assumption, by assumption, by assumption, by assumption⟩) | (exact ⟨x0, x1, x2, x3, x4, x5, x6, x7, x8.drew⟩) | go_keep)
    (first
      | (go_at_call 21; refine (G20.out _ (by assumption)).mono ?_; rintro e w' ⟨⟨A', c', rfl, ho⟩, z0, z1, z2, z3, z4, z5, z6, z7, z8⟩)
      | (go_at_call 22; refine (G21.out _ (by assumption)).mono ?_; rintro e w' ⟨⟨A', c', rfl, ho⟩, z0, z1, z2, z3, z4, z5, z6, z7, z8⟩)
      | (go_at_call 20; refine (G19.out _ _ _ _ _ _ (by assumption) (by first | exact P2 | exact P3) (by assumption)).mono ?_; rintro e w' ⟨rfl, z0, z1, z2, z3, z4, z5, z6, z7, z8⟩)
      | (go_at_call 23; refine (G22.out _ (by assumption)).mono ?_; rintro e w' ⟨rfl, z0, z1, z2, z3, z4, z5, z6, z7, z8⟩)
      | (go_at_call 24; refine (G23.out _ (by assumption)).mono ?_; rintro e w' ⟨rfl, z0, z1, z2, z3, z4, z5, z6, z7, z8⟩))
  have B' := ac B6 z8
  clear G20 G21 G19 G22 G23 x0 x1 x2 x3 x4 x5 x6 x7 x8
  have F1 : Hid (R = 0 → (∀ W, Below w7.heap.size w7 W → Calls Try.prog 16 #[.int .i64 V, .int .i64 (m : Int)] W fun e w' => (∃ A' c', e = .returned (.agg #[.int .i64 0, .slice A' m c']) ∧ Bs w' A' m r) ∧ Below W.heap.size W w') ∧
      ∀ W, Below w7.heap.size w7 W → Calls Try.prog 15 #[.int .i64 U, .int .i64 (m : Int)] W fun e w' => (∃ A' c', e = .returned (.agg #[.int .i64 0, .slice A' m c']) ∧ Bs w' A' m r) ∧ Below W.heap.size W w') := by
    intro hR0
    have hml : r.length = m := P4.len
    have hm17 : 1 ≤ m ∧ m ≤ 7 := by
      have := HR.out
      unfold rcode at this
      by_cases hh : 1 ≤ m ∧ m ≤ 7
      · exact hh
      · rw [if_neg hh] at this; omega
    have hV : V = hi r := by rw [HV.out]; unfold rhigh; rw [if_pos (by omega)]
    have hU : U = lo r := by rw [HU.out]; unfold rlow; rw [if_pos (by omega)]
    have e1 := phigh_hi r P4.byte (by omega) (by omega)
    have e2 := plow_lo r P4.byte (by omega) (by omega)
    have f1 := fit_hi r P4.byte (by omega) (by omega)
    have hrr : By r.reverse := fun y hy => P4.byte y (by simpa using hy)
    have f2 := fit_hi r.reverse hrr (by rw [List.length_reverse]; omega) (by rw [List.length_reverse]; omega)
    rw [List.length_reverse] at f2
    have c1 : pcode (hi r) (r.length : Int) = 0 := by unfold pcode; rw [if_pos f1]
    have c2 : pcode (lo r) (r.length : Int) = 0 := by unfold pcode lo; rw [if_pos f2]
    have v1 : hi r ≤ 9223372036854775807 := by
      have := hi_bd r P4.byte
      have hp : ∀ k : Nat, k < 8 → (256 : Int) ^ k ≤ 72057594037927936 := by decide
      have := hp r.length (by omega)
      omega
    have v2 : lo r ≤ 9223372036854775807 := by
      have := hi_bd r.reverse hrr
      rw [List.length_reverse] at this
      have hp : ∀ k : Nat, k < 8 → (256 : Int) ^ k ≤ 72057594037927936 := by decide
      have := hp r.length (by omega)
      unfold lo
      omega
    refine ⟨fun W hW => ?_, fun W hW => ?_⟩
    · have hh := implPackHigh_any (hi r) (r.length : Int) W
      rw [e1.1, e1.2, c1, hml, ← hV] at hh
      exact hh.mono fun e w' ⟨⟨A', c', he, ho⟩, hb⟩ => ⟨⟨A', c', he, ho.bs⟩, hb⟩
    · have hh := implPackLow_any (lo r) (r.length : Int) W
      rw [e2.1, e2.2, c2, hml, ← hU] at hh
      exact hh.mono fun e w' ⟨⟨A', c', he, ho⟩, hb⟩ => ⟨⟨A', c', he, ho.bs⟩, hb⟩
  have F2 : Hid (C = 0 → (∀ W, Below w7.heap.size w7 W → Calls Try.prog 19 #[.slice A2 N c2] W fun e w' => e = .returned (.agg #[.int .i64 0, .int .i64 x]) ∧ Below W.heap.size W w') ∧
      ∀ W, Below w7.heap.size w7 W → Calls Try.prog 18 #[.slice A3 N c3] W fun e w' => e = .returned (.agg #[.int .i64 0, .int .i64 x]) ∧ Below W.heap.size W w') := by
    intro hC0
    have hfit : fitB x z = true := by
      have := HC.out
      unfold pcode at this
      by_cases hh : fitB x z = true
      · exact hh
      · rw [if_neg hh] at this; omega
    obtain ⟨f1, f7, fx⟩ := fit_of x z hfit
    have hN : N = z.toNat := by rw [HN.out]; unfold plen; rw [if_pos hfit]
    have hL : L = lowOf x z.toNat := by rw [HL.out]; unfold plow; rw [if_pos hfit]
    have hH : H = (lowOf x z.toNat).reverse := by rw [HH.out]; unfold phigh plow; rw [if_pos hfit]
    have r1 : rcode N = 0 := by unfold rcode; rw [if_pos (by omega)]
    have r2 : rlow L = x := by unfold rlow; rw [hL, lowOf_len, if_pos (by omega)]; exact fx
    have r3 : rhigh H = x := by unfold rhigh; rw [hH, List.length_reverse, lowOf_len, if_pos (by omega)]; exact fx
    refine ⟨fun W hW => ?_, fun W hW => ?_⟩
    · have hh := implReadLow_any A2 N c2 L W (P2.below hW) (by omega)
      rw [r1, r2] at hh
      exact hh
    · have hh := implReadHigh_any A3 N c3 H W (P3.below hW) (by omega)
      rw [r1, r3] at hh
      exact hh
  by_cases hR0 : R = 0
  · have g1 := F1.out hR0
    subst hR0
    have Gh1 := Lib.hid g1.1
    have Gl1 := Lib.hid g1.2
    clear g1 F1
    go_wp2_with fail
    refine (Gh1.out _ z8).mono ?_
    rintro e w10 ⟨⟨A10, c10, rfl, o10⟩, b10⟩
    have Z10 := ac z8 b10
    have hfd1 := fld_bytes 0 A10 m c10 w10
    obtain ⟨v0, v1, _, _⟩ := (T6.below Z10 (by omega)).cells
    go_wp2_with fail
    refine (lwSame_any _ _ _ _ _ _ _ _ _ o10 (P4.below Z10)).mono ?_
    rintro e w11 ⟨rfl, rfl⟩
    go_wp2_with fail
    refine (Gl1.out _ Z10).mono ?_
    rintro e w12 ⟨⟨A12, c12, rfl, o12⟩, b12⟩
    have ZB := ac Z10 b12
    have ZW := ac (ac B' b10) b12
    clear v0 v1
    have hfd2 := fld_bytes 0 A12 m c12 w12
    go_wp2_with fail
    refine (lwSame_any _ _ _ _ _ _ _ _ _ o12 (P4.below ZB)).mono ?_
    rintro e w11' ⟨rfl, rfl⟩
    by_cases hC0 : C = 0
    · have g2 := F2.out hC0
      subst hC0
      have Gl := Lib.hid g2.1
      have Gh := Lib.hid g2.2
      clear g2 F2
      obtain ⟨u0, u1, _, _⟩ := (T2.below ZB (by omega)).cells
      obtain ⟨u2, u3, _, _⟩ := (T3.below ZB (by omega)).cells
      go_wp2_with fail
      refine (Gl.out _ ZB).mono ?_
      rintro e w13 ⟨rfl, b13⟩
      have ZB3 := ac ZB b13
      clear u0 u1 u2 u3
      obtain ⟨u2, u3, _, _⟩ := (T3.below ZB3 (by omega)).cells
      go_wp2_with fail
      refine (Gh.out _ ZB3).mono ?_
      rintro e w14 ⟨rfl, b14⟩
      go_wp2
      go_ret
      exact ⟨rfl, ac (ac ZW b13) b14⟩
    · have hcb : (C != 0) = true := by simpa using hC0
      obtain ⟨u0, u1, _, _⟩ := (T2.below ZB (by omega)).cells
      go_wp2
      go_ret
      exact ⟨rfl, ZW⟩
  · have hTb : (R == 0) = false := by simpa using hR0
    have ZB : Below w7.heap.size w7 w' := z8
    have ZW : Below w.heap.size w w' := B'
    clear F1
    by_cases hC0 : C = 0
    · have g2 := F2.out hC0
      subst hC0
      have Gl := Lib.hid g2.1
      have Gh := Lib.hid g2.2
      clear g2 F2
      obtain ⟨u0, u1, _, _⟩ := (T2.below ZB (by omega)).cells
      obtain ⟨u2, u3, _, _⟩ := (T3.below ZB (by omega)).cells
      go_wp2_with fail
      refine (Gl.out _ ZB).mono ?_
      rintro e w13 ⟨rfl, b13⟩
      have ZB3 := ac ZB b13
      clear u0 u1 u2 u3
      obtain ⟨u2, u3, _, _⟩ := (T3.below ZB3 (by omega)).cells
      go_wp2_with fail
      refine (Gh.out _ ZB3).mono ?_
      rintro e w14 ⟨rfl, b14⟩
      go_wp2
      go_ret
      exact ⟨rfl, ac (ac ZW b13) b14⟩
    · have hcb : (C != 0) = true := by simpa using hC0
      obtain ⟨u0, u1, _, _⟩ := (T2.below ZB (by omega)).cells
      go_wp2
      go_ret
      exact ⟨rfl, ZW⟩
end Go.Proofs.Ytbjcgdgebbiieaa
