/- The walk of FnStreams, over the program's contracts as premises. -/
import Derived.Test.YtcanmhlhnihijaaDoorStreamsM
import Derived.Test.YtcanmhlhnihijaaDoorCipDrawF
import Derived.Test.YtcanmhlhnihijaaDoorTurnsC
import Derived.Deep.RegionHeld3
namespace Go.Proofs.YtcanmhlhnihijaaDoor
open Go.RowKit

/-- the answer with a code and bytes in memory of its own, and room for them -/
def CapAns (code : Int) (n : Nat) (l : List Int) (w : World) (e : Ending) (w' : World) : Prop :=
  (∃ A c, e = .returned (.agg #[.int .i64 code, .slice A n c]) ∧ Ow w' w.heap.size A n l ∧ n ≤ c ∧ (A = none → c = 0)) ∧ Below w.heap.size w w'

set_option maxRecDepth 100000 in
set_option maxHeartbeats 4000000 in
theorem streams_walk (A : Option Addr) (n c : Nat) (l : List Int) (w : World) (h : Bs w A n l) (hn : n ≤ 1048576)
    (P : World → Prop) (hP : P w) (hkeep : ∀ W W' : World, Below W.heap.size W W' → P W → P W')
    (Gx : Shut (∀ (A1 : Option Addr) (n1 c1 : Nat) (r1 : List Int) (k : Int) (A2 : Option Addr) (n2 c2 : Nat) (r2 : List Int) (A3 : Option Addr) (n3 c3 : Nat) (r3 : List Int) (W : World) (_ : P W) (_ : Bs W A1 n1 r1) (_ : n1 ≤ c1) (_ : A1 = none → c1 = 0) (_ : Bs W A2 n2 r2) (_ : n2 ≤ c2) (_ : A2 = none → c2 = 0) (_ : Bs W A3 n3 r3) (_ : n3 ≤ c3) (_ : A3 = none → c3 = 0) (_ : n3 ≤ 1001) (_ : -1 ≤ k ∧ k ≤ 1000001),
      Calls Tryd.prog 11 #[.slice A1 n1 c1, .int .i64 k, .slice A2 n2 c2, .slice A3 n3 c3] W (CapAns (askCode n1 k n2 (n3 : Int)) (okN (askCode n1 k n2 (n3 : Int)) n3) (okL (askCode n1 k n2 (n3 : Int)) (streamL r1 k r2 r3)) W)))
    (Gb : Shut (∀ (A1 : Option Addr) (n1 c1 : Nat) (r1 : List Int) (k : Int) (A2 : Option Addr) (n2 c2 : Nat) (r2 : List Int) (W : World) (_ : P W) (_ : Bs W A1 n1 r1) (_ : n1 ≤ c1) (_ : A1 = none → c1 = 0) (_ : Bs W A2 n2 r2) (_ : n2 ≤ c2) (_ : A2 = none → c2 = 0) (_ : -1 ≤ k ∧ k ≤ 1000001),
      Calls Tryd.prog 13 #[.slice A1 n1 c1, .int .i64 k, .slice A2 n2 c2] W (CapAns (askCode n1 k n2 0) (okN (askCode n1 k n2 0) 64) (okL (askCode n1 k n2 0) (keyBlock r1 k r2)) W))) :
    Calls Tryd.prog 3 #[.slice A n c] w fun e w' => e = .returned (.bool true) ∧ Below w.heap.size w w' := by
  have hd : decide (1048576 < n) = false := by simpa using hn
  have Hd := Lib.hid hd
  clear hd
  go_enter Tryd.func3, Tryd.ntmps3
  go_wp2_with fail
  refine (lwBig_any _ _ _ _ (by omega)).mono ?_
  rintro e w0 ⟨rfl, rfl⟩
  rw [Hd.out]
  go_wp2_with fail
  refine (drawStreamXor_any _ _ _ _ _ h hn).mono ?_
  rintro e w1 ⟨⟨A1, c1, n1, r1, k, A2, c2, n2, r2, A3, c3, n3, r3, rfl, d1, d2, d3, hn1, hn2, hn3, hk⟩, b1⟩
  have v1 := d1.1.cap
  have x1 := d1.1.nilcap
  have v2 := d2.1.cap
  have x2 := d2.1.nilcap
  have v3 := d3.1.cap
  have x3 := d3.1.nilcap
  have p1 := (d1.1.ow' d1.2).bs
  have p2 := (d2.1.ow' d2.2).bs
  have p3 := (d3.1.ow' d3.2).bs
  clear d1 d2 d3
  go_wp2_with fail
  refine (Gx.out A1 n1 c1 r1 k A2 n2 c2 r2 A3 n3 c3 r3 w1 (hkeep _ _ b1 hP) p1 v1 x1 p2 v2 x2 p3 v3 x3 hn3 hk).mono ?_
  rintro e w2 ⟨⟨A4, c4, rfl, o4, v4, x4⟩, b2⟩
  have B2 := ac b1 b2
  have q4 := o4.bs
  obtain ⟨C, hC⟩ : ∃ C, C = askCode n1 k n2 (n3 : Int) := ⟨_, rfl⟩
  rw [← hC] at q4 v4
  rw [← hC]
  obtain ⟨N, hN⟩ : ∃ N, N = okN C n3 := ⟨_, rfl⟩
  obtain ⟨L, hL⟩ : ∃ L, L = okL C (streamL r1 k r2 r3) := ⟨_, rfl⟩
  rw [← hN, ← hL] at q4
  rw [← hN] at v4
  rw [← hN]
  have HC := Lib.hid hC
  have HN := Lib.hid hN
  have HL := Shut.mk hL
  clear hC hN hL o4
  have t2 := Two.new w2 27 (.int .i64 C) (.slice A4 N c4)
  go_wp2_with fail
  refine (drawStreamBlock_any _ _ _ _ _ (h.below (ab B2 _)) hn).mono ?_
  rintro e w3 ⟨⟨A5, c5, n5, r5, k5, A6, c6, n6, r6, rfl, d5, d6, hn5, hn6, hk5⟩, b3⟩
  have B3 := ac (ab B2 (.cells #[.int .i64 C, .slice A4 N c4] 27)) b3
  have t3 := t2.below b3 (by simp)
  have v5 := d5.1.cap
  have x5' := d5.1.nilcap
  have v6 := d6.1.cap
  have x6' := d6.1.nilcap
  have p5 := (d5.1.ow' d5.2).bs
  have p6 := (d6.1.ow' d6.2).bs
  clear d5 d6
  go_wp2_with fail
  refine (Gb.out A5 n5 c5 r5 k5 A6 n6 c6 r6 w3 (hkeep _ _ B3 hP) p5 v5 x5' p6 v6 x6' hk5).mono ?_
  rintro e w4 ⟨⟨A7, c7, rfl, o7, v7, x7⟩, b4⟩
  have B4 := ac B3 b4
  have q7 := o7.bs
  obtain ⟨D, hD⟩ : ∃ D, D = askCode n5 k5 n6 0 := ⟨_, rfl⟩
  rw [← hD] at q7 v7
  rw [← hD]
  obtain ⟨M, hM⟩ : ∃ M, M = okN D 64 := ⟨_, rfl⟩
  obtain ⟨K, hK⟩ : ∃ K, K = okL D (keyBlock r5 k5 r6) := ⟨_, rfl⟩
  rw [← hM, ← hK] at q7
  rw [← hM] at v7
  rw [← hM]
  have HD := Lib.hid hD
  have HM := Lib.hid hM
  have HK := Shut.mk hK
  clear hD hM hK o7
  have s2 := b2.size
  have s3 := b3.size
  have s4 := b4.size
  rw [World.size_alloc] at s3
  have u4 := Two.new w4 27 (.int .i64 D) (.slice A7 M c7)
  have b5 := ab (Below.refl w4.heap.size w4) (.cells #[.int .i64 D, .slice A7 M c7] 27)
  have t5 := (t3.below b4 (by omega)).below b5 (by omega)
  have B5 := ac B4 b5
  have p1' := ((((p1.below b2).alloc (.cells #[.int .i64 C, .slice A4 N c4] 27)).below b3).below b4).below b5
  have p2' := ((((p2.below b2).alloc (.cells #[.int .i64 C, .slice A4 N c4] 27)).below b3).below b4).below b5
  have p3' := ((((p3.below b2).alloc (.cells #[.int .i64 C, .slice A4 N c4] 27)).below b3).below b4).below b5
  have q4' := (((q4.alloc (.cells #[.int .i64 C, .slice A4 N c4] 27)).below b3).below b4).below b5
  have p5' := (p5.below b4).below b5
  have p6' := (p6.below b4).below b5
  have q7' := q7.below b5
  have s24 : w2.heap.size < w4.heap.size := by omega
  go_wp2_with fail
  clear p1 p2 p3 q4 p5 p6 q7 t3 t2 b3 b2 b1 B2 B3 B4 s3
  generalize hw5 : w4.alloc (.cells #[.int .i64 D, .slice A7 M c7] 27) = w5 at *
  have u5 : Two w5 w4.heap.size 27 (.int .i64 D) (.slice A7 M c7) := u4
  have s5 : w4.heap.size < w5.heap.size := by rw [← hw5, World.size_alloc]; omega
  have s25 : w2.heap.size < w5.heap.size := by omega
  clear hw5 b5 u4 b4
  obtain ⟨x0, x1, _, _⟩ := t5.cells
  obtain ⟨y0, y1, _, _⟩ := u5.cells
  have G22 : Shut (∀ W : World, (W.cell? ⟨w2.heap.size, 0, none⟩ = some (.int .i64 C) ∧ W.cell? ⟨w2.heap.size, 1, none⟩ = some (.slice A4 N c4) ∧ W.cell? ⟨w4.heap.size, 0, none⟩ = some (.int .i64 D) ∧ W.cell? ⟨w4.heap.size, 1, none⟩ = some (.slice A7 M c7) ∧ Below w5.heap.size w5 W) → Calls Tryd.prog 15 #[.slice A1 n1 c1, .int .i64 k, .slice A2 n2 c2, .slice A3 n3 c3] W fun e w' => (∃ A' c', e = .returned (.agg #[.int .i64 C, .slice A' N c']) ∧ Bs w' A' N L) ∧ w'.cell? ⟨w2.heap.size, 0, none⟩ = some (.int .i64 C) ∧ w'.cell? ⟨w2.heap.size, 1, none⟩ = some (.slice A4 N c4) ∧ w'.cell? ⟨w4.heap.size, 0, none⟩ = some (.int .i64 D) ∧ w'.cell? ⟨w4.heap.size, 1, none⟩ = some (.slice A7 M c7) ∧ Below w5.heap.size w5 w') :=
    ⟨fun W ⟨_, _, _, _, hW⟩ => (specStreamXor_any A1 n1 c1 r1 k A2 n2 c2 r2 A3 n3 c3 r3 W (p1'.below hW) v1 (p2'.below hW) v2 (p3'.below hW)).mono fun e w' ⟨⟨A', c', he, ho⟩, hb⟩ => by
      have hB := ac hW hb
      exact ⟨⟨A', c', by rw [HN.out, HC.out]; exact he, by rw [HN.out, HL.out, HC.out]; exact ho.bs⟩, (t5.below hB (by omega)).cells.1, (t5.below hB (by omega)).cells.2.1, (u5.below hB (by omega)).cells.1, (u5.below hB (by omega)).cells.2.1, hB⟩⟩
  have G23 : Shut (∀ W : World, (W.cell? ⟨w2.heap.size, 0, none⟩ = some (.int .i64 C) ∧ W.cell? ⟨w2.heap.size, 1, none⟩ = some (.slice A4 N c4) ∧ W.cell? ⟨w4.heap.size, 0, none⟩ = some (.int .i64 D) ∧ W.cell? ⟨w4.heap.size, 1, none⟩ = some (.slice A7 M c7) ∧ Below w5.heap.size w5 W) → Calls Tryd.prog 16 #[.slice A5 n5 c5, .int .i64 k5, .slice A6 n6 c6] W fun e w' => (∃ A' c', e = .returned (.agg #[.int .i64 D, .slice A' M c']) ∧ Bs w' A' M K) ∧ w'.cell? ⟨w2.heap.size, 0, none⟩ = some (.int .i64 C) ∧ w'.cell? ⟨w2.heap.size, 1, none⟩ = some (.slice A4 N c4) ∧ w'.cell? ⟨w4.heap.size, 0, none⟩ = some (.int .i64 D) ∧ w'.cell? ⟨w4.heap.size, 1, none⟩ = some (.slice A7 M c7) ∧ Below w5.heap.size w5 w') :=
    ⟨fun W ⟨_, _, _, _, hW⟩ => (specStreamBlock_any A5 n5 c5 r5 k5 A6 n6 c6 r6 W (p5'.below hW) v5 (p6'.below hW) v6).mono fun e w' ⟨⟨A', c', he, ho⟩, hb⟩ => by
      have hB := ac hW hb
      exact ⟨⟨A', c', by rw [HM.out, HD.out]; exact he, by rw [HM.out, HK.out, HD.out]; exact ho.bs⟩, (t5.below hB (by omega)).cells.1, (t5.below hB (by omega)).cells.2.1, (u5.below hB (by omega)).cells.1, (u5.below hB (by omega)).cells.2.1, hB⟩⟩
  have G21 : Shut (∀ (W : World) (A' : Option Addr) (c' : Nat), (W.cell? ⟨w2.heap.size, 0, none⟩ = some (.int .i64 C) ∧ W.cell? ⟨w2.heap.size, 1, none⟩ = some (.slice A4 N c4) ∧ W.cell? ⟨w4.heap.size, 0, none⟩ = some (.int .i64 D) ∧ W.cell? ⟨w4.heap.size, 1, none⟩ = some (.slice A7 M c7) ∧ Below w5.heap.size w5 W) → Bs W A' N L → Calls Tryd.prog 14 #[.agg #[.int .i64 C, .slice A4 N c4], .agg #[.int .i64 C, .slice A' N c']] W fun e w' => e = .returned (.bool true) ∧ w'.cell? ⟨w2.heap.size, 0, none⟩ = some (.int .i64 C) ∧ w'.cell? ⟨w2.heap.size, 1, none⟩ = some (.slice A4 N c4) ∧ w'.cell? ⟨w4.heap.size, 0, none⟩ = some (.int .i64 D) ∧ w'.cell? ⟨w4.heap.size, 1, none⟩ = some (.slice A7 M c7) ∧ Below w5.heap.size w5 w') :=
    ⟨fun W A' c' ⟨_, _, _, _, hW⟩ ho => (lwBytes_any C C A4 A' N c4 N c' L L W (q4'.below hW) ho).mono fun e w' ⟨he, hb⟩ => by
      have hB := ac hW hb
      exact ⟨by rw [he]; simp, (t5.below hB (by omega)).cells.1, (t5.below hB (by omega)).cells.2.1, (u5.below hB (by omega)).cells.1, (u5.below hB (by omega)).cells.2.1, hB⟩⟩
  have G20 : Shut (∀ (W : World) (A' : Option Addr) (c' : Nat), (W.cell? ⟨w2.heap.size, 0, none⟩ = some (.int .i64 C) ∧ W.cell? ⟨w2.heap.size, 1, none⟩ = some (.slice A4 N c4) ∧ W.cell? ⟨w4.heap.size, 0, none⟩ = some (.int .i64 D) ∧ W.cell? ⟨w4.heap.size, 1, none⟩ = some (.slice A7 M c7) ∧ Below w5.heap.size w5 W) → Bs W A' M K → Calls Tryd.prog 14 #[.agg #[.int .i64 D, .slice A7 M c7], .agg #[.int .i64 D, .slice A' M c']] W fun e w' => e = .returned (.bool true) ∧ w'.cell? ⟨w2.heap.size, 0, none⟩ = some (.int .i64 C) ∧ w'.cell? ⟨w2.heap.size, 1, none⟩ = some (.slice A4 N c4) ∧ w'.cell? ⟨w4.heap.size, 0, none⟩ = some (.int .i64 D) ∧ w'.cell? ⟨w4.heap.size, 1, none⟩ = some (.slice A7 M c7) ∧ Below w5.heap.size w5 w') :=
    ⟨fun W A' c' ⟨_, _, _, _, hW⟩ ho => (lwBytes_any D D A7 A' M c7 M c' K K W (q7'.below hW) ho).mono fun e w' ⟨he, hb⟩ => by
      have hB := ac hW hb
      exact ⟨by rw [he]; simp, (t5.below hB (by omega)).cells.1, (t5.below hB (by omega)).cells.2.1, (u5.below hB (by omega)).cells.1, (u5.below hB (by omega)).cells.2.1, hB⟩⟩
  have hW5 := Below.refl w5.heap.size w5
  go_region_held3 (fun W => W.cell? ⟨w2.heap.size, 0, none⟩ = some (.int .i64 C) ∧ W.cell? ⟨w2.heap.size, 1, none⟩ = some (.slice A4 N c4) ∧ W.cell? ⟨w4.heap.size, 0, none⟩ = some (.int .i64 D) ∧ W.cell? ⟨w4.heap.size, 1, none⟩ = some (.slice A7 M c7) ∧ Below w5.heap.size w5 W)
    (first | (exact ⟨by assumption, by assumption, by assumption, by assumption, by assumption⟩) | (exact ⟨x0, x1, y0, y1, hW5.drew⟩) | go_keep)
    (first
      | (go_at_call 15; refine (G22.out _ ?_).mono ?_; (first | assumption | (simp [*]; done)); rintro e w' ⟨⟨A', c', rfl, ho⟩, z0, z1, z2, z3, z4⟩)
      | (go_at_call 16; refine (G23.out _ ?_).mono ?_; (first | assumption | (simp [*]; done)); rintro e w'' ⟨⟨A'', c'', rfl, ho2⟩, z0, z1, z2, z3, z4⟩)
      | (go_at_call_of 14 A4; refine (G21.out _ _ _ ?_ ?_).mono ?_; (first | assumption | (simp [*]; done)); assumption; rintro e w' ⟨rfl, z0, z1, z2, z3, z4⟩)
      | (go_at_call_of 14 A7; refine (G20.out _ _ _ ?_ ?_).mono ?_; (first | assumption | (simp [*]; done)); assumption; rintro e w' ⟨rfl, z0, z1, z2, z3, z4⟩))
  obtain ⟨w6, hw6⟩ : ∃ x, x = w' := ⟨_, rfl⟩
  subst hw6
  have B6 := ac B5 z4
  clear G22 G23 G21 G20 x0 x1 y0 y1 hW5
  by_cases hD0 : D = 0
  · subst hD0
    obtain ⟨rfl, rfl, hk50, _⟩ := ask_zero HD.out.symm
    obtain rfl : M = 64 := HM.out.trans rfl
    have hK : K = keyBlock r5 k5 r6 := HK.out.trans rfl
    have hac : askCode 32 k5 12 ((64 : Nat) : Int) = 0 := by simp [askCode, askOk, inB, hk50]
    have G18 : Shut (∀ (g : Nat) (W : World), (W.cell? ⟨w2.heap.size, 0, none⟩ = some (.int .i64 C) ∧ W.cell? ⟨w2.heap.size, 1, none⟩ = some (.slice A4 N c4) ∧ W.cell? ⟨w4.heap.size, 0, none⟩ = some (.int .i64 0) ∧ W.cell? ⟨w4.heap.size, 1, none⟩ = some (.slice A7 64 c7) ∧ Below w5.heap.size w5 W) → Bs W (some ⟨g, 0, none⟩) 64 (List.replicate 64 0) → Calls Tryd.prog 11 #[.slice A5 32 c5, .int .i64 k5, .slice A6 12 c6, .slice (some ⟨g, 0, none⟩) 64 64] W fun e w' => (∃ A' c', e = .returned (.agg #[.int .i64 0, .slice A' 64 c']) ∧ Bs w' A' 64 K) ∧ w'.cell? ⟨w2.heap.size, 0, none⟩ = some (.int .i64 C) ∧ w'.cell? ⟨w2.heap.size, 1, none⟩ = some (.slice A4 N c4) ∧ w'.cell? ⟨w4.heap.size, 0, none⟩ = some (.int .i64 0) ∧ w'.cell? ⟨w4.heap.size, 1, none⟩ = some (.slice A7 64 c7) ∧ Below w5.heap.size w5 w') :=
      ⟨fun g W ⟨_, _, _, _, hW⟩ hz => (Gx.out A5 32 c5 r5 k5 A6 12 c6 r6 (some ⟨g, 0, none⟩) 64 64 (List.replicate 64 0) W (hkeep _ _ (ac B5 hW) hP) (p5'.below hW) v5 x5' (p6'.below hW) v6 x6' hz (Nat.le_refl _) (fun e => by cases e) (by omega) hk5).mono fun e w' ⟨⟨A', c', he, ho, _, _⟩, hb⟩ => by
        have hB := ac hW hb
        rw [hac] at he ho
        exact ⟨⟨A', c', he, by rw [hK, ← stream_zero]; exact ho.bs⟩, (t5.below hB (by omega)).cells.1, (t5.below hB (by omega)).cells.2.1, (u5.below hB (by omega)).cells.1, (u5.below hB (by omega)).cells.2.1, hB⟩⟩
    have G24 : Shut (∀ (W : World) (A' : Option Addr) (c' : Nat), (W.cell? ⟨w2.heap.size, 0, none⟩ = some (.int .i64 C) ∧ W.cell? ⟨w2.heap.size, 1, none⟩ = some (.slice A4 N c4) ∧ W.cell? ⟨w4.heap.size, 0, none⟩ = some (.int .i64 0) ∧ W.cell? ⟨w4.heap.size, 1, none⟩ = some (.slice A7 64 c7) ∧ Below w5.heap.size w5 W) → Bs W A' 64 K → Calls Tryd.prog 17 #[.slice A' 64 c', .slice A7 64 c7] W fun e w' => e = .returned (.bool true) ∧ W = w') :=
      ⟨fun W A' c' ⟨_, _, _, _, hW⟩ ho => (lwSame_any A' A7 64 c' 64 c7 K K W ho (q7'.below hW)).mono fun e w' ⟨he, hb⟩ => ⟨by rw [he]; simp, hb⟩⟩
    have GA : Shut (∀ (W : World) (o : Obj), (W.cell? ⟨w2.heap.size, 0, none⟩ = some (.int .i64 C) ∧ W.cell? ⟨w2.heap.size, 1, none⟩ = some (.slice A4 N c4) ∧ W.cell? ⟨w4.heap.size, 0, none⟩ = some (.int .i64 0) ∧ W.cell? ⟨w4.heap.size, 1, none⟩ = some (.slice A7 64 c7) ∧ Below w5.heap.size w5 W) → ((W.alloc o).cell? ⟨w2.heap.size, 0, none⟩ = some (.int .i64 C) ∧ (W.alloc o).cell? ⟨w2.heap.size, 1, none⟩ = some (.slice A4 N c4) ∧ (W.alloc o).cell? ⟨w4.heap.size, 0, none⟩ = some (.int .i64 0) ∧ (W.alloc o).cell? ⟨w4.heap.size, 1, none⟩ = some (.slice A7 64 c7) ∧ Below w5.heap.size w5 (W.alloc o))) :=
      ⟨fun W o ⟨_, _, _, _, hW⟩ => by
        have hB := ac hW (ab (Below.refl _ W) o)
        exact ⟨(t5.below hB (by omega)).cells.1, (t5.below hB (by omega)).cells.2.1, (u5.below hB (by omega)).cells.1, (u5.below hB (by omega)).cells.2.1, hB⟩⟩
    have hmk : ∀ W : World, (Instr.makeSlice 22 (.int .i64 64) (.int .i64 64)).run Tryd.prog W = .ok (.slice (some ⟨W.heap.size, 0, none⟩) 64 64) (W.alloc (.cells (zeroB 64) 5)) := fun W => run_make_bytes 64 (by omega) W
    have hby : By (List.replicate 64 (0 : Int)) := fun x hx => by have := (List.mem_replicate.1 hx).2; omega
    have hzb : ∀ W : World, Bs (W.alloc (.cells (zeroB 64) 5)) (some ⟨W.heap.size, 0, none⟩) 64 (List.replicate 64 0) := fun W => (Blk.zeroB W 64).bsn hby (List.length_replicate ..)
    have Hzb := Shut.mk hzb
    have hfd := fun (A : Option Addr) (c : Nat) (W : World) => fld_bytes 0 A 64 c W
    have z4d := z4.drew
    obtain ⟨a0, a1, a2, a3, a4⟩ := GA.out w6 (.cells (zeroB 64) 5) ⟨z0, z1, z2, z3, z4⟩
    have a4d := a4.drew
    have hzd := (Hzb.out w6).drewN 1
    clear hzb hby hac
    go_wp2_with fail
    go_region_held3 (fun W => W.cell? ⟨w2.heap.size, 0, none⟩ = some (.int .i64 C) ∧ W.cell? ⟨w2.heap.size, 1, none⟩ = some (.slice A4 N c4) ∧ W.cell? ⟨w4.heap.size, 0, none⟩ = some (.int .i64 0) ∧ W.cell? ⟨w4.heap.size, 1, none⟩ = some (.slice A7 64 c7) ∧ Below w5.heap.size w5 W)
      (first | (exact ⟨by assumption, by assumption, by assumption, by assumption, by assumption⟩) | (exact ⟨z0, z1, z2, z3, z4d⟩) | (exact ⟨a0, a1, a2, a3, a4d⟩) | go_keep)
      (first
        | (go_at_call 11; refine (G18.out _ _ ?_ ?_).mono ?_; (first | assumption | (exact ⟨a0, a1, a2, a3, a4d⟩) | (simp [*]; done)); (first | exact hzd | exact Hzb.out _); rintro e w7 ⟨⟨A8, c8, rfl, ho8⟩, y0, y1, y2, y3, y4⟩)
        | (go_at_call 17; refine (G24.out _ _ _ ?_ ?_).mono ?_; (first | assumption | (simp [*]; done)); assumption; rintro e w' ⟨rfl, rfl⟩))
    by_cases hC0 : C = 0
    · subst hC0
      obtain ⟨rfl, rfl, hk0, hs0⟩ := ask_zero HC.out.symm
      obtain rfl : N = n3 := HN.out.trans rfl
      have hL : L = streamL r1 k r2 r3 := HL.out.trans rfl
      have hask : askCode 32 k 12 (N : Int) = 0 := HC.out.symm
      have G28 : Shut (∀ W : World, (W.cell? ⟨w2.heap.size, 0, none⟩ = some (.int .i64 0) ∧ W.cell? ⟨w2.heap.size, 1, none⟩ = some (.slice A4 N c4) ∧ Below w5.heap.size w5 W) → Calls Tryd.prog 11 #[.slice A1 32 c1, .int .i64 k, .slice A2 12 c2, .slice A4 N c4] W fun e w' => (∃ A' c', e = .returned (.agg #[.int .i64 0, .slice A' N c']) ∧ Bs w' A' N r3) ∧ w'.cell? ⟨w2.heap.size, 0, none⟩ = some (.int .i64 0) ∧ w'.cell? ⟨w2.heap.size, 1, none⟩ = some (.slice A4 N c4) ∧ Below w5.heap.size w5 w') :=
        ⟨fun W ⟨_, _, hW⟩ => (Gx.out A1 32 c1 r1 k A2 12 c2 r2 A4 N c4 L W (hkeep _ _ (ac B5 hW) hP) (p1'.below hW) v1 x1 (p2'.below hW) v2 x2 (q4'.below hW) v4 x4 hn3 hk).mono fun e w' ⟨⟨A', c', he, ho, _, _⟩, hb⟩ => by
          have hB := ac hW hb
          rw [hask] at he ho
          exact ⟨⟨A', c', he, by rw [← stream_twice r1 k r2 r3 p3'.byte, ← hL]; exact ho.bs⟩, (t5.below hB (by omega)).cells.1, (t5.below hB (by omega)).cells.2.1, hB⟩⟩
      have G25 : Shut (∀ (W : World) (A' : Option Addr) (c' : Nat), (W.cell? ⟨w2.heap.size, 0, none⟩ = some (.int .i64 0) ∧ W.cell? ⟨w2.heap.size, 1, none⟩ = some (.slice A4 N c4) ∧ Below w5.heap.size w5 W) → Bs W A' N r3 → Calls Tryd.prog 17 #[.slice A' N c', .slice A3 N c3] W fun e w' => e = .returned (.bool true) ∧ W = w') :=
        ⟨fun W A' c' ⟨_, _, hW⟩ ho => (lwSame_any A' A3 N c' N c3 r3 r3 W ho (p3'.below hW)).mono fun e w' ⟨he, hb⟩ => ⟨by rw [he]; simp, hb⟩⟩
      have hfd3 := fun (A : Option Addr) (c : Nat) (W : World) => fld_bytes 0 A N c W
      go_wp2_with fail
      refine (G28.out w7 ⟨y0, y1, y4⟩).mono ?_
      rintro e w8 ⟨⟨A8, c8, rfl, ho8⟩, g0, g1, g4⟩
      go_wp2_with fail
      refine (G25.out _ _ _ ⟨g0, g1, g4⟩ ho8).mono ?_
      rintro e w9 ⟨rfl, rfl⟩
      have hkeep8 := ac B5 g4
      clear G28 G25
      have g4d := g4.drew
      by_cases h64 : N ≤ 64
      · have h64' : (N : Int) ≤ 64 := by omega
        have h64d : decide ((N : Int) ≤ 64) = true := by simp; omega
        go_wp2_with fail
        go_quiet (fail)
        all_goals
          go_wp2
          go_ret
          exact ⟨rfl, ad (ac B5 g4) _⟩
      · have h64' : ¬ (N : Int) ≤ 64 := by omega
        have h64d : decide ((N : Int) ≤ 64) = false := by simp; omega
        by_cases hbig : 1000000 ≤ k
        · have hbd : decide (1000000 ≤ k) = true := by simp; omega
          go_wp2_with fail
          go_quiet (fail)
          all_goals
            go_wp2
            go_ret
            exact ⟨rfl, ad (ac B5 g4) _⟩
        · have hbd : decide (1000000 ≤ k) = false := by simp; omega
          obtain ⟨m, rfl⟩ : ∃ m, N = m + 64 := ⟨N - 64, by omega⟩
          obtain ⟨b3, o3, rfl, _, _⟩ := p3'.at_ (by omega)
          obtain ⟨b4, o4, rfl, _, _⟩ := q4'.at_ (by omega)
          have hd3 := p3'.part_ 64 m (by omega)
          have hd4 := q4'.part_ 64 m (by omega)
          have lr3 : r3.length = m + 64 := p3'.len
          rw [show (r3.drop 64).take m = r3.drop 64 from List.take_of_length_le (by rw [List.length_drop, lr3]; omega)] at hd3
          rw [show (L.drop 64).take m = L.drop 64 from List.take_of_length_le (by rw [List.length_drop, q4'.len]; omega)] at hd4
          have hac : askCode 32 (k + 1) 12 (m : Int) = 0 := by
            have e1 : inB (k + 1) 0 1000000 = true := by simp [inB]; omega
            have e2 : (m : Int) ≤ 1000 := by omega
            simp [askCode, askOk, e1, e2]
          have hon : streamL r1 (k + 1) r2 (r3.drop 64) = L.drop 64 := by rw [hL, stream_on r1 k r2 r3 (by omega)]
          have G29 : Shut (∀ W : World, (W.cell? ⟨w2.heap.size, 0, none⟩ = some (.int .i64 0) ∧ W.cell? ⟨w2.heap.size, 1, none⟩ = some (.slice (some ⟨b4, o4, none⟩) (m + 64) c4) ∧ Below w5.heap.size w5 W) → Calls Tryd.prog 11 #[.slice A1 32 c1, .int .i64 (k + 1), .slice A2 12 c2, .slice (some ⟨b3, o3 + 64, none⟩) m (c3 - 64)] W fun e w' => (∃ A' c', e = .returned (.agg #[.int .i64 0, .slice A' m c']) ∧ Bs w' A' m (L.drop 64)) ∧ w'.cell? ⟨w2.heap.size, 0, none⟩ = some (.int .i64 0) ∧ w'.cell? ⟨w2.heap.size, 1, none⟩ = some (.slice (some ⟨b4, o4, none⟩) (m + 64) c4) ∧ Below w5.heap.size w5 w') :=
            ⟨fun W ⟨_, _, hW⟩ => (Gx.out A1 32 c1 r1 (k + 1) A2 12 c2 r2 (some ⟨b3, o3 + 64, none⟩) m (c3 - 64) (r3.drop 64) W (hkeep _ _ (ac B5 hW) hP) (p1'.below hW) v1 x1 (p2'.below hW) v2 x2 (hd3.below hW) (by omega) (fun e => by cases e) (by omega) (by omega)).mono fun e w' ⟨⟨A', c', he, ho, _, _⟩, hb⟩ => by
              have hB := ac hW hb
              rw [hac] at he ho
              exact ⟨⟨A', c', he, by rw [← hon]; exact ho.bs⟩, (t5.below hB (by omega)).cells.1, (t5.below hB (by omega)).cells.2.1, hB⟩⟩
          have G27 : Shut (∀ (W : World) (A' : Option Addr) (c' : Nat), (W.cell? ⟨w2.heap.size, 0, none⟩ = some (.int .i64 0) ∧ W.cell? ⟨w2.heap.size, 1, none⟩ = some (.slice (some ⟨b4, o4, none⟩) (m + 64) c4) ∧ Below w5.heap.size w5 W) → Bs W A' m (L.drop 64) → Calls Tryd.prog 17 #[.slice A' m c', .slice (some ⟨b4, o4 + 64, none⟩) m (c4 - 64)] W fun e w' => e = .returned (.bool true) ∧ W = w') :=
            ⟨fun W A' c' ⟨_, _, hW⟩ ho => (lwSame_any A' _ m c' m (c4 - 64) _ _ W ho (hd4.below hW)).mono fun e w' ⟨he, hb⟩ => ⟨by rw [he]; simp, hb⟩⟩
          have hfd4 := fun (A : Option Addr) (c : Nat) (W : World) => fld_bytes 0 A m c W
          have hwk : IntKind.i64.wrap (k + 1) = k + 1 := IntWalk.i64_in _ (by omega)
          have hc3 : ¬ c3 = 64 := by omega
          have hc4 : ¬ c4 = 64 := by omega
          have hq1 : (64 : Int) ≤ (m : Int) + 64 := by omega
          have hq2 : (m : Int) + 64 ≤ (c3 : Int) := by omega
          have hq3 : (m : Int) + 64 ≤ (c4 : Int) := by omega
          have h64e : decide ((m : Int) + 64 ≤ 64) = false := by simp; omega
          have h64f : ¬ (m : Int) + 64 ≤ 64 := by omega
          have hbf : ¬ 1000000 ≤ k := by omega
          clear hon hL hac hd3 hd4 lr3 h64 h64' h64d
          go_wp2_with fail
          go_region_held3 (fun W => W.cell? ⟨w2.heap.size, 0, none⟩ = some (.int .i64 0) ∧ W.cell? ⟨w2.heap.size, 1, none⟩ = some (.slice (some ⟨b4, o4, none⟩) (m + 64) c4) ∧ Below w5.heap.size w5 W)
            (first | (exact ⟨by assumption, by assumption, by assumption⟩) | (exact ⟨g0, g1, g4d⟩) | go_keep)
            (first
              | (go_at_call 11; refine (G29.out _ ?_).mono ?_; (first | assumption | (simp [*]; done)); rintro e w9 ⟨⟨A9, c9, rfl, ho9⟩, i0, i1, i4⟩)
              | (go_at_call 17; refine (G27.out _ _ _ ?_ ?_).mono ?_; (first | assumption | (simp [*]; done)); assumption; rintro e w' ⟨rfl, rfl⟩))
          all_goals
            go_wp2
            go_ret
            exact ⟨rfl, ac B5 i4⟩
    · have hcb : (C != 0) = true := by simpa using hC0
      go_wp2
      go_ret
      exact ⟨rfl, ac B5 y4⟩
  · have hDb : (D == 0) = false := by simpa using hD0
    go_wp2_with fail
    go_quiet (fail)
    have k4 := below_drewN z4 nq
    have k0 : (w6.drewN nq).cell? ⟨w2.heap.size, 0, none⟩ = some (.int .i64 C) := z0
    have k1 : (w6.drewN nq).cell? ⟨w2.heap.size, 1, none⟩ = some (.slice A4 N c4) := z1
    generalize w6.drewN nq = w7 at *
    clear z0 z1 z2 z3 z4 hD0 hDb
    by_cases hC0 : C = 0
    · subst hC0
      obtain ⟨rfl, rfl, hk0, hs0⟩ := ask_zero HC.out.symm
      obtain rfl : N = n3 := HN.out.trans rfl
      have hL : L = streamL r1 k r2 r3 := HL.out.trans rfl
      have hask : askCode 32 k 12 (N : Int) = 0 := HC.out.symm
      have G28 : Shut (∀ W : World, (W.cell? ⟨w2.heap.size, 0, none⟩ = some (.int .i64 0) ∧ W.cell? ⟨w2.heap.size, 1, none⟩ = some (.slice A4 N c4) ∧ Below w5.heap.size w5 W) → Calls Tryd.prog 11 #[.slice A1 32 c1, .int .i64 k, .slice A2 12 c2, .slice A4 N c4] W fun e w' => (∃ A' c', e = .returned (.agg #[.int .i64 0, .slice A' N c']) ∧ Bs w' A' N r3) ∧ w'.cell? ⟨w2.heap.size, 0, none⟩ = some (.int .i64 0) ∧ w'.cell? ⟨w2.heap.size, 1, none⟩ = some (.slice A4 N c4) ∧ Below w5.heap.size w5 w') :=
        ⟨fun W ⟨_, _, hW⟩ => (Gx.out A1 32 c1 r1 k A2 12 c2 r2 A4 N c4 L W (hkeep _ _ (ac B5 hW) hP) (p1'.below hW) v1 x1 (p2'.below hW) v2 x2 (q4'.below hW) v4 x4 hn3 hk).mono fun e w' ⟨⟨A', c', he, ho, _, _⟩, hb⟩ => by
          have hB := ac hW hb
          rw [hask] at he ho
          exact ⟨⟨A', c', he, by rw [← stream_twice r1 k r2 r3 p3'.byte, ← hL]; exact ho.bs⟩, (t5.below hB (by omega)).cells.1, (t5.below hB (by omega)).cells.2.1, hB⟩⟩
      have G25 : Shut (∀ (W : World) (A' : Option Addr) (c' : Nat), (W.cell? ⟨w2.heap.size, 0, none⟩ = some (.int .i64 0) ∧ W.cell? ⟨w2.heap.size, 1, none⟩ = some (.slice A4 N c4) ∧ Below w5.heap.size w5 W) → Bs W A' N r3 → Calls Tryd.prog 17 #[.slice A' N c', .slice A3 N c3] W fun e w' => e = .returned (.bool true) ∧ W = w') :=
        ⟨fun W A' c' ⟨_, _, hW⟩ ho => (lwSame_any A' A3 N c' N c3 r3 r3 W ho (p3'.below hW)).mono fun e w' ⟨he, hb⟩ => ⟨by rw [he]; simp, hb⟩⟩
      have hfd3 := fun (A : Option Addr) (c : Nat) (W : World) => fld_bytes 0 A N c W
      go_wp2_with fail
      refine (G28.out w7 ⟨k0, k1, k4⟩).mono ?_
      rintro e w8 ⟨⟨A8, c8, rfl, ho8⟩, g0, g1, g4⟩
      go_wp2_with fail
      refine (G25.out _ _ _ ⟨g0, g1, g4⟩ ho8).mono ?_
      rintro e w9 ⟨rfl, rfl⟩
      have hkeep8 := ac B5 g4
      clear G28 G25
      have g4d := g4.drew
      by_cases h64 : N ≤ 64
      · have h64' : (N : Int) ≤ 64 := by omega
        have h64d : decide ((N : Int) ≤ 64) = true := by simp; omega
        go_wp2_with fail
        go_quiet (fail)
        all_goals
          go_wp2
          go_ret
          exact ⟨rfl, ad (ac B5 g4) _⟩
      · have h64' : ¬ (N : Int) ≤ 64 := by omega
        have h64d : decide ((N : Int) ≤ 64) = false := by simp; omega
        by_cases hbig : 1000000 ≤ k
        · have hbd : decide (1000000 ≤ k) = true := by simp; omega
          go_wp2_with fail
          go_quiet (fail)
          all_goals
            go_wp2
            go_ret
            exact ⟨rfl, ad (ac B5 g4) _⟩
        · have hbd : decide (1000000 ≤ k) = false := by simp; omega
          obtain ⟨m, rfl⟩ : ∃ m, N = m + 64 := ⟨N - 64, by omega⟩
          obtain ⟨b3, o3, rfl, _, _⟩ := p3'.at_ (by omega)
          obtain ⟨b4, o4, rfl, _, _⟩ := q4'.at_ (by omega)
          have hd3 := p3'.part_ 64 m (by omega)
          have hd4 := q4'.part_ 64 m (by omega)
          have lr3 : r3.length = m + 64 := p3'.len
          rw [show (r3.drop 64).take m = r3.drop 64 from List.take_of_length_le (by rw [List.length_drop, lr3]; omega)] at hd3
          rw [show (L.drop 64).take m = L.drop 64 from List.take_of_length_le (by rw [List.length_drop, q4'.len]; omega)] at hd4
          have hac : askCode 32 (k + 1) 12 (m : Int) = 0 := by
            have e1 : inB (k + 1) 0 1000000 = true := by simp [inB]; omega
            have e2 : (m : Int) ≤ 1000 := by omega
            simp [askCode, askOk, e1, e2]
          have hon : streamL r1 (k + 1) r2 (r3.drop 64) = L.drop 64 := by rw [hL, stream_on r1 k r2 r3 (by omega)]
          have G29 : Shut (∀ W : World, (W.cell? ⟨w2.heap.size, 0, none⟩ = some (.int .i64 0) ∧ W.cell? ⟨w2.heap.size, 1, none⟩ = some (.slice (some ⟨b4, o4, none⟩) (m + 64) c4) ∧ Below w5.heap.size w5 W) → Calls Tryd.prog 11 #[.slice A1 32 c1, .int .i64 (k + 1), .slice A2 12 c2, .slice (some ⟨b3, o3 + 64, none⟩) m (c3 - 64)] W fun e w' => (∃ A' c', e = .returned (.agg #[.int .i64 0, .slice A' m c']) ∧ Bs w' A' m (L.drop 64)) ∧ w'.cell? ⟨w2.heap.size, 0, none⟩ = some (.int .i64 0) ∧ w'.cell? ⟨w2.heap.size, 1, none⟩ = some (.slice (some ⟨b4, o4, none⟩) (m + 64) c4) ∧ Below w5.heap.size w5 w') :=
            ⟨fun W ⟨_, _, hW⟩ => (Gx.out A1 32 c1 r1 (k + 1) A2 12 c2 r2 (some ⟨b3, o3 + 64, none⟩) m (c3 - 64) (r3.drop 64) W (hkeep _ _ (ac B5 hW) hP) (p1'.below hW) v1 x1 (p2'.below hW) v2 x2 (hd3.below hW) (by omega) (fun e => by cases e) (by omega) (by omega)).mono fun e w' ⟨⟨A', c', he, ho, _, _⟩, hb⟩ => by
              have hB := ac hW hb
              rw [hac] at he ho
              exact ⟨⟨A', c', he, by rw [← hon]; exact ho.bs⟩, (t5.below hB (by omega)).cells.1, (t5.below hB (by omega)).cells.2.1, hB⟩⟩
          have G27 : Shut (∀ (W : World) (A' : Option Addr) (c' : Nat), (W.cell? ⟨w2.heap.size, 0, none⟩ = some (.int .i64 0) ∧ W.cell? ⟨w2.heap.size, 1, none⟩ = some (.slice (some ⟨b4, o4, none⟩) (m + 64) c4) ∧ Below w5.heap.size w5 W) → Bs W A' m (L.drop 64) → Calls Tryd.prog 17 #[.slice A' m c', .slice (some ⟨b4, o4 + 64, none⟩) m (c4 - 64)] W fun e w' => e = .returned (.bool true) ∧ W = w') :=
            ⟨fun W A' c' ⟨_, _, hW⟩ ho => (lwSame_any A' _ m c' m (c4 - 64) _ _ W ho (hd4.below hW)).mono fun e w' ⟨he, hb⟩ => ⟨by rw [he]; simp, hb⟩⟩
          have hfd4 := fun (A : Option Addr) (c : Nat) (W : World) => fld_bytes 0 A m c W
          have hwk : IntKind.i64.wrap (k + 1) = k + 1 := IntWalk.i64_in _ (by omega)
          have hc3 : ¬ c3 = 64 := by omega
          have hc4 : ¬ c4 = 64 := by omega
          have hq1 : (64 : Int) ≤ (m : Int) + 64 := by omega
          have hq2 : (m : Int) + 64 ≤ (c3 : Int) := by omega
          have hq3 : (m : Int) + 64 ≤ (c4 : Int) := by omega
          have h64e : decide ((m : Int) + 64 ≤ 64) = false := by simp; omega
          have h64f : ¬ (m : Int) + 64 ≤ 64 := by omega
          have hbf : ¬ 1000000 ≤ k := by omega
          clear hon hL hac hd3 hd4 lr3 h64 h64' h64d
          go_wp2_with fail
          go_region_held3 (fun W => W.cell? ⟨w2.heap.size, 0, none⟩ = some (.int .i64 0) ∧ W.cell? ⟨w2.heap.size, 1, none⟩ = some (.slice (some ⟨b4, o4, none⟩) (m + 64) c4) ∧ Below w5.heap.size w5 W)
            (first | (exact ⟨by assumption, by assumption, by assumption⟩) | (exact ⟨g0, g1, g4d⟩) | go_keep)
            (first
              | (go_at_call 11; refine (G29.out _ ?_).mono ?_; (first | assumption | (simp [*]; done)); rintro e w9 ⟨⟨A9, c9, rfl, ho9⟩, i0, i1, i4⟩)
              | (go_at_call 17; refine (G27.out _ _ _ ?_ ?_).mono ?_; (first | assumption | (simp [*]; done)); assumption; rintro e w' ⟨rfl, rfl⟩))
          all_goals
            go_wp2
            go_ret
            exact ⟨rfl, ac B5 i4⟩
    · have hcb : (C != 0) = true := by simpa using hC0
      go_wp2
      go_ret
      exact ⟨rfl, ac B5 k4⟩
end Go.Proofs.YtcanmhlhnihijaaDoor
