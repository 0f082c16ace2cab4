/- The walk of FnBoxes, over the program's contracts as premises. -/
import Derived.Test.YtcanmhlhnihijaaDoorCipDrw
import Derived.Test.YtcanmhlhnihijaaDoorTurnsC
import Derived.Deep.RegionHeld3
namespace Go.Proofs.YtcanmhlhnihijaaDoor
open Go.RowKit

/-- the answer with a code and bytes in memory of its own, and room for them; no room where there is no block -/
def RoomAns (code : Int) (n : Nat) (l : List Int) (w : World) (e : Ending) (w' : World) : Prop :=
  (∃ A c, e = .returned (.agg #[.int .i64 code, .slice A n c]) ∧ Ow w' w.heap.size A n l ∧ n ≤ c ∧ (A = none → c = 0)) ∧ Below w.heap.size w w'

set_option maxRecDepth 100000 in
set_option maxHeartbeats 4000000 in
theorem boxes_walk (A : Option Addr) (n c : Nat) (l : List Int) (w : World) (h : Bs w A n l) (hn : n ≤ 1048576)
    (P : World → Prop) (hP : P w) (hkeep : ∀ W W' : World, Below W.heap.size W W' → P W → P W')
    (Gs : Shut (∀ (A1 : Option Addr) (n1 c1 : Nat) (r1 : List Int) (A2 : Option Addr) (n2 c2 : Nat) (r2 : List Int) (A3 : Option Addr) (n3 c3 : Nat) (r3 : List Int) (A4 : Option Addr) (n4 c4 : Nat) (r4 : List Int) (W : World) (_ : P W) (_ : Bs W A1 n1 r1) (_ : n1 ≤ c1) (_ : A1 = none → c1 = 0) (_ : n1 ≤ 1001) (_ : Bs W A2 n2 r2) (_ : n2 ≤ c2) (_ : A2 = none → c2 = 0) (_ : n2 ≤ 1001) (_ : Bs W A3 n3 r3) (_ : n3 ≤ c3) (_ : A3 = none → c3 = 0) (_ : n3 ≤ 1001) (_ : Bs W A4 n4 r4) (_ : n4 ≤ c4) (_ : A4 = none → c4 = 0) (_ : n4 ≤ 1001),
      Calls Tryd.prog 19 #[.slice A1 n1 c1, .slice A2 n2 c2, .slice A3 n3 c3, .slice A4 n4 c4] W (RoomAns (askCode n1 0 n2 (maxN n3 n4 : Int)) (okN (askCode n1 0 n2 (maxN n3 n4 : Int)) (n4 + 16)) (okL (askCode n1 0 n2 (maxN n3 n4 : Int)) (sealL r1 r2 r3 r4)) W)))
    (Go : Shut (∀ (A1 : Option Addr) (n1 c1 : Nat) (r1 : List Int) (A2 : Option Addr) (n2 c2 : Nat) (r2 : List Int) (A3 : Option Addr) (n3 c3 : Nat) (r3 : List Int) (A4 : Option Addr) (n4 c4 : Nat) (r4 : List Int) (W : World) (_ : P W) (_ : Bs W A1 n1 r1) (_ : n1 ≤ c1) (_ : A1 = none → c1 = 0) (_ : n1 ≤ 1001) (_ : Bs W A2 n2 r2) (_ : n2 ≤ c2) (_ : A2 = none → c2 = 0) (_ : n2 ≤ 1001) (_ : Bs W A3 n3 r3) (_ : n3 ≤ c3) (_ : A3 = none → c3 = 0) (_ : n3 ≤ 1001) (_ : Bs W A4 n4 r4) (_ : n4 ≤ c4) (_ : A4 = none → c4 = 0) (_ : n4 ≤ 1001),
      Calls Tryd.prog 21 #[.slice A1 n1 c1, .slice A2 n2 c2, .slice A3 n3 c3, .slice A4 n4 c4] W (RoomAns (openCode (askCode n1 0 n2 (maxN n3 n4 : Int)) r1 r2 r3 r4) (okN (openCode (askCode n1 0 n2 (maxN n3 n4 : Int)) r1 r2 r3 r4) (n4 - 16)) (okL (openCode (askCode n1 0 n2 (maxN n3 n4 : Int)) r1 r2 r3 r4) (openL r1 r2 r4)) W)))
    (Gp : Shut (∀ (A1 : Option Addr) (n1 c1 : Nat) (r1 : List Int) (A2 : Option Addr) (n2 c2 : Nat) (r2 : List Int) (W : World) (_ : P W) (_ : Bs W A1 n1 r1) (_ : n1 ≤ c1) (_ : A1 = none → c1 = 0) (_ : n1 ≤ 1001) (_ : Bs W A2 n2 r2) (_ : n2 ≤ c2) (_ : A2 = none → c2 = 0) (_ : n2 ≤ 1001),
      Calls Tryd.prog 23 #[.slice A1 n1 c1, .slice A2 n2 c2] W (RoomAns (polyCode n1 n2) (okN (polyCode n1 n2) 16) (okL (polyCode n1 n2) (polyTag r1 r2)) W))) :
    Calls Tryd.prog 4 #[.slice A n c] w fun e w' => e = .returned (.bool true) ∧ Below w.heap.size w w' := by
  have hd : decide (1048576 < n) = false := by simpa using hn
  have Hd := Lib.hid hd
  clear hd
  go_enter Tryd.func4, Tryd.ntmps4
  go_wp2_with fail
  refine (lwBig_any _ _ _ _ (by omega)).mono ?_
  rintro e w0 ⟨rfl, rfl⟩
  rw [Hd.out]
  go_wp2_with fail
  refine (drawSealBox_any _ _ _ _ _ h hn).mono ?_
  rintro e w1 ⟨⟨A1, c1, n1, r1, A2, c2, n2, r2, A3, c3, n3, r3, A4, c4, n4, r4, rfl, d1, d2, d3, d4, hn1, hn2, hn3, hn4⟩, b1⟩
  have v1 := d1.1.cap
  have x1 := d1.1.nilcap
  have p1 := (d1.1.ow' d1.2).bs
  clear d1
  have v2 := d2.1.cap
  have x2 := d2.1.nilcap
  have p2 := (d2.1.ow' d2.2).bs
  clear d2
  have v3 := d3.1.cap
  have x3 := d3.1.nilcap
  have p3 := (d3.1.ow' d3.2).bs
  clear d3
  have v4 := d4.1.cap
  have x4 := d4.1.nilcap
  have p4 := (d4.1.ow' d4.2).bs
  clear d4
  go_wp2_with fail
  refine (Gs.out A1 n1 c1 r1 A2 n2 c2 r2 A3 n3 c3 r3 A4 n4 c4 r4 w1 (hkeep _ _ b1 hP) p1 v1 x1 (by omega) p2 v2 x2 (by omega) p3 v3 x3 (by omega) p4 v4 x4 (by omega)).mono ?_
  rintro e w2 ⟨⟨A5, c5, rfl, q5, vA5, xA5⟩, b2⟩
  replace q5 := q5.bs
  obtain ⟨C, hC⟩ : ∃ C, C = askCode n1 0 n2 (maxN n3 n4 : Int) := ⟨_, rfl⟩
  rw [← hC] at q5 vA5
  rw [← hC]
  obtain ⟨N, hN⟩ : ∃ N, N = okN C (n4 + 16) := ⟨_, rfl⟩
  obtain ⟨L, hL⟩ : ∃ L, L = okL C (sealL r1 r2 r3 r4) := ⟨_, rfl⟩
  rw [← hN, ← hL] at q5
  rw [← hN] at vA5
  rw [← hN]
  have HC := Shut.mk hC
  have HN := Shut.mk hN
  have HL := Shut.mk hL
  clear hC hN hL
  have B2 := ac b1 b2
  have t2 := Two.new w2 27 (.int .i64 C) (.slice A5 N c5)
  go_wp2_with fail
  refine (drawOpenBox_any _ _ _ _ _ (h.below (ab B2 _)) hn).mono ?_
  rintro e w3 ⟨⟨A6, c6, n6, r6, A7, c7, n7, r7, A8, c8, n8, r8, A9, c9, n9, r9, rfl, d6, d7, d8, d9, hn6, hn7, hn8, hn9⟩, b3⟩
  have B3 := ac (ab B2 (.cells #[.int .i64 C, .slice A5 N c5] 27)) b3
  have t3 := t2.below b3 (by simp)
  have v6 := d6.1.cap
  have x6 := d6.1.nilcap
  have p6 := (d6.1.ow' d6.2).bs
  clear d6
  have v7a := d7.1.cap
  have x7 := d7.1.nilcap
  have p7 := (d7.1.ow' d7.2).bs
  clear d7
  have v8 := d8.1.cap
  have x8 := d8.1.nilcap
  have p8 := (d8.1.ow' d8.2).bs
  clear d8
  have v9 := d9.1.cap
  have x9 := d9.1.nilcap
  have p9 := (d9.1.ow' d9.2).bs
  clear d9
  go_wp2_with fail
  refine (Go.out A6 n6 c6 r6 A7 n7 c7 r7 A8 n8 c8 r8 A9 n9 c9 r9 w3 (hkeep _ _ B3 hP) p6 v6 x6 (by omega) p7 v7a x7 (by omega) p8 v8 x8 (by omega) p9 v9 x9 (by omega)).mono ?_
  rintro e w4 ⟨⟨A10, c10, rfl, q10, vA10, xA10⟩, b4⟩
  replace q10 := q10.bs
  obtain ⟨D, hD⟩ : ∃ C, C = openCode (askCode n6 0 n7 (maxN n8 n9 : Int)) r6 r7 r8 r9 := ⟨_, rfl⟩
  rw [← hD] at q10 vA10
  rw [← hD]
  obtain ⟨M, hM⟩ : ∃ N, N = okN D (n9 - 16) := ⟨_, rfl⟩
  obtain ⟨K, hK⟩ : ∃ L, L = okL D (openL r6 r7 r9) := ⟨_, rfl⟩
  rw [← hM, ← hK] at q10
  rw [← hM] at vA10
  rw [← hM]
  have HD := Shut.mk hD
  have HM := Shut.mk hM
  have HK := Shut.mk hK
  clear hD hM hK
  have B4 := ac B3 b4
  have u4 := Two.new w4 27 (.int .i64 D) (.slice A10 M c10)
  go_wp2_with fail
  refine (drawPolyTag_any _ _ _ _ _ (h.below (ab B4 _)) hn).mono ?_
  rintro e w5 ⟨⟨A11, c11, n11, r11, A12, c12, n12, r12, rfl, d11, d12, hn11, hn12⟩, b5⟩
  have B5 := ac (ab B4 (.cells #[.int .i64 D, .slice A10 M c10] 27)) b5
  have u5 := u4.below b5 (by simp)
  have v11 := d11.1.cap
  have x11 := d11.1.nilcap
  have p11 := (d11.1.ow' d11.2).bs
  clear d11
  have v12 := d12.1.cap
  have x12 := d12.1.nilcap
  have p12 := (d12.1.ow' d12.2).bs
  clear d12
  go_wp2_with fail
  refine (Gp.out A11 n11 c11 r11 A12 n12 c12 r12 w5 (hkeep _ _ B5 hP) p11 v11 x11 (by omega) p12 v12 x12 (by omega)).mono ?_
  rintro e w6 ⟨⟨A13, c13, rfl, q13, vA13, xA13⟩, b6⟩
  replace q13 := q13.bs
  obtain ⟨E, hE⟩ : ∃ C, C = polyCode n11 n12 := ⟨_, rfl⟩
  rw [← hE] at q13 vA13
  rw [← hE]
  obtain ⟨Q, hQ⟩ : ∃ N, N = okN E (16) := ⟨_, rfl⟩
  obtain ⟨J, hJ⟩ : ∃ L, L = okL E (polyTag r11 r12) := ⟨_, rfl⟩
  rw [← hQ, ← hJ] at q13
  rw [← hQ] at vA13
  rw [← hQ]
  have HE := Shut.mk hE
  have HQ := Shut.mk hQ
  have HJ := Shut.mk hJ
  clear hE hQ hJ
  have B6 := ac B5 b6
  have s2 := b2.size
  have s3 := b3.size
  have s4 := b4.size
  have s5 := b5.size
  have s6 := b6.size
  rw [World.size_alloc] at s3 s5
  have v6' := Two.new w6 27 (.int .i64 E) (.slice A13 Q c13)
  have b7 := ab (Below.refl w6.heap.size w6) (.cells #[.int .i64 E, .slice A13 Q c13] 27)
  have t7 := ((((t3.below b4 (by omega)).alloc (.cells #[.int .i64 D, .slice A10 M c10] 27) (by omega)).below b5 (by rw [World.size_alloc]; omega)).below b6 (by omega)).below b7 (by omega)
  have u7 := (u5.below b6 (by omega)).below b7 (by omega)
  have B7 := ac B6 b7
  replace p1 := ((((((p1.below b2).alloc (.cells #[.int .i64 C, .slice A5 N c5] 27)).below b3).below b4).alloc (.cells #[.int .i64 D, .slice A10 M c10] 27)).below b5).below b6 |>.below b7
  replace p2 := ((((((p2.below b2).alloc (.cells #[.int .i64 C, .slice A5 N c5] 27)).below b3).below b4).alloc (.cells #[.int .i64 D, .slice A10 M c10] 27)).below b5).below b6 |>.below b7
  replace p3 := ((((((p3.below b2).alloc (.cells #[.int .i64 C, .slice A5 N c5] 27)).below b3).below b4).alloc (.cells #[.int .i64 D, .slice A10 M c10] 27)).below b5).below b6 |>.below b7
  replace p4 := ((((((p4.below b2).alloc (.cells #[.int .i64 C, .slice A5 N c5] 27)).below b3).below b4).alloc (.cells #[.int .i64 D, .slice A10 M c10] 27)).below b5).below b6 |>.below b7
  replace q5 := (((((q5.alloc (.cells #[.int .i64 C, .slice A5 N c5] 27)).below b3).below b4).alloc (.cells #[.int .i64 D, .slice A10 M c10] 27)).below b5).below b6 |>.below b7
  replace p6 := (((p6.below b4).alloc (.cells #[.int .i64 D, .slice A10 M c10] 27)).below b5).below b6 |>.below b7
  replace p7 := (((p7.below b4).alloc (.cells #[.int .i64 D, .slice A10 M c10] 27)).below b5).below b6 |>.below b7
  replace p8 := (((p8.below b4).alloc (.cells #[.int .i64 D, .slice A10 M c10] 27)).below b5).below b6 |>.below b7
  replace p9 := (((p9.below b4).alloc (.cells #[.int .i64 D, .slice A10 M c10] 27)).below b5).below b6 |>.below b7
  replace q10 := ((q10.alloc (.cells #[.int .i64 D, .slice A10 M c10] 27)).below b5).below b6 |>.below b7
  replace p11 := (p11.below b6).below b7
  replace p12 := (p12.below b6).below b7
  replace q13 := q13.below b7
  have s24 : w2.heap.size < w6.heap.size := by omega
  have s46 : w4.heap.size < w6.heap.size := by omega
  go_wp2_with fail
  clear t3 t2 u4 u5 b6 b5 b4 b3 b2 b1 B2 B3 B4 B5 B6 s2 s3 s4 s5 s6
  generalize hw7 : w6.alloc (.cells #[.int .i64 E, .slice A13 Q c13] 27) = w7 at *
  have v7 : Two w7 w6.heap.size 27 (.int .i64 E) (.slice A13 Q c13) := v6'
  have s7 : w6.heap.size < w7.heap.size := by rw [← hw7, World.size_alloc]; omega
  have s27 : w2.heap.size < w7.heap.size := by omega
  have s47 : w4.heap.size < w7.heap.size := by omega
  clear hw7 b7 v6'
  obtain ⟨i0, i1, _, _⟩ := t7.cells
  obtain ⟨i2, i3, _, _⟩ := u7.cells
  obtain ⟨i4, i5, _, _⟩ := v7.cells
  have Ga : Shut (∀ (W : World), (W.cell? ⟨w2.heap.size, 0, none⟩ = some (.int .i64 C) ∧ W.cell? ⟨w2.heap.size, 1, none⟩ = some (.slice A5 N c5) ∧ W.cell? ⟨w4.heap.size, 0, none⟩ = some (.int .i64 D) ∧ W.cell? ⟨w4.heap.size, 1, none⟩ = some (.slice A10 M c10) ∧ W.cell? ⟨w6.heap.size, 0, none⟩ = some (.int .i64 E) ∧ W.cell? ⟨w6.heap.size, 1, none⟩ = some (.slice A13 Q c13) ∧ Below w7.heap.size w7 W) → Calls Tryd.prog 24 #[.slice A1 n1 c1, .slice A2 n2 c2, .slice A3 n3 c3, .slice A4 n4 c4] W fun e w' => (∃ A' c', e = .returned (.agg #[.int .i64 C, .slice A' N c']) ∧ Bs w' A' N L) ∧ w'.cell? ⟨w2.heap.size, 0, none⟩ = some (.int .i64 C) ∧ w'.cell? ⟨w2.heap.size, 1, none⟩ = some (.slice A5 N c5) ∧ w'.cell? ⟨w4.heap.size, 0, none⟩ = some (.int .i64 D) ∧ w'.cell? ⟨w4.heap.size, 1, none⟩ = some (.slice A10 M c10) ∧ w'.cell? ⟨w6.heap.size, 0, none⟩ = some (.int .i64 E) ∧ w'.cell? ⟨w6.heap.size, 1, none⟩ = some (.slice A13 Q c13) ∧ Below w7.heap.size w7 w') :=
    ⟨fun W ⟨_, _, _, _, _, _, hW⟩ => (specSealBox_any A1 n1 c1 r1 A2 n2 c2 r2 A3 n3 c3 r3 A4 n4 c4 r4 W (p1.below hW) v1 (p2.below hW) v2 (p3.below hW) x3 (p4.below hW)).mono fun e w' ⟨⟨A', c', he, ho⟩, hb⟩ => by
      have hB := ac hW hb
      exact ⟨⟨A', c', by rw [HN.out, HC.out]; exact he, by rw [HN.out, HL.out, HC.out]; exact ho.bs⟩, (t7.below hB (by omega)).cells.1, (t7.below hB (by omega)).cells.2.1, (u7.below hB (by omega)).cells.1, (u7.below hB (by omega)).cells.2.1, (v7.below hB (by omega)).cells.1, (v7.below hB (by omega)).cells.2.1, hB⟩⟩
  have Gb : Shut (∀ (W : World), (W.cell? ⟨w2.heap.size, 0, none⟩ = some (.int .i64 C) ∧ W.cell? ⟨w2.heap.size, 1, none⟩ = some (.slice A5 N c5) ∧ W.cell? ⟨w4.heap.size, 0, none⟩ = some (.int .i64 D) ∧ W.cell? ⟨w4.heap.size, 1, none⟩ = some (.slice A10 M c10) ∧ W.cell? ⟨w6.heap.size, 0, none⟩ = some (.int .i64 E) ∧ W.cell? ⟨w6.heap.size, 1, none⟩ = some (.slice A13 Q c13) ∧ Below w7.heap.size w7 W) → Calls Tryd.prog 25 #[.slice A6 n6 c6, .slice A7 n7 c7, .slice A8 n8 c8, .slice A9 n9 c9] W fun e w' => (∃ A' c', e = .returned (.agg #[.int .i64 D, .slice A' M c']) ∧ Bs w' A' M K) ∧ w'.cell? ⟨w2.heap.size, 0, none⟩ = some (.int .i64 C) ∧ w'.cell? ⟨w2.heap.size, 1, none⟩ = some (.slice A5 N c5) ∧ w'.cell? ⟨w4.heap.size, 0, none⟩ = some (.int .i64 D) ∧ w'.cell? ⟨w4.heap.size, 1, none⟩ = some (.slice A10 M c10) ∧ w'.cell? ⟨w6.heap.size, 0, none⟩ = some (.int .i64 E) ∧ w'.cell? ⟨w6.heap.size, 1, none⟩ = some (.slice A13 Q c13) ∧ Below w7.heap.size w7 w') :=
    ⟨fun W ⟨_, _, _, _, _, _, hW⟩ => (specOpenBox_any A6 n6 c6 r6 A7 n7 c7 r7 A8 n8 c8 r8 A9 n9 c9 r9 W (p6.below hW) v6 (p7.below hW) v7a (p8.below hW) x8 (p9.below hW) v9).mono fun e w' ⟨⟨A', c', he, ho⟩, hb⟩ => by
      have hB := ac hW hb
      exact ⟨⟨A', c', by rw [HM.out, HD.out]; exact he, by rw [HM.out, HK.out, HD.out]; exact ho.bs⟩, (t7.below hB (by omega)).cells.1, (t7.below hB (by omega)).cells.2.1, (u7.below hB (by omega)).cells.1, (u7.below hB (by omega)).cells.2.1, (v7.below hB (by omega)).cells.1, (v7.below hB (by omega)).cells.2.1, hB⟩⟩
  have Gc : Shut (∀ (W : World), (W.cell? ⟨w2.heap.size, 0, none⟩ = some (.int .i64 C) ∧ W.cell? ⟨w2.heap.size, 1, none⟩ = some (.slice A5 N c5) ∧ W.cell? ⟨w4.heap.size, 0, none⟩ = some (.int .i64 D) ∧ W.cell? ⟨w4.heap.size, 1, none⟩ = some (.slice A10 M c10) ∧ W.cell? ⟨w6.heap.size, 0, none⟩ = some (.int .i64 E) ∧ W.cell? ⟨w6.heap.size, 1, none⟩ = some (.slice A13 Q c13) ∧ Below w7.heap.size w7 W) → Calls Tryd.prog 26 #[.slice A11 n11 c11, .slice A12 n12 c12] W fun e w' => (∃ A' c', e = .returned (.agg #[.int .i64 E, .slice A' Q c']) ∧ Bs w' A' Q J) ∧ w'.cell? ⟨w2.heap.size, 0, none⟩ = some (.int .i64 C) ∧ w'.cell? ⟨w2.heap.size, 1, none⟩ = some (.slice A5 N c5) ∧ w'.cell? ⟨w4.heap.size, 0, none⟩ = some (.int .i64 D) ∧ w'.cell? ⟨w4.heap.size, 1, none⟩ = some (.slice A10 M c10) ∧ w'.cell? ⟨w6.heap.size, 0, none⟩ = some (.int .i64 E) ∧ w'.cell? ⟨w6.heap.size, 1, none⟩ = some (.slice A13 Q c13) ∧ Below w7.heap.size w7 w') :=
    ⟨fun W ⟨_, _, _, _, _, _, hW⟩ => (specPolyTag_any A11 n11 c11 r11 A12 n12 c12 r12 W (p11.below hW) v11 (p12.below hW) v12).mono fun e w' ⟨⟨A', c', he, ho⟩, hb⟩ => by
      have hB := ac hW hb
      exact ⟨⟨A', c', by rw [HQ.out, HE.out]; exact he, by rw [HQ.out, HJ.out, HE.out]; exact ho.bs⟩, (t7.below hB (by omega)).cells.1, (t7.below hB (by omega)).cells.2.1, (u7.below hB (by omega)).cells.1, (u7.below hB (by omega)).cells.2.1, (v7.below hB (by omega)).cells.1, (v7.below hB (by omega)).cells.2.1, hB⟩⟩
  have Gd : Shut (∀ (W : World) (A' : Option Addr) (c' : Nat), (W.cell? ⟨w2.heap.size, 0, none⟩ = some (.int .i64 C) ∧ W.cell? ⟨w2.heap.size, 1, none⟩ = some (.slice A5 N c5) ∧ W.cell? ⟨w4.heap.size, 0, none⟩ = some (.int .i64 D) ∧ W.cell? ⟨w4.heap.size, 1, none⟩ = some (.slice A10 M c10) ∧ W.cell? ⟨w6.heap.size, 0, none⟩ = some (.int .i64 E) ∧ W.cell? ⟨w6.heap.size, 1, none⟩ = some (.slice A13 Q c13) ∧ Below w7.heap.size w7 W) → Bs W A' N L → Calls Tryd.prog 14 #[.agg #[.int .i64 C, .slice A5 N c5], .agg #[.int .i64 C, .slice A' N c']] W fun e w' => e = .returned (.bool true) ∧ w'.cell? ⟨w2.heap.size, 0, none⟩ = some (.int .i64 C) ∧ w'.cell? ⟨w2.heap.size, 1, none⟩ = some (.slice A5 N c5) ∧ w'.cell? ⟨w4.heap.size, 0, none⟩ = some (.int .i64 D) ∧ w'.cell? ⟨w4.heap.size, 1, none⟩ = some (.slice A10 M c10) ∧ w'.cell? ⟨w6.heap.size, 0, none⟩ = some (.int .i64 E) ∧ w'.cell? ⟨w6.heap.size, 1, none⟩ = some (.slice A13 Q c13) ∧ Below w7.heap.size w7 w') :=
    ⟨fun W A' c' ⟨_, _, _, _, _, _, hW⟩ ho => (lwBytes_any C C A5 A' N c5 N c' L L W (q5.below hW) ho).mono fun e w' ⟨he, hb⟩ => by
      have hB := ac hW hb
      exact ⟨by rw [he]; simp, (t7.below hB (by omega)).cells.1, (t7.below hB (by omega)).cells.2.1, (u7.below hB (by omega)).cells.1, (u7.below hB (by omega)).cells.2.1, (v7.below hB (by omega)).cells.1, (v7.below hB (by omega)).cells.2.1, hB⟩⟩
  have Ge : Shut (∀ (W : World) (A' : Option Addr) (c' : Nat), (W.cell? ⟨w2.heap.size, 0, none⟩ = some (.int .i64 C) ∧ W.cell? ⟨w2.heap.size, 1, none⟩ = some (.slice A5 N c5) ∧ W.cell? ⟨w4.heap.size, 0, none⟩ = some (.int .i64 D) ∧ W.cell? ⟨w4.heap.size, 1, none⟩ = some (.slice A10 M c10) ∧ W.cell? ⟨w6.heap.size, 0, none⟩ = some (.int .i64 E) ∧ W.cell? ⟨w6.heap.size, 1, none⟩ = some (.slice A13 Q c13) ∧ Below w7.heap.size w7 W) → Bs W A' M K → Calls Tryd.prog 14 #[.agg #[.int .i64 D, .slice A10 M c10], .agg #[.int .i64 D, .slice A' M c']] W fun e w' => e = .returned (.bool true) ∧ w'.cell? ⟨w2.heap.size, 0, none⟩ = some (.int .i64 C) ∧ w'.cell? ⟨w2.heap.size, 1, none⟩ = some (.slice A5 N c5) ∧ w'.cell? ⟨w4.heap.size, 0, none⟩ = some (.int .i64 D) ∧ w'.cell? ⟨w4.heap.size, 1, none⟩ = some (.slice A10 M c10) ∧ w'.cell? ⟨w6.heap.size, 0, none⟩ = some (.int .i64 E) ∧ w'.cell? ⟨w6.heap.size, 1, none⟩ = some (.slice A13 Q c13) ∧ Below w7.heap.size w7 w') :=
    ⟨fun W A' c' ⟨_, _, _, _, _, _, hW⟩ ho => (lwBytes_any D D A10 A' M c10 M c' K K W (q10.below hW) ho).mono fun e w' ⟨he, hb⟩ => by
      have hB := ac hW hb
      exact ⟨by rw [he]; simp, (t7.below hB (by omega)).cells.1, (t7.below hB (by omega)).cells.2.1, (u7.below hB (by omega)).cells.1, (u7.below hB (by omega)).cells.2.1, (v7.below hB (by omega)).cells.1, (v7.below hB (by omega)).cells.2.1, hB⟩⟩
  have Gf : Shut (∀ (W : World) (A' : Option Addr) (c' : Nat), (W.cell? ⟨w2.heap.size, 0, none⟩ = some (.int .i64 C) ∧ W.cell? ⟨w2.heap.size, 1, none⟩ = some (.slice A5 N c5) ∧ W.cell? ⟨w4.heap.size, 0, none⟩ = some (.int .i64 D) ∧ W.cell? ⟨w4.heap.size, 1, none⟩ = some (.slice A10 M c10) ∧ W.cell? ⟨w6.heap.size, 0, none⟩ = some (.int .i64 E) ∧ W.cell? ⟨w6.heap.size, 1, none⟩ = some (.slice A13 Q c13) ∧ Below w7.heap.size w7 W) → Bs W A' Q J → Calls Tryd.prog 14 #[.agg #[.int .i64 E, .slice A13 Q c13], .agg #[.int .i64 E, .slice A' Q c']] W fun e w' => e = .returned (.bool true) ∧ w'.cell? ⟨w2.heap.size, 0, none⟩ = some (.int .i64 C) ∧ w'.cell? ⟨w2.heap.size, 1, none⟩ = some (.slice A5 N c5) ∧ w'.cell? ⟨w4.heap.size, 0, none⟩ = some (.int .i64 D) ∧ w'.cell? ⟨w4.heap.size, 1, none⟩ = some (.slice A10 M c10) ∧ w'.cell? ⟨w6.heap.size, 0, none⟩ = some (.int .i64 E) ∧ w'.cell? ⟨w6.heap.size, 1, none⟩ = some (.slice A13 Q c13) ∧ Below w7.heap.size w7 w') :=
    ⟨fun W A' c' ⟨_, _, _, _, _, _, hW⟩ ho => (lwBytes_any E E A13 A' Q c13 Q c' J J W (q13.below hW) ho).mono fun e w' ⟨he, hb⟩ => by
      have hB := ac hW hb
      exact ⟨by rw [he]; simp, (t7.below hB (by omega)).cells.1, (t7.below hB (by omega)).cells.2.1, (u7.below hB (by omega)).cells.1, (u7.below hB (by omega)).cells.2.1, (v7.below hB (by omega)).cells.1, (v7.below hB (by omega)).cells.2.1, hB⟩⟩
  have hW7 := (Below.refl w7.heap.size w7).drew
  go_region_held3 (fun W => W.cell? ⟨w2.heap.size, 0, none⟩ = some (.int .i64 C) ∧ W.cell? ⟨w2.heap.size, 1, none⟩ = some (.slice A5 N c5) ∧ W.cell? ⟨w4.heap.size, 0, none⟩ = some (.int .i64 D) ∧ W.cell? ⟨w4.heap.size, 1, none⟩ = some (.slice A10 M c10) ∧ W.cell? ⟨w6.heap.size, 0, none⟩ = some (.int .i64 E) ∧ W.cell? ⟨w6.heap.size, 1, none⟩ = some (.slice A13 Q c13) ∧ Below w7.heap.size w7 W)
    (first | (exact ⟨by assumption, by assumption, by assumption, by assumption, by assumption, by assumption, by assumption⟩) | (exact ⟨i0, i1, i2, i3, i4, i5, hW7⟩) | go_keep)
    (first
      | (go_at_call 24; refine (Ga.out _ ?_).mono ?_; (first | assumption | (simp [*]; done)); rintro e w' ⟨⟨A14, c14, rfl, ho1⟩, z0, z1, z2, z3, z4, z5, z6⟩)
      | (go_at_call 25; refine (Gb.out _ ?_).mono ?_; (first | assumption | (simp [*]; done)); rintro e w' ⟨⟨A15, c15, rfl, ho2⟩, z0, z1, z2, z3, z4, z5, z6⟩)
      | (go_at_call 26; refine (Gc.out _ ?_).mono ?_; (first | assumption | (simp [*]; done)); rintro e w' ⟨⟨A16, c16, rfl, ho3⟩, z0, z1, z2, z3, z4, z5, z6⟩)
      | (go_at_call_of 14 A5; refine (Gd.out _ _ _ ?_ ?_).mono ?_; (first | assumption | (simp [*]; done)); assumption; rintro e w' ⟨rfl, z0, z1, z2, z3, z4, z5, z6⟩)
      | (go_at_call_of 14 A10; refine (Ge.out _ _ _ ?_ ?_).mono ?_; (first | assumption | (simp [*]; done)); assumption; rintro e w' ⟨rfl, z0, z1, z2, z3, z4, z5, z6⟩)
      | (go_at_call_of 14 A13; refine (Gf.out _ _ _ ?_ ?_).mono ?_; (first | assumption | (simp [*]; done)); assumption; rintro e w' ⟨rfl, z0, z1, z2, z3, z4, z5, z6⟩))
  obtain ⟨w8, hw8⟩ : ∃ x, x = w' := ⟨_, rfl⟩
  subst hw8
  clear Ga Gb Gc Gd Ge Gf i0 i1 i2 i3 i4 i5 hW7
  by_cases hE0 : E = 0
  · subst hE0
    obtain rfl : Q = 16 := HQ.out.trans rfl
    by_cases hD0 : D = 0
    · subst hD0
      have hoc : askCode n6 0 n7 (maxN n8 n9 : Int) = 0 := by
        have := HD.out
        unfold openCode at this
        by_cases ha : askCode n6 0 n7 (maxN n8 n9 : Int) = 0
        · exact ha
        · rw [if_neg ha] at this; exact absurd this.symm ha
      have hop : openCode 0 r6 r7 r8 r9 = 0 := by have := HD.out.symm; rwa [hoc] at this
      obtain ⟨rfl, rfl, _, hmx⟩ := ask_zero hoc
      obtain ⟨h16, hso⟩ := seal_open r6 r7 r8 r9 p9.byte hop
      rw [p9.len] at h16
      obtain ⟨m, rfl⟩ : ∃ m, n9 = m + 16 := ⟨n9 - 16, by omega⟩
      have hMm : M = m := HM.out.trans (Nat.add_sub_cancel ..)
      subst hMm
      have hK : K = openL r6 r7 r9 := HK.out.trans rfl
      have hmx2 : n8 ≤ 1000 ∧ M + 16 ≤ 1000 := by unfold maxN at hmx; split at hmx <;> omega
      have hac : askCode 32 0 12 (maxN n8 M : Int) = 0 := by
        have e1 : inB 0 0 1000000 = true := by decide
        have e2 : (maxN n8 M : Int) ≤ 1000 := by unfold maxN; split <;> omega
        simp [askCode, askOk, e1, e2]
      have Gh : Shut (∀ W : World, (W.cell? ⟨w2.heap.size, 0, none⟩ = some (.int .i64 C) ∧ W.cell? ⟨w2.heap.size, 1, none⟩ = some (.slice A5 N c5) ∧ W.cell? ⟨w4.heap.size, 0, none⟩ = some (.int .i64 0) ∧ W.cell? ⟨w4.heap.size, 1, none⟩ = some (.slice A10 M c10) ∧ W.cell? ⟨w6.heap.size, 0, none⟩ = some (.int .i64 0) ∧ W.cell? ⟨w6.heap.size, 1, none⟩ = some (.slice A13 16 c13) ∧ Below w7.heap.size w7 W) → Calls Tryd.prog 19 #[.slice A6 32 c6, .slice A7 12 c7, .slice A8 n8 c8, .slice A10 M c10] W fun e w' => (∃ A' c', e = .returned (.agg #[.int .i64 0, .slice A' (M + 16) c']) ∧ Bs w' A' (M + 16) r9) ∧ w'.cell? ⟨w2.heap.size, 0, none⟩ = some (.int .i64 C) ∧ w'.cell? ⟨w2.heap.size, 1, none⟩ = some (.slice A5 N c5) ∧ w'.cell? ⟨w4.heap.size, 0, none⟩ = some (.int .i64 0) ∧ w'.cell? ⟨w4.heap.size, 1, none⟩ = some (.slice A10 M c10) ∧ w'.cell? ⟨w6.heap.size, 0, none⟩ = some (.int .i64 0) ∧ w'.cell? ⟨w6.heap.size, 1, none⟩ = some (.slice A13 16 c13) ∧ Below w7.heap.size w7 w') :=
        ⟨fun W ⟨_, _, _, _, _, _, hW⟩ => (Gs.out A6 32 c6 r6 A7 12 c7 r7 A8 n8 c8 r8 A10 M c10 K W (hkeep _ _ (ac B7 hW) hP) (p6.below hW) v6 x6 (by omega) (p7.below hW) v7a x7 (by omega) (p8.below hW) v8 x8 (by omega) (q10.below hW) vA10 xA10 (by omega)).mono fun e w' ⟨⟨A', c', he, ho, _, _⟩, hb⟩ => by
          have hB := ac hW hb
          rw [hac] at he ho
          exact ⟨⟨A', c', he, by rw [← hso, ← hK]; exact ho.bs⟩, (t7.below hB (by omega)).cells.1, (t7.below hB (by omega)).cells.2.1, (u7.below hB (by omega)).cells.1, (u7.below hB (by omega)).cells.2.1, (v7.below hB (by omega)).cells.1, (v7.below hB (by omega)).cells.2.1, hB⟩⟩
      have Gi : Shut (∀ (W : World) (A' : Option Addr) (c' : Nat), (W.cell? ⟨w2.heap.size, 0, none⟩ = some (.int .i64 C) ∧ W.cell? ⟨w2.heap.size, 1, none⟩ = some (.slice A5 N c5) ∧ W.cell? ⟨w4.heap.size, 0, none⟩ = some (.int .i64 0) ∧ W.cell? ⟨w4.heap.size, 1, none⟩ = some (.slice A10 M c10) ∧ W.cell? ⟨w6.heap.size, 0, none⟩ = some (.int .i64 0) ∧ W.cell? ⟨w6.heap.size, 1, none⟩ = some (.slice A13 16 c13) ∧ Below w7.heap.size w7 W) → Bs W A' (M + 16) r9 → Calls Tryd.prog 17 #[.slice A' (M + 16) c', .slice A9 (M + 16) c9] W fun e w' => e = .returned (.bool true) ∧ W = w') :=
        ⟨fun W A' c' ⟨_, _, _, _, _, _, hW⟩ ho => (lwSame_any A' A9 (M + 16) c' (M + 16) c9 r9 r9 W ho (p9.below hW)).mono fun e w' ⟨he, hb⟩ => ⟨by rw [he]; simp, hb⟩⟩
      have hfd := fun (A : Option Addr) (c : Nat) (W : World) => fld_bytes 0 A (M + 16) c W
      clear hso hK hac hop hoc HD
      go_wp2_with fail
      refine (Gh.out _ ⟨z0, z1, z2, z3, z4, z5, z6⟩).mono ?_
      rintro e w9 ⟨⟨A17, c17, rfl, ho4⟩, y0, y1, y2, y3, y4, y5, y6⟩
      go_wp2_with fail
      refine (Gi.out _ _ _ ⟨y0, y1, y2, y3, y4, y5, y6⟩ ho4).mono ?_
      rintro e w' ⟨rfl, rfl⟩
      clear Gh Gi z0 z1 z2 z3 z4 z5 z6
      by_cases hC0 : C = 0
      · subst hC0
        obtain ⟨rfl, rfl, _, hmy⟩ := ask_zero HC.out.symm
        have hNn : N = n4 + 16 := HN.out.trans rfl
        subst hNn
        have hL : L = sealL r1 r2 r3 r4 := HL.out.trans rfl
        have hfd5 := fun (A : Option Addr) (c : Nat) (W : World) => fld_bytes 0 A n4 c W
        by_cases hbig : 1000 < n4 + 16
        · have hb1 : (1000 : Int) < (n4 : Int) + 16 := by omega
          have hb2 : decide ((1000 : Int) < (n4 : Int) + 16) = true := by simp; omega
          clear hL
          go_wp2
          go_ret
          exact ⟨rfl, ac B7 y6⟩
        · have hb1 : ¬ (1000 : Int) < (n4 : Int) + 16 := by omega
          have hb2 : decide ((1000 : Int) < (n4 : Int) + 16) = false := by simp; omega
          have hos := open_seal r1 r2 r3 r4 p4.byte
          have hac2 : askCode 32 0 12 (maxN n3 (n4 + 16) : Int) = 0 := by
            have e1 : inB 0 0 1000000 = true := by decide
            have e2 : (maxN n3 (n4 + 16) : Int) ≤ 1000 := by unfold maxN at hmy ⊢; split at hmy <;> split <;> omega
            simp [askCode, askOk, e1, e2]
          have Gj : Shut (∀ W : World, Below w7.heap.size w7 W → Calls Tryd.prog 21 #[.slice A1 32 c1, .slice A2 12 c2, .slice A3 n3 c3, .slice A5 (n4 + 16) c5] W fun e w' => (∃ A' c', e = .returned (.agg #[.int .i64 0, .slice A' n4 c']) ∧ Bs w' A' n4 r4) ∧ Below w7.heap.size w7 w') :=
            ⟨fun W hW => (Go.out A1 32 c1 r1 A2 12 c2 r2 A3 n3 c3 r3 A5 (n4 + 16) c5 L W (hkeep _ _ (ac B7 hW) hP) (p1.below hW) v1 x1 (by omega) (p2.below hW) v2 x2 (by omega) (p3.below hW) v3 x3 (by omega) (q5.below hW) vA5 xA5 (by omega)).mono fun e w' ⟨⟨A', c', he, ho, _, _⟩, hb⟩ => by
              rw [hac2, hL, hos.1, hos.2] at ho
              rw [hac2, hL, hos.1] at he
              exact ⟨⟨A', c', he, ho.bs⟩, ac hW hb⟩⟩
          clear hos hac2 hL
          go_wp2_with fail
          refine (Gj.out w9 y6).mono ?_
          rintro e w10 ⟨⟨A18, c18, rfl, ho5⟩, B10⟩
          have p4w := p4.below B10
          clear Gj
          go_wp2_with fail
          refine (lwBytes_any 0 0 A18 A4 n4 c18 n4 c4 r4 r4 w10 ho5 p4w).mono ?_
          rintro e w11 ⟨rfl, b11⟩
          go_wp2
          go_ret
          exact ⟨by simp, ac (ac B7 B10) b11⟩
      · have hcb : (C != 0) = true := by simpa using hC0
        go_wp2
        go_ret
        exact ⟨rfl, ac B7 y6⟩
    
    · have hDb : (D == 0) = false := by simpa using hD0
      by_cases hC0 : C = 0
      · subst hC0
        obtain ⟨rfl, rfl, _, hmy⟩ := ask_zero HC.out.symm
        have hNn : N = n4 + 16 := HN.out.trans rfl
        subst hNn
        have hL : L = sealL r1 r2 r3 r4 := HL.out.trans rfl
        have hfd5 := fun (A : Option Addr) (c : Nat) (W : World) => fld_bytes 0 A n4 c W
        by_cases hbig : 1000 < n4 + 16
        · have hb1 : (1000 : Int) < (n4 : Int) + 16 := by omega
          have hb2 : decide ((1000 : Int) < (n4 : Int) + 16) = true := by simp; omega
          clear hL
          go_wp2
          go_ret
          exact ⟨rfl, ac B7 z6⟩
        · have hb1 : ¬ (1000 : Int) < (n4 : Int) + 16 := by omega
          have hb2 : decide ((1000 : Int) < (n4 : Int) + 16) = false := by simp; omega
          have hos := open_seal r1 r2 r3 r4 p4.byte
          have hac2 : askCode 32 0 12 (maxN n3 (n4 + 16) : Int) = 0 := by
            have e1 : inB 0 0 1000000 = true := by decide
            have e2 : (maxN n3 (n4 + 16) : Int) ≤ 1000 := by unfold maxN at hmy ⊢; split at hmy <;> split <;> omega
            simp [askCode, askOk, e1, e2]
          have Gj : Shut (∀ W : World, Below w7.heap.size w7 W → Calls Tryd.prog 21 #[.slice A1 32 c1, .slice A2 12 c2, .slice A3 n3 c3, .slice A5 (n4 + 16) c5] W fun e w' => (∃ A' c', e = .returned (.agg #[.int .i64 0, .slice A' n4 c']) ∧ Bs w' A' n4 r4) ∧ Below w7.heap.size w7 w') :=
            ⟨fun W hW => (Go.out A1 32 c1 r1 A2 12 c2 r2 A3 n3 c3 r3 A5 (n4 + 16) c5 L W (hkeep _ _ (ac B7 hW) hP) (p1.below hW) v1 x1 (by omega) (p2.below hW) v2 x2 (by omega) (p3.below hW) v3 x3 (by omega) (q5.below hW) vA5 xA5 (by omega)).mono fun e w' ⟨⟨A', c', he, ho, _, _⟩, hb⟩ => by
              rw [hac2, hL, hos.1, hos.2] at ho
              rw [hac2, hL, hos.1] at he
              exact ⟨⟨A', c', he, ho.bs⟩, ac hW hb⟩⟩
          clear hos hac2 hL
          go_wp2_with fail
          refine (Gj.out w8 z6).mono ?_
          rintro e w10 ⟨⟨A18, c18, rfl, ho5⟩, B10⟩
          have p4w := p4.below B10
          clear Gj
          go_wp2_with fail
          refine (lwBytes_any 0 0 A18 A4 n4 c18 n4 c4 r4 r4 w10 ho5 p4w).mono ?_
          rintro e w11 ⟨rfl, b11⟩
          go_wp2
          go_ret
          exact ⟨by simp, ac (ac B7 B10) b11⟩
      · have hcb : (C != 0) = true := by simpa using hC0
        go_wp2
        go_ret
        exact ⟨rfl, ac B7 z6⟩
    
  · have hEb : (E == 0) = false := by simpa using hE0
    by_cases hD0 : D = 0
    · subst hD0
      have hoc : askCode n6 0 n7 (maxN n8 n9 : Int) = 0 := by
        have := HD.out
        unfold openCode at this
        by_cases ha : askCode n6 0 n7 (maxN n8 n9 : Int) = 0
        · exact ha
        · rw [if_neg ha] at this; exact absurd this.symm ha
      have hop : openCode 0 r6 r7 r8 r9 = 0 := by have := HD.out.symm; rwa [hoc] at this
      obtain ⟨rfl, rfl, _, hmx⟩ := ask_zero hoc
      obtain ⟨h16, hso⟩ := seal_open r6 r7 r8 r9 p9.byte hop
      rw [p9.len] at h16
      obtain ⟨m, rfl⟩ : ∃ m, n9 = m + 16 := ⟨n9 - 16, by omega⟩
      have hMm : M = m := HM.out.trans (Nat.add_sub_cancel ..)
      subst hMm
      have hK : K = openL r6 r7 r9 := HK.out.trans rfl
      have hmx2 : n8 ≤ 1000 ∧ M + 16 ≤ 1000 := by unfold maxN at hmx; split at hmx <;> omega
      have hac : askCode 32 0 12 (maxN n8 M : Int) = 0 := by
        have e1 : inB 0 0 1000000 = true := by decide
        have e2 : (maxN n8 M : Int) ≤ 1000 := by unfold maxN; split <;> omega
        simp [askCode, askOk, e1, e2]
      have Gh : Shut (∀ W : World, (W.cell? ⟨w2.heap.size, 0, none⟩ = some (.int .i64 C) ∧ W.cell? ⟨w2.heap.size, 1, none⟩ = some (.slice A5 N c5) ∧ W.cell? ⟨w4.heap.size, 0, none⟩ = some (.int .i64 0) ∧ W.cell? ⟨w4.heap.size, 1, none⟩ = some (.slice A10 M c10) ∧ W.cell? ⟨w6.heap.size, 0, none⟩ = some (.int .i64 E) ∧ W.cell? ⟨w6.heap.size, 1, none⟩ = some (.slice A13 Q c13) ∧ Below w7.heap.size w7 W) → Calls Tryd.prog 19 #[.slice A6 32 c6, .slice A7 12 c7, .slice A8 n8 c8, .slice A10 M c10] W fun e w' => (∃ A' c', e = .returned (.agg #[.int .i64 0, .slice A' (M + 16) c']) ∧ Bs w' A' (M + 16) r9) ∧ w'.cell? ⟨w2.heap.size, 0, none⟩ = some (.int .i64 C) ∧ w'.cell? ⟨w2.heap.size, 1, none⟩ = some (.slice A5 N c5) ∧ w'.cell? ⟨w4.heap.size, 0, none⟩ = some (.int .i64 0) ∧ w'.cell? ⟨w4.heap.size, 1, none⟩ = some (.slice A10 M c10) ∧ w'.cell? ⟨w6.heap.size, 0, none⟩ = some (.int .i64 E) ∧ w'.cell? ⟨w6.heap.size, 1, none⟩ = some (.slice A13 Q c13) ∧ Below w7.heap.size w7 w') :=
        ⟨fun W ⟨_, _, _, _, _, _, hW⟩ => (Gs.out A6 32 c6 r6 A7 12 c7 r7 A8 n8 c8 r8 A10 M c10 K W (hkeep _ _ (ac B7 hW) hP) (p6.below hW) v6 x6 (by omega) (p7.below hW) v7a x7 (by omega) (p8.below hW) v8 x8 (by omega) (q10.below hW) vA10 xA10 (by omega)).mono fun e w' ⟨⟨A', c', he, ho, _, _⟩, hb⟩ => by
          have hB := ac hW hb
          rw [hac] at he ho
          exact ⟨⟨A', c', he, by rw [← hso, ← hK]; exact ho.bs⟩, (t7.below hB (by omega)).cells.1, (t7.below hB (by omega)).cells.2.1, (u7.below hB (by omega)).cells.1, (u7.below hB (by omega)).cells.2.1, (v7.below hB (by omega)).cells.1, (v7.below hB (by omega)).cells.2.1, hB⟩⟩
      have Gi : Shut (∀ (W : World) (A' : Option Addr) (c' : Nat), (W.cell? ⟨w2.heap.size, 0, none⟩ = some (.int .i64 C) ∧ W.cell? ⟨w2.heap.size, 1, none⟩ = some (.slice A5 N c5) ∧ W.cell? ⟨w4.heap.size, 0, none⟩ = some (.int .i64 0) ∧ W.cell? ⟨w4.heap.size, 1, none⟩ = some (.slice A10 M c10) ∧ W.cell? ⟨w6.heap.size, 0, none⟩ = some (.int .i64 E) ∧ W.cell? ⟨w6.heap.size, 1, none⟩ = some (.slice A13 Q c13) ∧ Below w7.heap.size w7 W) → Bs W A' (M + 16) r9 → Calls Tryd.prog 17 #[.slice A' (M + 16) c', .slice A9 (M + 16) c9] W fun e w' => e = .returned (.bool true) ∧ W = w') :=
        ⟨fun W A' c' ⟨_, _, _, _, _, _, hW⟩ ho => (lwSame_any A' A9 (M + 16) c' (M + 16) c9 r9 r9 W ho (p9.below hW)).mono fun e w' ⟨he, hb⟩ => ⟨by rw [he]; simp, hb⟩⟩
      have hfd := fun (A : Option Addr) (c : Nat) (W : World) => fld_bytes 0 A (M + 16) c W
      clear hso hK hac hop hoc HD
      go_wp2_with fail
      refine (Gh.out _ ⟨z0, z1, z2, z3, z4, z5, z6⟩).mono ?_
      rintro e w9 ⟨⟨A17, c17, rfl, ho4⟩, y0, y1, y2, y3, y4, y5, y6⟩
      go_wp2_with fail
      refine (Gi.out _ _ _ ⟨y0, y1, y2, y3, y4, y5, y6⟩ ho4).mono ?_
      rintro e w' ⟨rfl, rfl⟩
      clear Gh Gi z0 z1 z2 z3 z4 z5 z6
      by_cases hC0 : C = 0
      · subst hC0
        obtain ⟨rfl, rfl, _, hmy⟩ := ask_zero HC.out.symm
        have hNn : N = n4 + 16 := HN.out.trans rfl
        subst hNn
        have hL : L = sealL r1 r2 r3 r4 := HL.out.trans rfl
        have hfd5 := fun (A : Option Addr) (c : Nat) (W : World) => fld_bytes 0 A n4 c W
        by_cases hbig : 1000 < n4 + 16
        · have hb1 : (1000 : Int) < (n4 : Int) + 16 := by omega
          have hb2 : decide ((1000 : Int) < (n4 : Int) + 16) = true := by simp; omega
          clear hL
          go_wp2
          go_ret
          exact ⟨rfl, ac B7 y6⟩
        · have hb1 : ¬ (1000 : Int) < (n4 : Int) + 16 := by omega
          have hb2 : decide ((1000 : Int) < (n4 : Int) + 16) = false := by simp; omega
          have hos := open_seal r1 r2 r3 r4 p4.byte
          have hac2 : askCode 32 0 12 (maxN n3 (n4 + 16) : Int) = 0 := by
            have e1 : inB 0 0 1000000 = true := by decide
            have e2 : (maxN n3 (n4 + 16) : Int) ≤ 1000 := by unfold maxN at hmy ⊢; split at hmy <;> split <;> omega
            simp [askCode, askOk, e1, e2]
          have Gj : Shut (∀ W : World, Below w7.heap.size w7 W → Calls Tryd.prog 21 #[.slice A1 32 c1, .slice A2 12 c2, .slice A3 n3 c3, .slice A5 (n4 + 16) c5] W fun e w' => (∃ A' c', e = .returned (.agg #[.int .i64 0, .slice A' n4 c']) ∧ Bs w' A' n4 r4) ∧ Below w7.heap.size w7 w') :=
            ⟨fun W hW => (Go.out A1 32 c1 r1 A2 12 c2 r2 A3 n3 c3 r3 A5 (n4 + 16) c5 L W (hkeep _ _ (ac B7 hW) hP) (p1.below hW) v1 x1 (by omega) (p2.below hW) v2 x2 (by omega) (p3.below hW) v3 x3 (by omega) (q5.below hW) vA5 xA5 (by omega)).mono fun e w' ⟨⟨A', c', he, ho, _, _⟩, hb⟩ => by
              rw [hac2, hL, hos.1, hos.2] at ho
              rw [hac2, hL, hos.1] at he
              exact ⟨⟨A', c', he, ho.bs⟩, ac hW hb⟩⟩
          clear hos hac2 hL
          go_wp2_with fail
          refine (Gj.out w9 y6).mono ?_
          rintro e w10 ⟨⟨A18, c18, rfl, ho5⟩, B10⟩
          have p4w := p4.below B10
          clear Gj
          go_wp2_with fail
          refine (lwBytes_any 0 0 A18 A4 n4 c18 n4 c4 r4 r4 w10 ho5 p4w).mono ?_
          rintro e w11 ⟨rfl, b11⟩
          go_wp2
          go_ret
          exact ⟨by simp, ac (ac B7 B10) b11⟩
      · have hcb : (C != 0) = true := by simpa using hC0
        go_wp2
        go_ret
        exact ⟨rfl, ac B7 y6⟩
    
    · have hDb : (D == 0) = false := by simpa using hD0
      by_cases hC0 : C = 0
      · subst hC0
        obtain ⟨rfl, rfl, _, hmy⟩ := ask_zero HC.out.symm
        have hNn : N = n4 + 16 := HN.out.trans rfl
        subst hNn
        have hL : L = sealL r1 r2 r3 r4 := HL.out.trans rfl
        have hfd5 := fun (A : Option Addr) (c : Nat) (W : World) => fld_bytes 0 A n4 c W
        by_cases hbig : 1000 < n4 + 16
        · have hb1 : (1000 : Int) < (n4 : Int) + 16 := by omega
          have hb2 : decide ((1000 : Int) < (n4 : Int) + 16) = true := by simp; omega
          clear hL
          go_wp2
          go_ret
          exact ⟨rfl, ac B7 z6⟩
        · have hb1 : ¬ (1000 : Int) < (n4 : Int) + 16 := by omega
          have hb2 : decide ((1000 : Int) < (n4 : Int) + 16) = false := by simp; omega
          have hos := open_seal r1 r2 r3 r4 p4.byte
          have hac2 : askCode 32 0 12 (maxN n3 (n4 + 16) : Int) = 0 := by
            have e1 : inB 0 0 1000000 = true := by decide
            have e2 : (maxN n3 (n4 + 16) : Int) ≤ 1000 := by unfold maxN at hmy ⊢; split at hmy <;> split <;> omega
            simp [askCode, askOk, e1, e2]
          have Gj : Shut (∀ W : World, Below w7.heap.size w7 W → Calls Tryd.prog 21 #[.slice A1 32 c1, .slice A2 12 c2, .slice A3 n3 c3, .slice A5 (n4 + 16) c5] W fun e w' => (∃ A' c', e = .returned (.agg #[.int .i64 0, .slice A' n4 c']) ∧ Bs w' A' n4 r4) ∧ Below w7.heap.size w7 w') :=
            ⟨fun W hW => (Go.out A1 32 c1 r1 A2 12 c2 r2 A3 n3 c3 r3 A5 (n4 + 16) c5 L W (hkeep _ _ (ac B7 hW) hP) (p1.below hW) v1 x1 (by omega) (p2.below hW) v2 x2 (by omega) (p3.below hW) v3 x3 (by omega) (q5.below hW) vA5 xA5 (by omega)).mono fun e w' ⟨⟨A', c', he, ho, _, _⟩, hb⟩ => by
              rw [hac2, hL, hos.1, hos.2] at ho
              rw [hac2, hL, hos.1] at he
              exact ⟨⟨A', c', he, ho.bs⟩, ac hW hb⟩⟩
          clear hos hac2 hL
          go_wp2_with fail
          refine (Gj.out w8 z6).mono ?_
          rintro e w10 ⟨⟨A18, c18, rfl, ho5⟩, B10⟩
          have p4w := p4.below B10
          clear Gj
          go_wp2_with fail
          refine (lwBytes_any 0 0 A18 A4 n4 c18 n4 c4 r4 r4 w10 ho5 p4w).mono ?_
          rintro e w11 ⟨rfl, b11⟩
          go_wp2
          go_ret
          exact ⟨by simp, ac (ac B7 B10) b11⟩
      · have hcb : (C != 0) = true := by simpa using hC0
        go_wp2
        go_ret
        exact ⟨rfl, ac B7 z6⟩
    
end Go.Proofs.YtcanmhlhnihijaaDoor
