/- The walk of FnGroups. -/
import Derived.Test.YtgmmoilgmaklgaaGrpE
import Derived.Deep.RegionHeld3
import Derived.Deep.CutRange
namespace Go.Proofs.Ytgmmoilgmaklgaa
open Go.RowKit

set_option maxRecDepth 100000 in
set_option maxHeartbeats 8000000 in
theorem groups_walk (A : Option Addr) (n c : Nat) (l : List Int) (w : World) (h : Bs w A n l) (hn : n ≤ 1048576) :
    Calls Try.prog 3 #[.slice A n c] w fun e w' => e = .returned (.bool true) ∧ Below w.heap.size w w' := by
  have hd : decide (1048576 < n) = false := by simpa using hn
  have Hd := Lib.hid hd
  clear hd
  go_enter Try.func3, Try.ntmps3
  go_wp2_with fail
  refine (lwBig_any _ _ _ _ (by omega)).mono ?_
  rintro e w0 ⟨rfl, rfl⟩
  rw [Hd.out]
  go_wp2_with fail
  refine (drawMulMod_any _ _ _ _ _ h hn).mono ?_
  rintro e w1 ⟨⟨x, z, rfl⟩, b1⟩
  have s1 := b1.size
  have B1 := ac (Below.refl _ w) b1
  have k1 := fun W => implMulMod_any x z W
  have k2 := fun W => specMulMod_any x z W
  have k3 := fun W => implMulMod_any z x W
  rw [(mul_swap x z).1, (mul_swap x z).2] at k3
  generalize mulC x z = C1 at *
  generalize mulV x z = V1 at *
  have I1 := Shut.mk k1
  have M1 := Shut.mk k2
  have J1 := Shut.mk k3
  clear k1 k2 k3
  go_wp2_with fail
  refine (I1.out _).mono ?_
  rintro e w2 ⟨rfl, b2⟩
  have s2 := b2.size
  have B2 := ac B1 b2
  have B2a := ab B2 (.cells #[.int .i64 C1, .int .i64 V1] 27)
  have t2 := Two.new w2 27 (.int .i64 C1) (.int .i64 V1)
  go_wp2_with fail
  refine (drawPowMod_any _ _ _ _ _ (h.below B2a) hn).mono ?_
  rintro e w3 ⟨⟨y, q, hq, rfl⟩, b3⟩
  have s3 := b3.size
  rw [World.size_alloc] at s3
  have B3 := ac B2a b3
  replace t2 := t2.below b3 (by first | (simp; done) | (simp; omega) | omega)
  have k1 := fun W => implPowMod_any y q W hq
  have k2 := fun W => specPowMod_any y q W hq
  have k3 : Shut (powC y q = 0 → q < 9223372036854775807 → 0 ≤ q ∧ (∀ W, Calls Try.prog 13 #[.int .i64 y, .int .i64 (q + 1)] W fun e w' => e = .returned (.agg #[.int .i64 0, .int .i64 (powV y (q + 1))]) ∧ Below W.heap.size W w') ∧ ∀ W, Calls Try.prog 11 #[.int .i64 (powV y q), .int .i64 y] W fun e w' => e = .returned (.agg #[.int .i64 0, .int .i64 (powV y (q + 1))]) ∧ Below W.heap.size W w') :=
    ⟨fun h0 hlt => by
      obtain ⟨e1, e2, e3⟩ := pow_next y q h0
      refine ⟨pow_nn y q h0, fun W => ?_, fun W => ?_⟩
      · have := implPowMod_any y (q + 1) W (by omega)
        rwa [e1] at this
      · have := implMulMod_any (powV y q) y W
        rwa [e2, e3] at this⟩
  generalize powC y q = C2 at *
  generalize powV y q = V2 at *
  generalize powV y (q + 1) = V2n at *
  have I2 := Shut.mk k1
  have M2 := Shut.mk k2
  clear k1 k2
  go_wp2_with fail
  refine (I2.out _).mono ?_
  rintro e w4 ⟨rfl, b4⟩
  have s4 := b4.size
  have B4 := ac B3 b4
  replace t2 := t2.below b4 (by first | (simp; done) | (simp; omega) | omega)
  have B4a := ab B4 (.cells #[.int .i64 C2, .int .i64 V2] 27)
  replace t2 := t2.alloc (.cells #[.int .i64 C2, .int .i64 V2] 27) (by omega)
  have t4 := Two.new w4 27 (.int .i64 C2) (.int .i64 V2)
  go_wp2_with fail
  refine (drawPublicOf_any _ _ _ _ _ (h.below B4a) hn).mono ?_
  rintro e w5 ⟨⟨s, rfl⟩, b5⟩
  have s5 := b5.size
  rw [World.size_alloc] at s5
  have B5 := ac B4a b5
  replace t2 := t2.below b5 (by first | (simp; done) | (simp; omega) | omega)
  replace t4 := t4.below b5 (by first | (simp; done) | (simp; omega) | omega)
  obtain ⟨C3, hC3⟩ : ∃ C, C = pubC s := ⟨_, rfl⟩
  obtain ⟨N3, hN3⟩ : ∃ C, C = eight (pubC s) := ⟨_, rfl⟩
  obtain ⟨L3, hL3⟩ : ∃ C, C = eightL (pubC s) (pubX s) := ⟨_, rfl⟩
  have k1 := fun W => implPublicOf_any s W
  have k2 := fun W => specPublicOf_any s W
  rw [← hN3, ← hL3, ← hC3] at k1 k2
  have X3 := Shut.mk (And.intro hC3 (And.intro hN3 hL3))
  have I3 := Shut.mk k1
  have M3 := Shut.mk k2
  have N3b : N3 ≤ 8 := by rw [hN3]; exact eight_le _
  clear k1 k2 hC3 hN3 hL3
  go_wp2_with fail
  refine (I3.out _).mono ?_
  rintro e w6 ⟨⟨A6, c6, rfl, o6⟩, b6⟩
  have s6 := b6.size
  have B6 := ac B5 b6
  replace t2 := t2.below b6 (by first | (simp; done) | (simp; omega) | omega)
  replace t4 := t4.below b6 (by first | (simp; done) | (simp; omega) | omega)
  have p6 := o6.bs
  clear o6
  have B6a := ab B6 (.cells #[.int .i64 C3, .slice A6 N3 c6] 31)
  replace t2 := t2.alloc (.cells #[.int .i64 C3, .slice A6 N3 c6] 31) (by omega)
  replace t4 := t4.alloc (.cells #[.int .i64 C3, .slice A6 N3 c6] 31) (by omega)
  replace p6 := p6.alloc (.cells #[.int .i64 C3, .slice A6 N3 c6] 31)
  have t6 := Two.new w6 31 (.int .i64 C3) (.slice A6 N3 c6)
  go_wp2_with fail
  refine (drawReadPublic_any _ _ _ _ _ (h.below B6a) hn).mono ?_
  rintro e w7 ⟨⟨A7, c7, m7, r7, rfl, o7, hm7, hr7⟩, b7⟩
  have s7 := b7.size
  rw [World.size_alloc] at s7
  have B7 := ac B6a b7
  replace t2 := t2.below b7 (by first | (simp; done) | (simp; omega) | omega)
  replace t4 := t4.below b7 (by first | (simp; done) | (simp; omega) | omega)
  replace p6 := p6.below b7
  replace t6 := t6.below b7 (by first | (simp; done) | (simp; omega) | omega)
  have p7 := o7.bs
  clear o7
  have k1 := fun W (hb : Bs W A7 m7 r7) => implReadPublic_any A7 m7 c7 r7 W hb (by omega)
  have k2 := fun W (hb : Bs W A7 m7 r7) => specReadPublic_any A7 m7 c7 r7 W hb hr7 (by omega)
  generalize readC m7 r7 = C4 at *
  generalize readV m7 r7 = V4 at *
  have I4 := Shut.mk k1
  have M4 := Shut.mk k2
  clear k1 k2
  go_wp2_with fail
  refine (I4.out _ p7).mono ?_
  rintro e w8 ⟨rfl, b8⟩
  have s8 := b8.size
  have B8 := ac B7 b8
  replace t2 := t2.below b8 (by first | (simp; done) | (simp; omega) | omega)
  replace t4 := t4.below b8 (by first | (simp; done) | (simp; omega) | omega)
  replace p6 := p6.below b8
  replace t6 := t6.below b8 (by first | (simp; done) | (simp; omega) | omega)
  replace p7 := p7.below b8
  have B8a := ab B8 (.cells #[.int .i64 C4, .int .i64 V4] 27)
  replace t2 := t2.alloc (.cells #[.int .i64 C4, .int .i64 V4] 27) (by omega)
  replace t4 := t4.alloc (.cells #[.int .i64 C4, .int .i64 V4] 27) (by omega)
  replace p6 := p6.alloc (.cells #[.int .i64 C4, .int .i64 V4] 27)
  replace t6 := t6.alloc (.cells #[.int .i64 C4, .int .i64 V4] 27) (by omega)
  replace p7 := p7.alloc (.cells #[.int .i64 C4, .int .i64 V4] 27)
  have t8 := Two.new w8 27 (.int .i64 C4) (.int .i64 V4)
  go_wp2_with fail
  refine (drawSharedOf_any _ _ _ _ _ (h.below B8a) hn).mono ?_
  rintro e w9 ⟨⟨v, A9, c9, m9, r9, rfl, o9, hm9, hr9⟩, b9⟩
  have s9 := b9.size
  rw [World.size_alloc] at s9
  have B9 := ac B8a b9
  replace t2 := t2.below b9 (by first | (simp; done) | (simp; omega) | omega)
  replace t4 := t4.below b9 (by first | (simp; done) | (simp; omega) | omega)
  replace p6 := p6.below b9
  replace t6 := t6.below b9 (by first | (simp; done) | (simp; omega) | omega)
  replace p7 := p7.below b9
  replace t8 := t8.below b9 (by first | (simp; done) | (simp; omega) | omega)
  have p9 := o9.bs
  clear o9
  have k1 := fun W (hb : Bs W A9 m9 r9) => implSharedOf_any v A9 m9 c9 r9 W hb (by omega)
  have k2 := fun W (hb : Bs W A9 m9 r9) => specSharedOf_any v A9 m9 c9 r9 W hb hr9 (by omega)
  have N5b := eight_le (sharC v m9 r9)
  generalize eightL (sharC v m9 r9) (sharX v m9 r9) = L5 at *
  generalize eight (sharC v m9 r9) = N5 at *
  generalize sharC v m9 r9 = C5 at *
  have I5 := Shut.mk k1
  have M5 := Shut.mk k2
  clear k1 k2
  go_wp2_with fail
  refine (I5.out _ p9).mono ?_
  rintro e w10 ⟨⟨A10, c10, rfl, o10⟩, b10⟩
  have s10 := b10.size
  have B10 := ac B9 b10
  replace t2 := t2.below b10 (by first | (simp; done) | (simp; omega) | omega)
  replace t4 := t4.below b10 (by first | (simp; done) | (simp; omega) | omega)
  replace p6 := p6.below b10
  replace t6 := t6.below b10 (by first | (simp; done) | (simp; omega) | omega)
  replace p7 := p7.below b10
  replace t8 := t8.below b10 (by first | (simp; done) | (simp; omega) | omega)
  replace p9 := p9.below b10
  have p10 := o10.bs
  clear o10
  have B10a := ab B10 (.cells #[.int .i64 C5, .slice A10 N5 c10] 31)
  replace t2 := t2.alloc (.cells #[.int .i64 C5, .slice A10 N5 c10] 31) (by omega)
  replace t4 := t4.alloc (.cells #[.int .i64 C5, .slice A10 N5 c10] 31) (by omega)
  replace p6 := p6.alloc (.cells #[.int .i64 C5, .slice A10 N5 c10] 31)
  replace t6 := t6.alloc (.cells #[.int .i64 C5, .slice A10 N5 c10] 31) (by omega)
  replace p7 := p7.alloc (.cells #[.int .i64 C5, .slice A10 N5 c10] 31)
  replace t8 := t8.alloc (.cells #[.int .i64 C5, .slice A10 N5 c10] 31) (by omega)
  replace p9 := p9.alloc (.cells #[.int .i64 C5, .slice A10 N5 c10] 31)
  replace p10 := p10.alloc (.cells #[.int .i64 C5, .slice A10 N5 c10] 31)
  have t10 := Two.new w10 31 (.int .i64 C5) (.slice A10 N5 c10)
  obtain ⟨w11, h11⟩ : ∃ w11, w11 = w10.alloc (.cells #[.int .i64 C5, .slice A10 N5 c10] 31) := ⟨_, rfl⟩
  rw [← h11] at t2 t4 p6 t6 p7 t8 p9 p10 t10 B10a
  have s11 : w10.heap.size < w11.heap.size := by rw [h11]; simp
  go_wp2_with fail
  rw [← h11]
  clear h11
  have cs : Shut (∀ W, Below w11.heap.size w11 W → (W.cell? ⟨w2.heap.size, 0, none⟩ = some (.int .i64 C1) ∧ W.cell? ⟨w2.heap.size, 1, none⟩ = some (.int .i64 V1) ∧ W.cell? ⟨w4.heap.size, 0, none⟩ = some (.int .i64 C2) ∧ W.cell? ⟨w4.heap.size, 1, none⟩ = some (.int .i64 V2) ∧ W.cell? ⟨w6.heap.size, 0, none⟩ = some (.int .i64 C3) ∧ W.cell? ⟨w6.heap.size, 1, none⟩ = some (.slice A6 N3 c6) ∧ W.cell? ⟨w8.heap.size, 0, none⟩ = some (.int .i64 C4) ∧ W.cell? ⟨w8.heap.size, 1, none⟩ = some (.int .i64 V4) ∧ W.cell? ⟨w10.heap.size, 0, none⟩ = some (.int .i64 C5) ∧ W.cell? ⟨w10.heap.size, 1, none⟩ = some (.slice A10 N5 c10) ∧ Below w11.heap.size w11 W)) :=
    ⟨fun W hW => ⟨(t2.below hW (by omega)).cells.1, (t2.below hW (by omega)).cells.2.1, (t4.below hW (by omega)).cells.1, (t4.below hW (by omega)).cells.2.1, (t6.below hW (by omega)).cells.1, (t6.below hW (by omega)).cells.2.1, (t8.below hW (by omega)).cells.1, (t8.below hW (by omega)).cells.2.1, (t10.below hW (by omega)).cells.1, (t10.below hW (by omega)).cells.2.1, hW⟩⟩
  have Ga : Shut (∀ (W : World), (W.cell? ⟨w2.heap.size, 0, none⟩ = some (.int .i64 C1) ∧ W.cell? ⟨w2.heap.size, 1, none⟩ = some (.int .i64 V1) ∧ W.cell? ⟨w4.heap.size, 0, none⟩ = some (.int .i64 C2) ∧ W.cell? ⟨w4.heap.size, 1, none⟩ = some (.int .i64 V2) ∧ W.cell? ⟨w6.heap.size, 0, none⟩ = some (.int .i64 C3) ∧ W.cell? ⟨w6.heap.size, 1, none⟩ = some (.slice A6 N3 c6) ∧ W.cell? ⟨w8.heap.size, 0, none⟩ = some (.int .i64 C4) ∧ W.cell? ⟨w8.heap.size, 1, none⟩ = some (.int .i64 V4) ∧ W.cell? ⟨w10.heap.size, 0, none⟩ = some (.int .i64 C5) ∧ W.cell? ⟨w10.heap.size, 1, none⟩ = some (.slice A10 N5 c10) ∧ Below w11.heap.size w11 W) → Calls Try.prog 20 #[.int .i64 x, .int .i64 z] W fun e w' => e = .returned (.agg #[.int .i64 C1, .int .i64 V1]) ∧ w'.cell? ⟨w2.heap.size, 0, none⟩ = some (.int .i64 C1) ∧ w'.cell? ⟨w2.heap.size, 1, none⟩ = some (.int .i64 V1) ∧ w'.cell? ⟨w4.heap.size, 0, none⟩ = some (.int .i64 C2) ∧ w'.cell? ⟨w4.heap.size, 1, none⟩ = some (.int .i64 V2) ∧ w'.cell? ⟨w6.heap.size, 0, none⟩ = some (.int .i64 C3) ∧ w'.cell? ⟨w6.heap.size, 1, none⟩ = some (.slice A6 N3 c6) ∧ w'.cell? ⟨w8.heap.size, 0, none⟩ = some (.int .i64 C4) ∧ w'.cell? ⟨w8.heap.size, 1, none⟩ = some (.int .i64 V4) ∧ w'.cell? ⟨w10.heap.size, 0, none⟩ = some (.int .i64 C5) ∧ w'.cell? ⟨w10.heap.size, 1, none⟩ = some (.slice A10 N5 c10) ∧ Below w11.heap.size w11 w') :=
    ⟨fun W ⟨_, _, _, _, _, _, _, _, _, _, hW⟩ => (M1.out W).mono fun e w' ⟨he, hb⟩ => ⟨he, cs.out _ (ac hW hb)⟩⟩
  have Gb : Shut (∀ (W : World), (W.cell? ⟨w2.heap.size, 0, none⟩ = some (.int .i64 C1) ∧ W.cell? ⟨w2.heap.size, 1, none⟩ = some (.int .i64 V1) ∧ W.cell? ⟨w4.heap.size, 0, none⟩ = some (.int .i64 C2) ∧ W.cell? ⟨w4.heap.size, 1, none⟩ = some (.int .i64 V2) ∧ W.cell? ⟨w6.heap.size, 0, none⟩ = some (.int .i64 C3) ∧ W.cell? ⟨w6.heap.size, 1, none⟩ = some (.slice A6 N3 c6) ∧ W.cell? ⟨w8.heap.size, 0, none⟩ = some (.int .i64 C4) ∧ W.cell? ⟨w8.heap.size, 1, none⟩ = some (.int .i64 V4) ∧ W.cell? ⟨w10.heap.size, 0, none⟩ = some (.int .i64 C5) ∧ W.cell? ⟨w10.heap.size, 1, none⟩ = some (.slice A10 N5 c10) ∧ Below w11.heap.size w11 W) → Calls Try.prog 21 #[.int .i64 y, .int .i64 q] W fun e w' => e = .returned (.agg #[.int .i64 C2, .int .i64 V2]) ∧ w'.cell? ⟨w2.heap.size, 0, none⟩ = some (.int .i64 C1) ∧ w'.cell? ⟨w2.heap.size, 1, none⟩ = some (.int .i64 V1) ∧ w'.cell? ⟨w4.heap.size, 0, none⟩ = some (.int .i64 C2) ∧ w'.cell? ⟨w4.heap.size, 1, none⟩ = some (.int .i64 V2) ∧ w'.cell? ⟨w6.heap.size, 0, none⟩ = some (.int .i64 C3) ∧ w'.cell? ⟨w6.heap.size, 1, none⟩ = some (.slice A6 N3 c6) ∧ w'.cell? ⟨w8.heap.size, 0, none⟩ = some (.int .i64 C4) ∧ w'.cell? ⟨w8.heap.size, 1, none⟩ = some (.int .i64 V4) ∧ w'.cell? ⟨w10.heap.size, 0, none⟩ = some (.int .i64 C5) ∧ w'.cell? ⟨w10.heap.size, 1, none⟩ = some (.slice A10 N5 c10) ∧ Below w11.heap.size w11 w') :=
    ⟨fun W ⟨_, _, _, _, _, _, _, _, _, _, hW⟩ => (M2.out W).mono fun e w' ⟨he, hb⟩ => ⟨he, cs.out _ (ac hW hb)⟩⟩
  have Gc : Shut (∀ (W : World), (W.cell? ⟨w2.heap.size, 0, none⟩ = some (.int .i64 C1) ∧ W.cell? ⟨w2.heap.size, 1, none⟩ = some (.int .i64 V1) ∧ W.cell? ⟨w4.heap.size, 0, none⟩ = some (.int .i64 C2) ∧ W.cell? ⟨w4.heap.size, 1, none⟩ = some (.int .i64 V2) ∧ W.cell? ⟨w6.heap.size, 0, none⟩ = some (.int .i64 C3) ∧ W.cell? ⟨w6.heap.size, 1, none⟩ = some (.slice A6 N3 c6) ∧ W.cell? ⟨w8.heap.size, 0, none⟩ = some (.int .i64 C4) ∧ W.cell? ⟨w8.heap.size, 1, none⟩ = some (.int .i64 V4) ∧ W.cell? ⟨w10.heap.size, 0, none⟩ = some (.int .i64 C5) ∧ W.cell? ⟨w10.heap.size, 1, none⟩ = some (.slice A10 N5 c10) ∧ Below w11.heap.size w11 W) → Calls Try.prog 23 #[.int .i64 s] W fun e w' => (∃ A' c', e = .returned (.agg #[.int .i64 C3, .slice A' N3 c']) ∧ Bs w' A' N3 L3) ∧ w'.cell? ⟨w2.heap.size, 0, none⟩ = some (.int .i64 C1) ∧ w'.cell? ⟨w2.heap.size, 1, none⟩ = some (.int .i64 V1) ∧ w'.cell? ⟨w4.heap.size, 0, none⟩ = some (.int .i64 C2) ∧ w'.cell? ⟨w4.heap.size, 1, none⟩ = some (.int .i64 V2) ∧ w'.cell? ⟨w6.heap.size, 0, none⟩ = some (.int .i64 C3) ∧ w'.cell? ⟨w6.heap.size, 1, none⟩ = some (.slice A6 N3 c6) ∧ w'.cell? ⟨w8.heap.size, 0, none⟩ = some (.int .i64 C4) ∧ w'.cell? ⟨w8.heap.size, 1, none⟩ = some (.int .i64 V4) ∧ w'.cell? ⟨w10.heap.size, 0, none⟩ = some (.int .i64 C5) ∧ w'.cell? ⟨w10.heap.size, 1, none⟩ = some (.slice A10 N5 c10) ∧ Below w11.heap.size w11 w') :=
    ⟨fun W ⟨_, _, _, _, _, _, _, _, _, _, hW⟩ => (M3.out W).mono fun e w' ⟨⟨A', c', he, ho⟩, hb⟩ => ⟨⟨A', c', he, ho.bs⟩, cs.out _ (ac hW hb)⟩⟩
  have Gd : Shut (∀ (W : World), (W.cell? ⟨w2.heap.size, 0, none⟩ = some (.int .i64 C1) ∧ W.cell? ⟨w2.heap.size, 1, none⟩ = some (.int .i64 V1) ∧ W.cell? ⟨w4.heap.size, 0, none⟩ = some (.int .i64 C2) ∧ W.cell? ⟨w4.heap.size, 1, none⟩ = some (.int .i64 V2) ∧ W.cell? ⟨w6.heap.size, 0, none⟩ = some (.int .i64 C3) ∧ W.cell? ⟨w6.heap.size, 1, none⟩ = some (.slice A6 N3 c6) ∧ W.cell? ⟨w8.heap.size, 0, none⟩ = some (.int .i64 C4) ∧ W.cell? ⟨w8.heap.size, 1, none⟩ = some (.int .i64 V4) ∧ W.cell? ⟨w10.heap.size, 0, none⟩ = some (.int .i64 C5) ∧ W.cell? ⟨w10.heap.size, 1, none⟩ = some (.slice A10 N5 c10) ∧ Below w11.heap.size w11 W) → Calls Try.prog 24 #[.slice A7 m7 c7] W fun e w' => e = .returned (.agg #[.int .i64 C4, .int .i64 V4]) ∧ w'.cell? ⟨w2.heap.size, 0, none⟩ = some (.int .i64 C1) ∧ w'.cell? ⟨w2.heap.size, 1, none⟩ = some (.int .i64 V1) ∧ w'.cell? ⟨w4.heap.size, 0, none⟩ = some (.int .i64 C2) ∧ w'.cell? ⟨w4.heap.size, 1, none⟩ = some (.int .i64 V2) ∧ w'.cell? ⟨w6.heap.size, 0, none⟩ = some (.int .i64 C3) ∧ w'.cell? ⟨w6.heap.size, 1, none⟩ = some (.slice A6 N3 c6) ∧ w'.cell? ⟨w8.heap.size, 0, none⟩ = some (.int .i64 C4) ∧ w'.cell? ⟨w8.heap.size, 1, none⟩ = some (.int .i64 V4) ∧ w'.cell? ⟨w10.heap.size, 0, none⟩ = some (.int .i64 C5) ∧ w'.cell? ⟨w10.heap.size, 1, none⟩ = some (.slice A10 N5 c10) ∧ Below w11.heap.size w11 w') :=
    ⟨fun W ⟨_, _, _, _, _, _, _, _, _, _, hW⟩ => (M4.out W (p7.below hW)).mono fun e w' ⟨he, hb⟩ => ⟨he, cs.out _ (ac hW hb)⟩⟩
  have Ge : Shut (∀ (W : World), (W.cell? ⟨w2.heap.size, 0, none⟩ = some (.int .i64 C1) ∧ W.cell? ⟨w2.heap.size, 1, none⟩ = some (.int .i64 V1) ∧ W.cell? ⟨w4.heap.size, 0, none⟩ = some (.int .i64 C2) ∧ W.cell? ⟨w4.heap.size, 1, none⟩ = some (.int .i64 V2) ∧ W.cell? ⟨w6.heap.size, 0, none⟩ = some (.int .i64 C3) ∧ W.cell? ⟨w6.heap.size, 1, none⟩ = some (.slice A6 N3 c6) ∧ W.cell? ⟨w8.heap.size, 0, none⟩ = some (.int .i64 C4) ∧ W.cell? ⟨w8.heap.size, 1, none⟩ = some (.int .i64 V4) ∧ W.cell? ⟨w10.heap.size, 0, none⟩ = some (.int .i64 C5) ∧ W.cell? ⟨w10.heap.size, 1, none⟩ = some (.slice A10 N5 c10) ∧ Below w11.heap.size w11 W) → Calls Try.prog 25 #[.int .i64 v, .slice A9 m9 c9] W fun e w' => (∃ A' c', e = .returned (.agg #[.int .i64 C5, .slice A' N5 c']) ∧ Bs w' A' N5 L5) ∧ w'.cell? ⟨w2.heap.size, 0, none⟩ = some (.int .i64 C1) ∧ w'.cell? ⟨w2.heap.size, 1, none⟩ = some (.int .i64 V1) ∧ w'.cell? ⟨w4.heap.size, 0, none⟩ = some (.int .i64 C2) ∧ w'.cell? ⟨w4.heap.size, 1, none⟩ = some (.int .i64 V2) ∧ w'.cell? ⟨w6.heap.size, 0, none⟩ = some (.int .i64 C3) ∧ w'.cell? ⟨w6.heap.size, 1, none⟩ = some (.slice A6 N3 c6) ∧ w'.cell? ⟨w8.heap.size, 0, none⟩ = some (.int .i64 C4) ∧ w'.cell? ⟨w8.heap.size, 1, none⟩ = some (.int .i64 V4) ∧ w'.cell? ⟨w10.heap.size, 0, none⟩ = some (.int .i64 C5) ∧ w'.cell? ⟨w10.heap.size, 1, none⟩ = some (.slice A10 N5 c10) ∧ Below w11.heap.size w11 w') :=
    ⟨fun W ⟨_, _, _, _, _, _, _, _, _, _, hW⟩ => (M5.out W (p9.below hW)).mono fun e w' ⟨⟨A', c', he, ho⟩, hb⟩ => ⟨⟨A', c', he, ho.bs⟩, cs.out _ (ac hW hb)⟩⟩
  have Gf : Shut (∀ (W : World) (A' : Option Addr) (c' : Nat), (W.cell? ⟨w2.heap.size, 0, none⟩ = some (.int .i64 C1) ∧ W.cell? ⟨w2.heap.size, 1, none⟩ = some (.int .i64 V1) ∧ W.cell? ⟨w4.heap.size, 0, none⟩ = some (.int .i64 C2) ∧ W.cell? ⟨w4.heap.size, 1, none⟩ = some (.int .i64 V2) ∧ W.cell? ⟨w6.heap.size, 0, none⟩ = some (.int .i64 C3) ∧ W.cell? ⟨w6.heap.size, 1, none⟩ = some (.slice A6 N3 c6) ∧ W.cell? ⟨w8.heap.size, 0, none⟩ = some (.int .i64 C4) ∧ W.cell? ⟨w8.heap.size, 1, none⟩ = some (.int .i64 V4) ∧ W.cell? ⟨w10.heap.size, 0, none⟩ = some (.int .i64 C5) ∧ W.cell? ⟨w10.heap.size, 1, none⟩ = some (.slice A10 N5 c10) ∧ Below w11.heap.size w11 W) → Bs W A' N3 L3 → Calls Try.prog 22 #[.agg #[.int .i64 C3, .slice A6 N3 c6], .agg #[.int .i64 C3, .slice A' N3 c']] W fun e w' => e = .returned (.bool true) ∧ w'.cell? ⟨w2.heap.size, 0, none⟩ = some (.int .i64 C1) ∧ w'.cell? ⟨w2.heap.size, 1, none⟩ = some (.int .i64 V1) ∧ w'.cell? ⟨w4.heap.size, 0, none⟩ = some (.int .i64 C2) ∧ w'.cell? ⟨w4.heap.size, 1, none⟩ = some (.int .i64 V2) ∧ w'.cell? ⟨w6.heap.size, 0, none⟩ = some (.int .i64 C3) ∧ w'.cell? ⟨w6.heap.size, 1, none⟩ = some (.slice A6 N3 c6) ∧ w'.cell? ⟨w8.heap.size, 0, none⟩ = some (.int .i64 C4) ∧ w'.cell? ⟨w8.heap.size, 1, none⟩ = some (.int .i64 V4) ∧ w'.cell? ⟨w10.heap.size, 0, none⟩ = some (.int .i64 C5) ∧ w'.cell? ⟨w10.heap.size, 1, none⟩ = some (.slice A10 N5 c10) ∧ Below w11.heap.size w11 w') :=
    ⟨fun W A' c' ⟨_, _, _, _, _, _, _, _, _, _, hW⟩ ho => (lwBytes_any C3 C3 A6 A' N3 c6 N3 c' L3 L3 W (p6.below hW) ho).mono fun e w' ⟨he, hb⟩ => ⟨by rw [he]; simp, cs.out _ (ac hW hb)⟩⟩
  have Gg : Shut (∀ (W : World) (A' : Option Addr) (c' : Nat), (W.cell? ⟨w2.heap.size, 0, none⟩ = some (.int .i64 C1) ∧ W.cell? ⟨w2.heap.size, 1, none⟩ = some (.int .i64 V1) ∧ W.cell? ⟨w4.heap.size, 0, none⟩ = some (.int .i64 C2) ∧ W.cell? ⟨w4.heap.size, 1, none⟩ = some (.int .i64 V2) ∧ W.cell? ⟨w6.heap.size, 0, none⟩ = some (.int .i64 C3) ∧ W.cell? ⟨w6.heap.size, 1, none⟩ = some (.slice A6 N3 c6) ∧ W.cell? ⟨w8.heap.size, 0, none⟩ = some (.int .i64 C4) ∧ W.cell? ⟨w8.heap.size, 1, none⟩ = some (.int .i64 V4) ∧ W.cell? ⟨w10.heap.size, 0, none⟩ = some (.int .i64 C5) ∧ W.cell? ⟨w10.heap.size, 1, none⟩ = some (.slice A10 N5 c10) ∧ Below w11.heap.size w11 W) → Bs W A' N5 L5 → Calls Try.prog 22 #[.agg #[.int .i64 C5, .slice A10 N5 c10], .agg #[.int .i64 C5, .slice A' N5 c']] W fun e w' => e = .returned (.bool true) ∧ w'.cell? ⟨w2.heap.size, 0, none⟩ = some (.int .i64 C1) ∧ w'.cell? ⟨w2.heap.size, 1, none⟩ = some (.int .i64 V1) ∧ w'.cell? ⟨w4.heap.size, 0, none⟩ = some (.int .i64 C2) ∧ w'.cell? ⟨w4.heap.size, 1, none⟩ = some (.int .i64 V2) ∧ w'.cell? ⟨w6.heap.size, 0, none⟩ = some (.int .i64 C3) ∧ w'.cell? ⟨w6.heap.size, 1, none⟩ = some (.slice A6 N3 c6) ∧ w'.cell? ⟨w8.heap.size, 0, none⟩ = some (.int .i64 C4) ∧ w'.cell? ⟨w8.heap.size, 1, none⟩ = some (.int .i64 V4) ∧ w'.cell? ⟨w10.heap.size, 0, none⟩ = some (.int .i64 C5) ∧ w'.cell? ⟨w10.heap.size, 1, none⟩ = some (.slice A10 N5 c10) ∧ Below w11.heap.size w11 w') :=
    ⟨fun W A' c' ⟨_, _, _, _, _, _, _, _, _, _, hW⟩ ho => (lwBytes_any C5 C5 A10 A' N5 c10 N5 c' L5 L5 W (p10.below hW) ho).mono fun e w' ⟨he, hb⟩ => ⟨by rw [he]; simp, cs.out _ (ac hW hb)⟩⟩
  obtain ⟨i0, i1, i2, i3, i4, i5, i6, i7, i8, i9, i10⟩ := cs.out w11 (Below.refl _ _)
  replace i10 := i10.drew
  clear M1 M2 M3 M4 M5 cs I2 I4
  go_cut [83] from 51 to 83 (fun b wx => b = .bool false ∧ Below w11.heap.size w11 wx)
  case first =>
    clear I1 I3 I5 J1 k3 X3
    go_region_held3 (fun W => W.cell? ⟨w2.heap.size, 0, none⟩ = some (.int .i64 C1) ∧ W.cell? ⟨w2.heap.size, 1, none⟩ = some (.int .i64 V1) ∧ W.cell? ⟨w4.heap.size, 0, none⟩ = some (.int .i64 C2) ∧ W.cell? ⟨w4.heap.size, 1, none⟩ = some (.int .i64 V2) ∧ W.cell? ⟨w6.heap.size, 0, none⟩ = some (.int .i64 C3) ∧ W.cell? ⟨w6.heap.size, 1, none⟩ = some (.slice A6 N3 c6) ∧ W.cell? ⟨w8.heap.size, 0, none⟩ = some (.int .i64 C4) ∧ W.cell? ⟨w8.heap.size, 1, none⟩ = some (.int .i64 V4) ∧ W.cell? ⟨w10.heap.size, 0, none⟩ = some (.int .i64 C5) ∧ W.cell? ⟨w10.heap.size, 1, none⟩ = some (.slice A10 N5 c10) ∧ Below w11.heap.size w11 W)
      (first | (exact ⟨by assumption, by assumption, by assumption, by assumption, by assumption, by assumption, by assumption, by assumption, by assumption, by assumption, by assumption⟩) | (exact ⟨i0, i1, i2, i3, i4, i5, i6, i7, i8, i9, i10⟩) | go_keep)
      (first
        | (go_at_call 20; refine (Ga.out _ ?_).mono ?_; (first | assumption | (simp [*]; done)); rintro e w' ⟨rfl, z0, z1, z2, z3, z4, z5, z6, z7, z8, z9, z10⟩)
        | (go_at_call 21; refine (Gb.out _ ?_).mono ?_; (first | assumption | (simp [*]; done)); rintro e w' ⟨rfl, z0, z1, z2, z3, z4, z5, z6, z7, z8, z9, z10⟩)
        | (go_at_call 23; refine (Gc.out _ ?_).mono ?_; (first | assumption | (simp [*]; done)); rintro e w' ⟨⟨A', c', rfl, ho3⟩, z0, z1, z2, z3, z4, z5, z6, z7, z8, z9, z10⟩)
        | (go_at_call 24; refine (Gd.out _ ?_).mono ?_; (first | assumption | (simp [*]; done)); rintro e w' ⟨rfl, z0, z1, z2, z3, z4, z5, z6, z7, z8, z9, z10⟩)
        | (go_at_call 25; refine (Ge.out _ ?_).mono ?_; (first | assumption | (simp [*]; done)); rintro e w' ⟨⟨A'', c'', rfl, ho5⟩, z0, z1, z2, z3, z4, z5, z6, z7, z8, z9, z10⟩)
        | (go_at_call_of 22 A6; refine (Gf.out _ _ _ ?_ ?_).mono ?_; (first | assumption | (simp [*]; done)); assumption; rintro e w' ⟨rfl, z0, z1, z2, z3, z4, z5, z6, z7, z8, z9, z10⟩)
        | (go_at_call_of 22 A10; refine (Gg.out _ _ _ ?_ ?_).mono ?_; (first | assumption | (simp [*]; done)); assumption; rintro e w' ⟨rfl, z0, z1, z2, z3, z4, z5, z6, z7, z8, z9, z10⟩))
    all_goals
      go_wp2_with fail
      go_meet
      exact ⟨rfl, z10⟩
  case rest =>
    obtain ⟨rfl, bc⟩ := hcut
    clear Ga Gb Gc Gd Ge Gf Gg i0 i1 i2 i3 i4 i5 i6 i7 i8 i9 i10
    obtain ⟨w12, rfl⟩ : ∃ x, x = wc := ⟨_, rfl⟩
    have s12 := bc.size
    have B12 := ac B10a bc
    replace t2 := t2.below bc (by omega)
    replace t4 := t4.below bc (by omega)
    replace t6 := t6.below bc (by omega)
    replace p6 := p6.below bc
    clear bc t8 t10 p7 p9 p10
    go_upto_region 15 with fail
    go_cut [93] from 84 to 93 (fun b wx => b = .bool false ∧ Below w12.heap.size w12 wx)
    case first =>
      clear I1 I3 I5 k3 X3 t4 t6 p6
      by_cases hC1 : C1 = 0
      · subst hC1
        have G : Shut (∀ W : World, (W.cell? ⟨w2.heap.size, 0, none⟩ = some (.int .i64 0) ∧ W.cell? ⟨w2.heap.size, 1, none⟩ = some (.int .i64 V1) ∧ Below w12.heap.size w12 W) → Calls Try.prog 11 #[.int .i64 z, .int .i64 x] W fun e w' => e = .returned (.agg #[.int .i64 0, .int .i64 V1]) ∧ w'.cell? ⟨w2.heap.size, 0, none⟩ = some (.int .i64 0) ∧ w'.cell? ⟨w2.heap.size, 1, none⟩ = some (.int .i64 V1) ∧ Below w12.heap.size w12 w') :=
          ⟨fun W ⟨_, _, hW⟩ => (J1.out W).mono fun e w' ⟨he, hb⟩ => ⟨he, (t2.below (ac hW hb) (by omega)).cells.1, (t2.below (ac hW hb) (by omega)).cells.2.1, ac hW hb⟩⟩
        obtain ⟨i0, i1, _, _⟩ := t2.cells
        have i2 := (Below.refl w12.heap.size w12).drew
        clear J1 t2
        go_region_held3 (fun W => W.cell? ⟨w2.heap.size, 0, none⟩ = some (.int .i64 0) ∧ W.cell? ⟨w2.heap.size, 1, none⟩ = some (.int .i64 V1) ∧ Below w12.heap.size w12 W)
          (first | (exact ⟨by assumption, by assumption, by assumption⟩) | (exact ⟨i0, i1, i2⟩) | go_keep)
          (first
            | (go_at_call 11; refine (G.out _ ?_).mono ?_; (first | assumption | (simp [*]; done)); rintro e w' ⟨rfl, z0, z1, z2⟩))
        all_goals
          go_wp2_with fail
          go_meet
          exact ⟨rfl, z2⟩
      · have hcb : (C1 == 0) = false := by simpa using hC1
        obtain ⟨i0, i1, _, _⟩ := t2.cells
        clear J1 t2 hC1
        go_quiet (fail)
        go_wp2
        go_meet
        exact ⟨rfl, below_drewN (Below.refl _ _) _⟩
    case rest =>
      obtain ⟨rfl, bc⟩ := hcut
      obtain ⟨w13, rfl⟩ : ∃ x, x = wc := ⟨_, rfl⟩
      have s13 := bc.size
      have B13 := ac B12 bc
      replace t4 := t4.below bc (by omega)
      replace t6 := t6.below bc (by omega)
      replace p6 := p6.below bc
      clear bc t2 J1
      go_upto_region 17 with fail
      go_cut [111] from 94 to 111 (fun b wx => b = .bool false ∧ Below w13.heap.size w13 wx)
      case first =>
        clear I1 I3 I5 X3 t6 p6
        by_cases hC2 : C2 = 0
        · by_cases hq2 : q < 9223372036854775807
          · obtain ⟨hq0, g1, g2⟩ := k3.out hC2 hq2
            subst hC2
            have Ga : Shut (∀ W : World, (W.cell? ⟨w4.heap.size, 0, none⟩ = some (.int .i64 0) ∧ W.cell? ⟨w4.heap.size, 1, none⟩ = some (.int .i64 V2) ∧ Below w13.heap.size w13 W) → Calls Try.prog 13 #[.int .i64 y, .int .i64 (q + 1)] W fun e w' => e = .returned (.agg #[.int .i64 0, .int .i64 V2n]) ∧ w'.cell? ⟨w4.heap.size, 0, none⟩ = some (.int .i64 0) ∧ w'.cell? ⟨w4.heap.size, 1, none⟩ = some (.int .i64 V2) ∧ Below w13.heap.size w13 w') :=
              ⟨fun W ⟨_, _, hW⟩ => (g1 W).mono fun e w' ⟨he, hb⟩ => ⟨he, (t4.below (ac hW hb) (by omega)).cells.1, (t4.below (ac hW hb) (by omega)).cells.2.1, ac hW hb⟩⟩
            have Gb : Shut (∀ W : World, (W.cell? ⟨w4.heap.size, 0, none⟩ = some (.int .i64 0) ∧ W.cell? ⟨w4.heap.size, 1, none⟩ = some (.int .i64 V2) ∧ Below w13.heap.size w13 W) → Calls Try.prog 11 #[.int .i64 V2, .int .i64 y] W fun e w' => e = .returned (.agg #[.int .i64 0, .int .i64 V2n]) ∧ w'.cell? ⟨w4.heap.size, 0, none⟩ = some (.int .i64 0) ∧ w'.cell? ⟨w4.heap.size, 1, none⟩ = some (.int .i64 V2) ∧ Below w13.heap.size w13 w') :=
              ⟨fun W ⟨_, _, hW⟩ => (g2 W).mono fun e w' ⟨he, hb⟩ => ⟨he, (t4.below (ac hW hb) (by omega)).cells.1, (t4.below (ac hW hb) (by omega)).cells.2.1, ac hW hb⟩⟩
            obtain ⟨i0, i1, _, _⟩ := t4.cells
            have i2 := (Below.refl w13.heap.size w13).drew
            have hqb : decide (q < 9223372036854775807) = true := by simpa using hq2
            have hqw : IntKind.i64.wrap (q + 1) = q + 1 := IntWalk.i64_in _ (by omega)
            clear k3 t4 g1 g2 b1 b2 b3 b4 b5 b6 b7 b8 b9 b10 B2 B3 B4 B5 B6 B7 B8 B9 B10 B12 B13 B2a B4a B6a B8a B10a
            go_region_held3 (fun W => W.cell? ⟨w4.heap.size, 0, none⟩ = some (.int .i64 0) ∧ W.cell? ⟨w4.heap.size, 1, none⟩ = some (.int .i64 V2) ∧ Below w13.heap.size w13 W)
              (first | (exact ⟨by assumption, by assumption, by assumption⟩) | (exact ⟨i0, i1, i2⟩) | go_keep)
              (first
                | (go_at_call 13; refine (Ga.out _ ?_).mono ?_; (first | assumption | (simp [*]; done)); rintro e w' ⟨rfl, z0, z1, z2⟩)
                | (go_at_call 11; refine (Gb.out _ ?_).mono ?_; (first | assumption | (simp [*]; done)); rintro e w' ⟨rfl, z0, z1, z2⟩))
            all_goals
              go_wp2_with fail
              go_meet
              exact ⟨rfl, z2⟩
          · subst hC2
            have hqb : decide (q < 9223372036854775807) = false := by simpa using hq2
            obtain ⟨i0, i1, _, _⟩ := t4.cells
            clear k3 t4 hq2
            go_quiet (fail)
            go_wp2
            go_meet
            exact ⟨rfl, below_drewN (Below.refl _ _) _⟩
        · have hcb : (C2 == 0) = false := by simpa using hC2
          obtain ⟨i0, i1, _, _⟩ := t4.cells
          clear k3 t4 hC2
          go_quiet (fail)
          go_wp2
          go_meet
          exact ⟨rfl, below_drewN (Below.refl _ _) _⟩
      case rest =>
        obtain ⟨rfl, bc⟩ := hcut
        obtain ⟨w14, rfl⟩ : ∃ x, x = wc := ⟨_, rfl⟩
        have s14 := bc.size
        have B14 := ac B13 bc
        replace t6 := t6.below bc (by omega)
        replace p6 := p6.below bc
        clear bc t4 k3
        clear I1 I5 b1 b2 b3 b4 b5 b6 b7 b8 b9 b10 B2 B3 B4 B5 B6 B7 B8 B9 B10 B12 B13 B2a B4a B6a B8a B10a
        obtain ⟨C6, hC6⟩ : ∃ C, C = pubC v := ⟨_, rfl⟩
        obtain ⟨N6, hN6⟩ : ∃ C, C = eight (pubC v) := ⟨_, rfl⟩
        obtain ⟨L6, hL6⟩ : ∃ C, C = eightL (pubC v) (pubX v) := ⟨_, rfl⟩
        have k1 := fun W => implPublicOf_any v W
        rw [← hN6, ← hL6, ← hC6] at k1
        have X6 := Shut.mk (And.intro hC6 (And.intro hN6 hL6))
        have I6 := Shut.mk k1
        clear k1 hC6 hN6 hL6
        go_wp2_with fail
        refine (I6.out _).mono ?_
        rintro e w15 ⟨⟨A16, c16, rfl, o16⟩, b15⟩
        have s15 := b15.size
        have B15 := ac B14 b15
        replace t6 := (t6.below b15 (by omega)).alloc (.cells #[.int .i64 C6, .slice A16 N6 c16] 31) (by omega)
        replace p6 := (p6.below b15).alloc (.cells #[.int .i64 C6, .slice A16 N6 c16] 31)
        have t16 := Two.new w15 31 (.int .i64 C6) (.slice A16 N6 c16)
        have p16 := o16.bs.alloc (.cells #[.int .i64 C6, .slice A16 N6 c16] 31)
        have B16 := ab B15 (.cells #[.int .i64 C6, .slice A16 N6 c16] 31)
        obtain ⟨w16, h16⟩ : ∃ x, x = w15.alloc (.cells #[.int .i64 C6, .slice A16 N6 c16] 31) := ⟨_, rfl⟩
        rw [← h16] at t6 p6 t16 p16 B16
        have s16 : w15.heap.size < w16.heap.size := by rw [h16]; simp
        clear o16 b15 B15 B14 I6
        go_upto_region 20 with fail
        rw [← h16]
        clear h16
        obtain ⟨y0, y1, _, _⟩ := t6.cells
        obtain ⟨y2, y3, _, _⟩ := t16.cells
        by_cases hC3 : C3 = 0
        · by_cases hC6 : C6 = 0
          · subst hC3
            subst hC6
            have F : Shut (0 = pubC v ∧ 0 = pubC s ∧ N3 = 8 ∧ N6 = 8 ∧ L3 = lowOf (pubX s : Int) 8 ∧ L6 = lowOf (pubX v : Int) 8) := by
              obtain ⟨a, b, c'⟩ := X3.out
              obtain ⟨d, e', f'⟩ := X6.out
              rw [← a] at b c'
              rw [← d] at e' f'
              exact ⟨d, a, b, e', by rw [c']; rfl, by rw [f']; rfl⟩
            obtain rfl := F.out.2.2.1
            obtain rfl := F.out.2.2.2.1
            clear X3 X6
            have k1 := fun W (hb : Bs W A6 8 L3) => implReadPublic_any A6 8 c6 L3 W hb (by omega)
            have k2 := fun W (hb : Bs W A16 8 L6) => implReadPublic_any A16 8 c16 L6 W hb (by omega)
            have K : Shut (readC 8 L3 = 0 → readC 8 L6 = 0 → (∀ W, Bs W A6 8 L3 → Calls Try.prog 19 #[.int .i64 v, .slice A6 8 c6] W (BytesAns 0 8 (eightL 0 (sharX v 8 L3)) W)) ∧ ∀ W, Bs W A16 8 L6 → Calls Try.prog 19 #[.int .i64 s, .slice A16 8 c16] W (BytesAns 0 8 (eightL 0 (sharX v 8 L3)) W)) :=
              ⟨fun h3 h6 => by
                obtain ⟨a, b, _, _, c', d⟩ := F.out
                have h3' := h3
                have h6' := h6
                rw [c'] at h3'
                rw [d] at h6'
                obtain ⟨e1, e2, e3⟩ := shared_two v s a.symm b.symm h3' h6'
                rw [← c'] at e1 e3
                rw [← d] at e2 e3
                refine ⟨fun W hb => ?_, fun W hb => ?_⟩
                · have := implSharedOf_any v A6 8 c6 L3 W hb (by omega)
                  rw [e1] at this
                  exact this
                · have := implSharedOf_any s A16 8 c16 L6 W hb (by omega)
                  rw [e2, ← e3] at this
                  exact this⟩
            clear F
            generalize readC 8 L3 = D1 at *
            generalize readV 8 L3 = E1 at *
            generalize readC 8 L6 = D2 at *
            generalize readV 8 L6 = E2 at *
            generalize eightL 0 (sharX v 8 L3) = LL at *
            have R1 := Shut.mk k1
            have R2 := Shut.mk k2
            clear k1 k2
            go_wp2_with fail
            refine (R1.out _ p6).mono ?_
            rintro e w17 ⟨rfl, b17⟩
            have s17 := b17.size
            have hfd := fld_int D1 E1 w17
            have B17 := ac B16 b17
            replace t6 := t6.below b17 (by omega)
            replace p6 := p6.below b17
            replace t16 := t16.below b17 (by omega)
            replace p16 := p16.below b17
            clear y0 y1 y2 y3 R1 b17 B16
            obtain ⟨y2, y3, _, _⟩ := t16.cells
            by_cases hD1 : D1 = 0
            · subst hD1
              go_wp2_with fail
              refine (R2.out _ p16).mono ?_
              rintro e w18 ⟨rfl, b18⟩
              have s18 := b18.size
              have hfd2 := fld_int D2 E2 w18
              have B18 := ac B17 b18
              replace t6 := t6.below b18 (by omega)
              replace p6 := p6.below b18
              replace t16 := t16.below b18 (by omega)
              replace p16 := p16.below b18
              clear y2 y3 R2 b18 B17 hfd
              by_cases hD2 : D2 = 0
              · subst hD2
                obtain ⟨g1, g2⟩ := K.out (by first | rfl | trivial) (by first | rfl | trivial)
                have Ga : Shut (∀ W : World, (W.cell? ⟨w6.heap.size, 0, none⟩ = some (.int .i64 0) ∧ W.cell? ⟨w6.heap.size, 1, none⟩ = some (.slice A6 8 c6) ∧ W.cell? ⟨w15.heap.size, 0, none⟩ = some (.int .i64 0) ∧ W.cell? ⟨w15.heap.size, 1, none⟩ = some (.slice A16 8 c16) ∧ Below w18.heap.size w18 W) → Calls Try.prog 19 #[.int .i64 v, .slice A6 8 c6] W fun e w' => (∃ A' c', e = .returned (.agg #[.int .i64 0, .slice A' 8 c']) ∧ Bs w' A' 8 LL) ∧ (∀ A' : Option Addr, Bs W A' 8 LL → Bs w' A' 8 LL) ∧ w'.cell? ⟨w6.heap.size, 0, none⟩ = some (.int .i64 0) ∧ w'.cell? ⟨w6.heap.size, 1, none⟩ = some (.slice A6 8 c6) ∧ w'.cell? ⟨w15.heap.size, 0, none⟩ = some (.int .i64 0) ∧ w'.cell? ⟨w15.heap.size, 1, none⟩ = some (.slice A16 8 c16) ∧ Below w18.heap.size w18 w') :=
                  ⟨fun W ⟨_, _, _, _, hW⟩ => (g1 W (p6.below hW)).mono fun e w' ⟨⟨A', c', he, ho⟩, hb⟩ => ⟨⟨A', c', he, ho.bs⟩, fun _ hx => hx.below hb, (t6.below (ac hW hb) (by omega)).cells.1, (t6.below (ac hW hb) (by omega)).cells.2.1, (t16.below (ac hW hb) (by omega)).cells.1, (t16.below (ac hW hb) (by omega)).cells.2.1, ac hW hb⟩⟩
                have Gb : Shut (∀ W : World, (W.cell? ⟨w6.heap.size, 0, none⟩ = some (.int .i64 0) ∧ W.cell? ⟨w6.heap.size, 1, none⟩ = some (.slice A6 8 c6) ∧ W.cell? ⟨w15.heap.size, 0, none⟩ = some (.int .i64 0) ∧ W.cell? ⟨w15.heap.size, 1, none⟩ = some (.slice A16 8 c16) ∧ Below w18.heap.size w18 W) → Calls Try.prog 19 #[.int .i64 s, .slice A16 8 c16] W fun e w' => (∃ A' c', e = .returned (.agg #[.int .i64 0, .slice A' 8 c']) ∧ Bs w' A' 8 LL) ∧ (∀ A' : Option Addr, Bs W A' 8 LL → Bs w' A' 8 LL) ∧ w'.cell? ⟨w6.heap.size, 0, none⟩ = some (.int .i64 0) ∧ w'.cell? ⟨w6.heap.size, 1, none⟩ = some (.slice A6 8 c6) ∧ w'.cell? ⟨w15.heap.size, 0, none⟩ = some (.int .i64 0) ∧ w'.cell? ⟨w15.heap.size, 1, none⟩ = some (.slice A16 8 c16) ∧ Below w18.heap.size w18 w') :=
                  ⟨fun W ⟨_, _, _, _, hW⟩ => (g2 W (p16.below hW)).mono fun e w' ⟨⟨A', c', he, ho⟩, hb⟩ => ⟨⟨A', c', he, ho.bs⟩, fun _ hx => hx.below hb, (t6.below (ac hW hb) (by omega)).cells.1, (t6.below (ac hW hb) (by omega)).cells.2.1, (t16.below (ac hW hb) (by omega)).cells.1, (t16.below (ac hW hb) (by omega)).cells.2.1, ac hW hb⟩⟩
                have Gc : Shut (∀ (W : World) (A' A'' : Option Addr) (c' c'' : Nat), (W.cell? ⟨w6.heap.size, 0, none⟩ = some (.int .i64 0) ∧ W.cell? ⟨w6.heap.size, 1, none⟩ = some (.slice A6 8 c6) ∧ W.cell? ⟨w15.heap.size, 0, none⟩ = some (.int .i64 0) ∧ W.cell? ⟨w15.heap.size, 1, none⟩ = some (.slice A16 8 c16) ∧ Below w18.heap.size w18 W) → Bs W A' 8 LL → Bs W A'' 8 LL → Calls Try.prog 22 #[.agg #[.int .i64 0, .slice A' 8 c'], .agg #[.int .i64 0, .slice A'' 8 c'']] W fun e w' => e = .returned (.bool true) ∧ w'.cell? ⟨w6.heap.size, 0, none⟩ = some (.int .i64 0) ∧ w'.cell? ⟨w6.heap.size, 1, none⟩ = some (.slice A6 8 c6) ∧ w'.cell? ⟨w15.heap.size, 0, none⟩ = some (.int .i64 0) ∧ w'.cell? ⟨w15.heap.size, 1, none⟩ = some (.slice A16 8 c16) ∧ Below w18.heap.size w18 w') :=
                  ⟨fun W A' A'' c' c'' ⟨_, _, _, _, hW⟩ h1 h2 => (lwBytes_any 0 0 A' A'' 8 c' 8 c'' LL LL W h1 h2).mono fun e w' ⟨he, hb⟩ => ⟨by rw [he]; simp, (t6.below (ac hW hb) (by omega)).cells.1, (t6.below (ac hW hb) (by omega)).cells.2.1, (t16.below (ac hW hb) (by omega)).cells.1, (t16.below (ac hW hb) (by omega)).cells.2.1, ac hW hb⟩⟩
                obtain ⟨i0, i1, _, _⟩ := t6.cells
                obtain ⟨i2, i3, _, _⟩ := t16.cells
                clear K g1 g2
                go_upto_region 22 with fail
                have i4 := (Below.refl w18.heap.size w18).drew
                clear t6 t16 p6 p16
                go_region_held3 (fun W => W.cell? ⟨w6.heap.size, 0, none⟩ = some (.int .i64 0) ∧ W.cell? ⟨w6.heap.size, 1, none⟩ = some (.slice A6 8 c6) ∧ W.cell? ⟨w15.heap.size, 0, none⟩ = some (.int .i64 0) ∧ W.cell? ⟨w15.heap.size, 1, none⟩ = some (.slice A16 8 c16) ∧ Below w18.heap.size w18 W)
                  (first | (exact ⟨by assumption, by assumption, by assumption, by assumption, by assumption⟩) | (exact ⟨i0, i1, i2, i3, i4⟩) | go_keep)
                  (first
                    | (go_at_call_of 19 A6; refine (Ga.out _ ?_).mono ?_; (first | assumption | (simp [*]; done)); rintro e w' ⟨⟨A20, c20, rfl, hov⟩, hkv, z0, z1, z2, z3, z4⟩)
                    | (go_at_call_of 19 A16; refine (Gb.out _ ?_).mono ?_; (first | assumption | (simp [*]; done)); rintro e w' ⟨⟨A21, c21, rfl, hos⟩, hks, z0, z1, z2, z3, z4⟩)
                    | (go_at_call 22; refine (Gc.out _ _ _ _ _ ?_ ?_ ?_).mono ?_; (first | assumption | (simp [*]; done)); (first | exact hov | exact hks _ hov); (first | exact hos | exact hkv _ hos); rintro e w' ⟨rfl, z0, z1, z2, z3, z4⟩))
                all_goals
                  go_wp2
                  go_ret
                  exact ⟨rfl, ac B18 z4⟩
              · have hcb : (D2 != 0) = true := by simpa using hD2
                clear K
                go_wp2
                go_ret
                exact ⟨rfl, B18⟩
            · have hcb : (D1 != 0) = true := by simpa using hD1
              clear K R2
              go_wp2
              go_ret
              exact ⟨rfl, B17⟩
          · have hcb : (C6 != 0) = true := by simpa using hC6
            subst hC3
            clear X3 X6
            go_wp2
            go_ret
            exact ⟨rfl, B16⟩
        · have hcb : (C3 != 0) = true := by simpa using hC3
          clear X3 X6
          go_wp2
          go_ret
          exact ⟨rfl, B16⟩

theorem groups_all (a0 : Option Addr) (len0 cap0 : Nat) (z0 : List Int) (w : World) (w0 : IsRow .u8 w a0 len0 cap0 z0) :
    Calls Try.prog 3 #[.slice a0 len0 cap0] w fun e w' => e = .returned (.bool true) ∧ Below w.heap.size w w' := by
  have h0 := w0.bs
  by_cases hl0 : len0 ≤ 1048576
  · exact groups_walk a0 len0 cap0 _ w h0 hl0
  · have hcap := w0.lenmax
    have hd : decide (1048576 < len0) = true := by simp; omega
    have Hd := Lib.hid hd
    clear hd
    go_enter Try.func3, Try.ntmps3
    go_wp2_with fail
    refine (lwBig_any _ _ _ _ hcap).mono ?_
    rintro e w1 ⟨rfl, rfl⟩
    rw [Hd.out]
    go_wp2
    go_ret
    exact ⟨rfl, Below.refl _ _⟩
end Go.Proofs.Ytgmmoilgmaklgaa
