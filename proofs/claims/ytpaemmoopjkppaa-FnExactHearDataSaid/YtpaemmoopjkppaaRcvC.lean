/- The laws' helpers for structs with lists in them. -/
import Derived.Test.YtpaemmoopjkppaaLstX
namespace Go.Proofs.Ytpaemmoopjkppaa
open Go.RowKit

set_option maxHeartbeats 2000000 in
theorem toReceiver_any (x0 : Int) (A0 : Option Addr) (n0 c0 : Nat) (d0 : List HeldD) (A1 : Option Addr) (n1 c1 : Nat) (d1 : List Int) (w : World) (h0 : Lst HeldD.cels 3 w A0 n0 d0) (h1 : Bs w A1 n1 d1) (hn0 : n0 ≤ 1048576) (hb0 : ∀ e ∈ d0, e.f1.length ≤ 1048576) (hn1 : n1 ≤ 1048576) :
    Calls Try.prog 9 #[.agg #[.int .i64 x0, .slice A0 n0 c0, .slice A1 n1 c1]] w fun e w' => (∃ g0 g1, e = .returned (.agg #[.int .i64 x0, .slice (some ⟨g0, 0, none⟩) n0 n0, .slice (some ⟨g1, 0, none⟩) n1 n1]) ∧ (Thing.sep (tH (some ⟨g0, 0, none⟩) n0 d0) (tR (some ⟨g1, 0, none⟩) n1 d1)) w' (rng w.heap.size w'.heap.size)) ∧ Below w.heap.size w w' := by
  have S0 := ((Stc.new w 25 [.int .i64 x0, .slice A0 n0 c0, .slice A1 n1 c1] _ rfl).alloc (.cells #[.int .i64 0, .slice none 0 0, .slice none 0 0] 32)).alloc (.cells #[.int .i64 x0, .slice none 0 0, .slice none 0 0] 32)
  have S1 := ((Stc.new (w.alloc (.cells #[.int .i64 x0, .slice A0 n0 c0, .slice A1 n1 c1] 25)) 32 [.int .i64 0, .slice none 0 0, .slice none 0 0] _ rfl).alloc (.cells #[.int .i64 x0, .slice none 0 0, .slice none 0 0] 32))
  have S2 := (Stc.new ((w.alloc (.cells #[.int .i64 x0, .slice A0 n0 c0, .slice A1 n1 c1] 25)).alloc (.cells #[.int .i64 0, .slice none 0 0, .slice none 0 0] 32)) 32 [.int .i64 x0, .slice none 0 0, .slice none 0 0] _ rfl)
  have B0 := ab (ab (ab (Below.refl _ w) (.cells #[.int .i64 x0, .slice A0 n0 c0, .slice A1 n1 c1] 25)) (.cells #[.int .i64 0, .slice none 0 0, .slice none 0 0] 32)) (.cells #[.int .i64 x0, .slice none 0 0, .slice none 0 0] 32)
  simp only [World.size_alloc] at S1 S2
  go_enter Try.func9, Try.ntmps9
  have v1 := S0.cell (i := 1) rfl
  go_wp2_with fail
  refine (toHeldS_any _ _ _ _ _ (h0.below B0) hn0 hb0).mono ?_
  rintro e w1 ⟨⟨rfl, q0⟩, b1⟩
  have z1 := b1.size
  simp only [World.size_alloc] at q0 z1 ⊢
  have R0 : (tH (some ⟨w.heap.size + 1 + 1 + 1, 0, none⟩) n0 d0) w1 (rng (w.heap.size + 1 + 1 + 1) w1.heap.size) := q0
  have B1 := ac B0 b1
  replace S0 := S0.below b1 S0.lt
  replace S1 := S1.below b1 S1.lt
  replace S2 := S2.below b1 S2.lt
  clear b1 v1
  have v2 := S0.cell (i := 2) rfl
  have u1 := S2.cell (i := 1) rfl
  have uf := S2.frozen
  go_wp2_with fail
  replace B1 := B1.setCell (p := ⟨w.heap.size + 1 + 1, 1, none⟩) (by simp; try omega) (.slice (some ⟨w.heap.size + 1 + 1 + 1, 0, none⟩) n0 n0)
  replace S0 := S0.far (p := ⟨w.heap.size + 1 + 1, 1, none⟩) (by simp; try omega) (.slice (some ⟨w.heap.size + 1 + 1 + 1, 0, none⟩) n0 n0)
  replace S1 := S1.far (p := ⟨w.heap.size + 1 + 1, 1, none⟩) (by simp; try omega) (.slice (some ⟨w.heap.size + 1 + 1 + 1, 0, none⟩) n0 n0)
  replace S2 := S2.set_ (i := 1) (.slice (some ⟨w.heap.size + 1 + 1 + 1, 0, none⟩) n0 n0)
  replace R0 := (okH _ _ _).tu R0 ((Tu.refl (fun b => b = w.heap.size + 1 + 1) _).set_ (p := ⟨w.heap.size + 1 + 1, 1, none⟩) rfl (.slice (some ⟨w.heap.size + 1 + 1 + 1, 0, none⟩) n0 n0)) (fun b hF hG => by unfold rng at hF; omega)
  simp only [List.set_cons_zero, List.set_cons_succ] at S2
  clear u1 uf
  refine (toByteS_any _ _ _ _ _ (h1.below B1) (by omega)).mono ?_
  rintro e w2 ⟨rfl, k2, b2⟩
  have q1 : Ow w2 _ _ n1 d1 := k2.own h1.byte h1.len
  have k2l := k2.lt
  have z2 := b2.size
  simp only [World.size_setCell] at q1 z2 k2 k2l ⊢
  have R1 : (tR (some ⟨w1.heap.size, 0, none⟩) n1 d1) w2 (rng (w1.heap.size) w2.heap.size) := Bo.ofOw q1 fun b _ _ hB hl => ⟨hB, hl⟩
  replace R0 := (okH _ _ _).below R0 b2
  have B2 := ac B1 b2
  replace S0 := S0.below b2 S0.lt
  replace S1 := S1.below b2 S1.lt
  replace S2 := S2.below b2 S2.lt
  clear b2 v2
  have s0 := S0.cell (i := 0) rfl
  have s1 := S0.cell (i := 1) rfl
  have s2 := S0.cell (i := 2) rfl
  have t0 := S1.cell (i := 0) rfl
  have t1 := S1.cell (i := 1) rfl
  have t2 := S1.cell (i := 2) rfl
  have u0 := S2.cell (i := 0) rfl
  have u1 := S2.cell (i := 1) rfl
  have u2 := S2.cell (i := 2) rfl
  have uf := S2.frozen
  have tf := S1.frozen
  go_wp2
  refine bodyPost_ret (v := .agg #[.int .i64 x0, .slice (some ⟨w.heap.size + 1 + 1 + 1, 0, none⟩) n0 n0, .slice (some ⟨w1.heap.size, 0, none⟩) n1 n1]) (by simp [results, Try.results9, go_sem, t0, t1, t2]) rfl ?_
  have RR := (Thing.sep.mk R0 R1 (by omega) (by omega))
  refine ⟨⟨_, _, rfl, ?_⟩, ((((B2.setCell (by first | (simp; done) | (simp; omega)) _).setCell (by first | (simp; done) | (simp; omega)) _).setCell (by first | (simp; done) | (simp; omega)) _).setCell (by first | (simp; done) | (simp; omega)) _)⟩
  simp only [World.size_setCell]
  exact Thing.Ok.widen ((okH _ _ _).sep (okR _ _ _)) (Thing.Ok.tu ((okH _ _ _).sep (okR _ _ _)) RR (((((Tu.refl (fun b => b = w.heap.size + 1 + 1 ∨ b = w.heap.size + 1) _).set_ (p := ⟨w.heap.size + 1 + 1, 2, none⟩) (.inl rfl) _).set_ (p := ⟨w.heap.size + 1, 0, none⟩) (.inr rfl) _).set_ (p := ⟨w.heap.size + 1, 1, none⟩) (.inr rfl) _).set_ (p := ⟨w.heap.size + 1, 2, none⟩) (.inr rfl) _) (fun b hF hG => by unfold rng at hF; omega)) (by omega) (Nat.le_refl _)

def totReceiver (n0 : Nat) (d0 : List HeldD) (n1 : Nat) : Nat := n0 + sumE HeldD.len d0 + n1
set_option maxRecDepth 100000 in
set_option linter.unusedVariables false in
set_option maxHeartbeats 1000000 in
theorem szReceiver_any (x0 : Int) (A0 : Option Addr) (n0 c0 : Nat) (d0 : List HeldD) (A1 : Option Addr) (n1 c1 : Nat) (d1 : List Int) (x : Int) (w : World) (h0 : Lst HeldD.cels 3 w A0 n0 d0) (h1 : Bs w A1 n1 d1) (hx0 : 0 ≤ x) (hx1 : x ≤ 1048576) (hn0 : n0 ≤ 9223372036854775807) (hb0 : ∀ e ∈ d0, e.f1.length ≤ 9223372036854775807) (hn1 : n1 ≤ 9223372036854775807) :
    Calls Try.prog 6 #[.agg #[.int .i64 x0, .slice A0 n0 c0, .slice A1 n1 c1], .int .i64 x] w fun e w' => e = .returned (.int .i64 (leftC x (totReceiver n0 d0 n1))) ∧ Below w.heap.size w w' := by
  have S0 := Stc.new w 25 [.int .i64 x0, .slice A0 n0 c0, .slice A1 n1 c1] _ rfl
  have B0 := ab (Below.refl _ w) (.cells #[.int .i64 x0, .slice A0 n0 c0, .slice A1 n1 c1] 25)
  have HT : Shut (totReceiver n0 d0 n1 = n0 + sumE HeldD.len d0 + n1) := ⟨rfl⟩
  generalize hTT : totReceiver n0 d0 n1 = TT at HT
  clear hTT
  obtain ⟨a0, ha0⟩ : ∃ a : Nat, a = n0 + sumE HeldD.len d0 := ⟨_, rfl⟩
  have HT2 : Shut (TT = a0 + n1) := ⟨by have := HT.out; omega⟩
  replace ha0 := Shut.mk ha0
  have m0 := fun W (hh : Below w.heap.size w W) => szHeldS_any A0 n0 c0 d0 x W (h0.below hh) (by omega) (by omega) hn0 hb0
  unfold leftE at m0
  rw [← ha0.out] at m0
  by_cases f0 : x - (a0 : Int) < 0
  · have e0 : leftC x a0 = -1 := by unfold leftC; rw [if_pos f0]
    rw [e0] at m0
    have E : Shut (leftC x TT = -1) := ⟨by have h9 := HT2.out; unfold leftC; rw [if_pos (by omega)]⟩
    clear f0 e0
    go_enter Try.func6, Try.ntmps6
    have v1 := S0.cell (i := 1) rfl
    go_wp2_with fail
    refine (m0 _ B0).mono ?_
    rintro e w1 ⟨rfl, b1⟩
    go_wp2
    go_ret
    exact ⟨by rw [E.out]; rfl, (ac B0 b1)⟩
  · have e0 : leftC x a0 = x - (a0 : Int) := by unfold leftC; rw [if_neg f0]
    rw [e0] at m0
    go_enter Try.func6, Try.ntmps6
    have v1 := S0.cell (i := 1) rfl
    go_wp2_with fail
    refine (m0 _ B0).mono ?_
    rintro e w1 ⟨rfl, b1⟩
    have B1 := ac B0 b1
    replace S0 := S0.below b1 S0.lt
    clear v1 m0
    obtain ⟨x0_, hx0_⟩ : ∃ y, y = x - (a0 : Int) := ⟨_, rfl⟩
    rw [← hx0_]
    have g0_ : 0 ≤ x0_ ∧ x0_ ≤ 1048576 := by omega
    replace hx0_ := Shut.mk hx0_
    clear f0 e0
    have m1 := fun W => szByteS_any A1 n1 c1 x0_ W (by omega) (by omega) hn1
    have hm1 : ∀ y : Int, (if y - (n1 : Int) < 0 then -1 else y - (n1 : Int)) = leftC y n1 := fun _ => rfl
    rw [hm1] at m1
    clear hm1
    by_cases f1 : x0_ - (n1 : Int) < 0
    · have e1 : leftC x0_ n1 = -1 := by unfold leftC; rw [if_pos f1]
      rw [e1] at m1
      have E : Shut (leftC x TT = -1) := ⟨by have h9 := HT2.out; have h90 := hx0_.out; unfold leftC; rw [if_pos (by omega)]⟩
      clear f1 e1
      have v2 := S0.cell (i := 2) rfl
      go_wp2_with fail
      refine (m1 _).mono ?_
      rintro e w2 ⟨rfl, rfl⟩
      go_wp2
      go_ret
      exact ⟨by rw [E.out]; rfl, B1⟩
    · have e1 : leftC x0_ n1 = x0_ - (n1 : Int) := by unfold leftC; rw [if_neg f1]
      rw [e1] at m1
      have E : Shut (leftC x TT = x0_ - (n1 : Int)) := ⟨by have h9 := HT2.out; have h90 := hx0_.out; unfold leftC; rw [if_neg (by omega), h9]; first | done | omega⟩
      clear e1
      have v2 := S0.cell (i := 2) rfl
      go_wp2_with fail
      refine (m1 _).mono ?_
      rintro e w2 ⟨rfl, rfl⟩
      go_wp2
      go_ret
      exact ⟨by rw [E.out]; rfl, B1⟩

set_option maxHeartbeats 1000000 in
theorem eqReceiver_any (x0 : Int) (A0 A0' : Option Addr) (n0 c0 c0' : Nat) (d0 : List HeldD) (A1 A1' : Option Addr) (n1 c1 c1' : Nat) (d1 : List Int) (w : World) (h0 : Lst HeldD.cels 3 w A0 n0 d0) (h0' : Lst HeldD.cels 3 w A0' n0 d0) (h1 : Bs w A1 n1 d1) (h1' : Bs w A1' n1 d1) (hn0 : n0 ≤ 100000000) (hb0 : ∀ e ∈ d0, e.f1.length ≤ 100000000) (hn1 : n1 ≤ 100000000) :
    Calls Try.prog 13 #[.agg #[.int .i64 x0, .slice A0 n0 c0, .slice A1 n1 c1], .agg #[.int .i64 x0, .slice A0' n0 c0', .slice A1' n1 c1']] w fun e w' => e = .returned (.bool true) ∧ Below w.heap.size w w' := by
  have S0 := (Stc.new w 32 [.int .i64 x0, .slice A0 n0 c0, .slice A1 n1 c1] _ rfl).alloc (.cells #[.int .i64 x0, .slice A0' n0 c0', .slice A1' n1 c1'] 32)
  have S1 := Stc.new (w.alloc (.cells #[.int .i64 x0, .slice A0 n0 c0, .slice A1 n1 c1] 32)) 32 [.int .i64 x0, .slice A0' n0 c0', .slice A1' n1 c1'] _ rfl
  have B0 := ab (ab (Below.refl _ w) (.cells #[.int .i64 x0, .slice A0 n0 c0, .slice A1 n1 c1] 32)) (.cells #[.int .i64 x0, .slice A0' n0 c0', .slice A1' n1 c1'] 32)
  simp only [World.size_alloc] at S1
  go_enter Try.func13, Try.ntmps13
  have v0 := S0.cell (i := 0) rfl
  have u0 := S1.cell (i := 0) rfl
  have v1 := S0.cell (i := 1) rfl
  have u1 := S1.cell (i := 1) rfl
  have v2 := S0.cell (i := 2) rfl
  have u2 := S1.cell (i := 2) rfl
  go_wp2_with fail
  refine (eqHeldS_any _ _ _ _ _ _ _ (h0.below B0) (h0'.below B0) (by omega) (fun e he => by have := hb0 e he; omega)).mono ?_
  rintro e w1 ⟨rfl, b1⟩
  have B1 := ac B0 b1
  clear v0 u0 v1 u1 v2 u2
  replace S0 := S0.below b1 S0.lt
  replace S1 := S1.below b1 S1.lt
  have v0 := S0.cell (i := 0) rfl
  have u0 := S1.cell (i := 0) rfl
  have v1 := S0.cell (i := 1) rfl
  have u1 := S1.cell (i := 1) rfl
  have v2 := S0.cell (i := 2) rfl
  have u2 := S1.cell (i := 2) rfl
  go_wp2_with fail
  refine (eqByteS_any _ _ _ _ _ _ _ _ _ (h1.below B1) (h1'.below B1) (by omega) (by omega)).mono ?_
  rintro e w2 ⟨rfl, q2, rfl⟩
  simp only [decide_true]
  have B2 := ad B1 q2
  clear v0 u0 v1 u1 v2 u2
  replace S0 := S0.drewN q2
  replace S1 := S1.drewN q2
  have v0 := S0.cell (i := 0) rfl
  have u0 := S1.cell (i := 0) rfl
  have v1 := S0.cell (i := 1) rfl
  have u1 := S1.cell (i := 1) rfl
  have v2 := S0.cell (i := 2) rfl
  have u2 := S1.cell (i := 2) rfl
  go_wp2
  go_ret
  exact ⟨rfl, B2⟩

set_option maxHeartbeats 1000000 in
theorem markReceiver_any (x0 : Int) (A0 : Option Addr) (n0 c0 : Nat) (d0 : List HeldD) (A1 : Option Addr) (n1 c1 : Nat) (d1 : List Int) (F : Nat → Prop) (k : Int) (w : World) (h : (Thing.sep (tH A0 n0 d0) (tR A1 n1 d1)) w F) (hF : ∀ b, F b → b < w.heap.size) (hk0 : 0 ≤ k) (hk1 : k ≤ 10000000) (hn0 : n0 ≤ 10000000) (hs0 : sumE HeldD.wd d0 ≤ 10000000) (hn1 : n1 ≤ 10000000) :
    Calls Try.prog 15 #[.agg #[.int .i64 x0, .slice A0 n0 c0, .slice A1 n1 c1], .int .i64 k] w fun e w' => e = .returned (.int .i64 (k + (sumE HeldD.wd d0 : Int) + (n1 : Int))) ∧ (Thing.sep (tH A0 n0 (markE HeldD.mk_ HeldD.wd (k) d0)) (tR A1 n1 (marks (k + (sumE HeldD.wd d0 : Int)) n1))) w' F ∧ Tu F w w' := by
  have S0 := Stc.new w 32 [.int .i64 x0, .slice A0 n0 c0, .slice A1 n1 c1] _ rfl
  have B0 := ab (Below.refl _ w) (.cells #[.int .i64 x0, .slice A0 n0 c0, .slice A1 n1 c1] 32)
  replace h := ((okH _ _ _).sep (okR _ _ _)).alloc h (.cells #[.int .i64 x0, .slice A0 n0 c0, .slice A1 n1 c1] 32)
  obtain ⟨G0_h, H0_h, i0_h, j0_h, k0_h, p0, p1⟩ := h
  have TU0 := (Tu.ofBelow (F := F) B0)
  have nF : ¬ F w.heap.size := fun hh => by have := hF _ hh; omega
  go_enter Try.func15, Try.ntmps15
  have v0 := S0.cell (i := 0) rfl
  have v1 := S0.cell (i := 1) rfl
  have v2 := S0.cell (i := 2) rfl
  go_wp2_with fail
  refine (markHeldS_any _ _ _ _ _ _ _ p0 (by omega) (by omega) (by omega) (by omega)).mono ?_
  rintro e w1 ⟨rfl, p0, tt⟩
  clear v0 v1 v2
  replace p1 := Thing.Ok.tu (okR _ _ _) p1 tt (fun b hj hi => (fun b hi hj => k0_h b hi hj) b hi hj)
  have tF := tt.wider (G := F) (fun b hb => (i0_h b hb))
  have TU1 := TU0.trans tF
  replace S0 := S0.tu tF nF
  clear tt tF
  have v0 := S0.cell (i := 0) rfl
  have v1 := S0.cell (i := 1) rfl
  have v2 := S0.cell (i := 2) rfl
  go_wp2_with fail
  refine (markByteS_any _ _ _ _ _ _ _ (Bo.ow0 p1) (by omega) (by omega) (by omega)).mono ?_
  rintro e w2 ⟨rfl, oo, on⟩
  have tt : Tu H0_h _ w2 := Tu.ofOnly on (Bo.inside p1)
  replace p1 : tR _ _ _ w2 H0_h := Bo.remark p1 oo
  clear v0 v1 v2
  replace p0 := Thing.Ok.tu (okH _ _ _) p0 tt (fun b hi hj => (fun b hi hj => k0_h b hi hj) b hi hj)
  have tF := tt.wider (G := F) (fun b hb => (j0_h b hb))
  have TU2 := TU1.trans tF
  replace S0 := S0.tu tF nF
  clear tt tF
  have v0 := S0.cell (i := 0) rfl
  have v1 := S0.cell (i := 1) rfl
  have v2 := S0.cell (i := 2) rfl
  go_wp2
  go_ret
  exact ⟨rfl, ⟨G0_h, H0_h, i0_h, j0_h, k0_h, p0, p1⟩, TU2⟩

set_option maxHeartbeats 1000000 in
theorem heldReceiver_any (x0 : Int) (A0 : Option Addr) (n0 c0 : Nat) (d0 : List HeldD) (A1 : Option Addr) (n1 c1 : Nat) (k : Int) (w : World) (h0 : Lst HeldD.cels 3 w A0 n0 (markE HeldD.mk_ HeldD.wd (k) d0)) (h1 : Bs w A1 n1 (marks (k + (sumE HeldD.wd d0 : Int)) n1)) (hk0 : 0 ≤ k) (hk1 : k ≤ 10000000) (hn0 : n0 ≤ 10000000) (hs0 : sumE HeldD.wd d0 ≤ 10000000) (hn1 : n1 ≤ 10000000) :
    Calls Try.prog 56 #[.agg #[.int .i64 x0, .slice A0 n0 c0, .slice A1 n1 c1], .int .i64 k] w fun e w' => e = .returned (.int .i64 (k + (sumE HeldD.wd d0 : Int) + (n1 : Int))) ∧ Below w.heap.size w w' := by
  have S0 := Stc.new w 32 [.int .i64 x0, .slice A0 n0 c0, .slice A1 n1 c1] _ rfl
  have B0 := ab (Below.refl _ w) (.cells #[.int .i64 x0, .slice A0 n0 c0, .slice A1 n1 c1] 32)
  go_enter Try.func56, Try.ntmps56
  have v0 := S0.cell (i := 0) rfl
  have v1 := S0.cell (i := 1) rfl
  have v2 := S0.cell (i := 2) rfl
  have tz : decide (k + (sumE HeldD.wd d0 : Int) < 0) = false := by simp; omega
  go_wp2_with fail
  refine (heldHeldS_any _ _ _ _ _ _ (h0.below B0) (by omega) (by omega) (by omega) (by omega)).mono ?_
  rintro e w1 ⟨rfl, b1⟩
  have B1 := ac B0 b1
  clear v0 v1 v2
  replace S0 := S0.below b1 S0.lt
  skip
  have tz1 := tz
  clear tz
  have v0 := S0.cell (i := 0) rfl
  have v1 := S0.cell (i := 1) rfl
  have v2 := S0.cell (i := 2) rfl
  have tz : decide (k + (sumE HeldD.wd d0 : Int) + (n1 : Int) < 0) = false := by simp; omega
  go_wp2_with fail
  refine (heldByteS_any _ _ _ _ _ (h1.below B1) (by omega) (by omega) (by omega)).mono ?_
  rintro e w2 ⟨rfl, rfl⟩
  have B2 := B1
  clear v0 v1 v2
  skip
  have tz2 := tz
  clear tz
  have v0 := S0.cell (i := 0) rfl
  have v1 := S0.cell (i := 1) rfl
  have v2 := S0.cell (i := 2) rfl
  go_wp2
  go_ret
  exact ⟨rfl, B2⟩

end Go.Proofs.Ytpaemmoopjkppaa
