/- The laws' helpers for structs with lists in them. -/
import Derived.Test.YtgmbofoneeagiaaThgC
namespace Go.Proofs.Ytgmbofoneeagiaa
open Go.RowKit

set_option maxHeartbeats 2000000 in
theorem toSender_any (x0 : Int) (A0 : Option Addr) (n0 c0 : Nat) (d0 : List PartD) (w : World) (h0 : Lst PartD.cels 4 w A0 n0 d0) (hn0 : n0 ≤ 1048576) (hb0 : ∀ e ∈ d0, e.f0.length ≤ 1048576) :
    Calls Try.prog 169 #[.agg #[.int .i64 x0, .slice A0 n0 c0]] w fun e w' => (∃ g0, e = .returned (.agg #[.int .i64 x0, .slice (some ⟨g0, 0, none⟩) n0 n0]) ∧ (tP (some ⟨g0, 0, none⟩) n0 d0) w' (rng w.heap.size w'.heap.size)) ∧ Below w.heap.size w w' := by
  have S0 := ((Stc.new w 114 [.int .i64 x0, .slice A0 n0 c0] _ rfl).alloc (.cells #[.int .i64 0, .slice none 0 0] 58)).alloc (.cells #[.int .i64 x0, .slice none 0 0] 58)
  have S1 := ((Stc.new (w.alloc (.cells #[.int .i64 x0, .slice A0 n0 c0] 114)) 58 [.int .i64 0, .slice none 0 0] _ rfl).alloc (.cells #[.int .i64 x0, .slice none 0 0] 58))
  have S2 := (Stc.new ((w.alloc (.cells #[.int .i64 x0, .slice A0 n0 c0] 114)).alloc (.cells #[.int .i64 0, .slice none 0 0] 58)) 58 [.int .i64 x0, .slice none 0 0] _ rfl)
  have B0 := ab (ab (ab (Below.refl _ w) (.cells #[.int .i64 x0, .slice A0 n0 c0] 114)) (.cells #[.int .i64 0, .slice none 0 0] 58)) (.cells #[.int .i64 x0, .slice none 0 0] 58)
  simp only [World.size_alloc] at S1 S2
  go_enter Try.func169, Try.ntmps169
  have v1 := S0.cell (i := 1) rfl
  go_wp2_with fail
  refine (toPartS_any _ _ _ _ _ (h0.below B0) hn0 hb0).mono ?_
  rintro e w1 ⟨⟨rfl, q0⟩, b1⟩
  have z1 := b1.size
  simp only [World.size_alloc] at q0 z1 ⊢
  have R0 : (tP (some ⟨w.heap.size + 1 + 1 + 1, 0, none⟩) n0 d0) w1 (rng (w.heap.size + 1 + 1 + 1) w1.heap.size) := q0
  have B1 := ac B0 b1
  replace S0 := S0.below b1 S0.lt
  replace S1 := S1.below b1 S1.lt
  replace S2 := S2.below b1 S2.lt
  clear b1 v1
  have s0 := S0.cell (i := 0) rfl
  have s1 := S0.cell (i := 1) rfl
  have t0 := S1.cell (i := 0) rfl
  have t1 := S1.cell (i := 1) rfl
  have u0 := S2.cell (i := 0) rfl
  have u1 := S2.cell (i := 1) rfl
  have uf := S2.frozen
  have tf := S1.frozen
  go_wp2
  refine bodyPost_ret (v := .agg #[.int .i64 x0, .slice (some ⟨w.heap.size + 1 + 1 + 1, 0, none⟩) n0 n0]) (by simp [results, Try.results169, go_sem, t0, t1]) rfl ?_
  have RR := R0
  refine ⟨⟨_, rfl, ?_⟩, (((B1.setCell (by first | (simp; done) | (simp; omega)) _).setCell (by first | (simp; done) | (simp; omega)) _).setCell (by first | (simp; done) | (simp; omega)) _)⟩
  simp only [World.size_setCell]
  exact Thing.Ok.widen (okP _ _ _) (Thing.Ok.tu (okP _ _ _) RR ((((Tu.refl (fun b => b = w.heap.size + 1 + 1 ∨ b = w.heap.size + 1) _).set_ (p := ⟨w.heap.size + 1 + 1, 1, none⟩) (.inl rfl) _).set_ (p := ⟨w.heap.size + 1, 0, none⟩) (.inr rfl) _).set_ (p := ⟨w.heap.size + 1, 1, none⟩) (.inr rfl) _) (fun b hF hG => by unfold rng at hF; omega)) (by omega) (Nat.le_refl _)

def totSender (n0 : Nat) (d0 : List PartD) : Nat := n0 + sumE PartD.len d0
set_option maxRecDepth 100000 in
set_option linter.unusedVariables false in
set_option maxHeartbeats 1000000 in
theorem szSender_any (x0 : Int) (A0 : Option Addr) (n0 c0 : Nat) (d0 : List PartD) (x : Int) (w : World) (h0 : Lst PartD.cels 4 w A0 n0 d0) (hx0 : 0 ≤ x) (hx1 : x ≤ 1048576) (hn0 : n0 ≤ 9223372036854775807) (hb0 : ∀ e ∈ d0, e.f0.length ≤ 9223372036854775807) :
    Calls Try.prog 165 #[.agg #[.int .i64 x0, .slice A0 n0 c0], .int .i64 x] w fun e w' => e = .returned (.int .i64 (leftC x (totSender n0 d0))) ∧ Below w.heap.size w w' := by
  have S0 := Stc.new w 114 [.int .i64 x0, .slice A0 n0 c0] _ rfl
  have B0 := ab (Below.refl _ w) (.cells #[.int .i64 x0, .slice A0 n0 c0] 114)
  have HT : Shut (totSender n0 d0 = n0 + sumE PartD.len d0) := ⟨rfl⟩
  generalize hTT : totSender n0 d0 = TT at HT
  clear hTT
  obtain ⟨a0, ha0⟩ : ∃ a : Nat, a = n0 + sumE PartD.len d0 := ⟨_, rfl⟩
  have HT2 : Shut (TT = a0) := ⟨by have := HT.out; omega⟩
  replace ha0 := Shut.mk ha0
  have m0 := fun W (hh : Below w.heap.size w W) => szPartS_any A0 n0 c0 d0 x W (h0.below hh) (by omega) (by omega) hn0 hb0
  unfold leftE at m0
  rw [← ha0.out] at m0
  by_cases f0 : x - (a0 : Int) < 0
  · have e0 : leftC x a0 = -1 := by unfold leftC; rw [if_pos f0]
    rw [e0] at m0
    have E : Shut (leftC x TT = -1) := ⟨by have h9 := HT2.out; unfold leftC; rw [if_pos (by omega)]⟩
    clear f0 e0
    go_enter Try.func165, Try.ntmps165
    have v1 := S0.cell (i := 1) rfl
    go_wp2_with fail
    refine (m0 _ B0).mono ?_
    rintro e w1 ⟨rfl, b1⟩
    go_wp2
    go_ret
    exact ⟨by rw [E.out]; rfl, (ac B0 b1)⟩
  · have e0 : leftC x a0 = x - (a0 : Int) := by unfold leftC; rw [if_neg f0]
    rw [e0] at m0
    have E : Shut (leftC x TT = x - (a0 : Int)) := ⟨by have h9 := HT2.out; unfold leftC; rw [if_neg (by omega), h9]; first | done | omega⟩
    clear e0
    go_enter Try.func165, Try.ntmps165
    have v1 := S0.cell (i := 1) rfl
    go_wp2_with fail
    refine (m0 _ B0).mono ?_
    rintro e w1 ⟨rfl, b1⟩
    go_wp2
    go_ret
    exact ⟨by rw [E.out]; rfl, (ac B0 b1)⟩

set_option maxHeartbeats 1000000 in
theorem eqSender_any (x0 : Int) (A0 A0' : Option Addr) (n0 c0 c0' : Nat) (d0 : List PartD) (w : World) (h0 : Lst PartD.cels 4 w A0 n0 d0) (h0' : Lst PartD.cels 4 w A0' n0 d0) (hn0 : n0 ≤ 100000000) (hb0 : ∀ e ∈ d0, e.f0.length ≤ 100000000) :
    Calls Try.prog 174 #[.agg #[.int .i64 x0, .slice A0 n0 c0], .agg #[.int .i64 x0, .slice A0' n0 c0']] w fun e w' => e = .returned (.bool true) ∧ Below w.heap.size w w' := by
  have S0 := (Stc.new w 58 [.int .i64 x0, .slice A0 n0 c0] _ rfl).alloc (.cells #[.int .i64 x0, .slice A0' n0 c0'] 58)
  have S1 := Stc.new (w.alloc (.cells #[.int .i64 x0, .slice A0 n0 c0] 58)) 58 [.int .i64 x0, .slice A0' n0 c0'] _ rfl
  have B0 := ab (ab (Below.refl _ w) (.cells #[.int .i64 x0, .slice A0 n0 c0] 58)) (.cells #[.int .i64 x0, .slice A0' n0 c0'] 58)
  simp only [World.size_alloc] at S1
  go_enter Try.func174, Try.ntmps174
  have v0 := S0.cell (i := 0) rfl
  have u0 := S1.cell (i := 0) rfl
  have v1 := S0.cell (i := 1) rfl
  have u1 := S1.cell (i := 1) rfl
  go_wp2_with fail
  refine (eqPartS_any _ _ _ _ _ _ _ (h0.below B0) (h0'.below B0) (by omega) (fun e he => by have := hb0 e he; omega)).mono ?_
  rintro e w1 ⟨rfl, b1⟩
  have B1 := ac B0 b1
  clear v0 u0 v1 u1
  replace S0 := S0.below b1 S0.lt
  replace S1 := S1.below b1 S1.lt
  have v0 := S0.cell (i := 0) rfl
  have u0 := S1.cell (i := 0) rfl
  have v1 := S0.cell (i := 1) rfl
  have u1 := S1.cell (i := 1) rfl
  go_wp2
  go_ret
  exact ⟨rfl, B1⟩

set_option maxHeartbeats 1000000 in
theorem markSender_any (x0 : Int) (A0 : Option Addr) (n0 c0 : Nat) (d0 : List PartD) (F : Nat → Prop) (k : Int) (w : World) (h : (tP A0 n0 d0) w F) (hF : ∀ b, F b → b < w.heap.size) (hk0 : 0 ≤ k) (hk1 : k ≤ 10000000) (hn0 : n0 ≤ 10000000) (hs0 : sumE PartD.wd d0 ≤ 10000000) :
    Calls Try.prog 175 #[.agg #[.int .i64 x0, .slice A0 n0 c0], .int .i64 k] w fun e w' => e = .returned (.int .i64 (k + (sumE PartD.wd d0 : Int))) ∧ (tP A0 n0 (markE PartD.mk_ PartD.wd (k) d0)) w' F ∧ Tu F w w' := by
  have S0 := Stc.new w 58 [.int .i64 x0, .slice A0 n0 c0] _ rfl
  have B0 := ab (Below.refl _ w) (.cells #[.int .i64 x0, .slice A0 n0 c0] 58)
  replace h := (okP _ _ _).alloc h (.cells #[.int .i64 x0, .slice A0 n0 c0] 58)
  have p0 := h
  have TU0 := (Tu.ofBelow (F := F) B0)
  have nF : ¬ F w.heap.size := fun hh => by have := hF _ hh; omega
  go_enter Try.func175, Try.ntmps175
  have v0 := S0.cell (i := 0) rfl
  have v1 := S0.cell (i := 1) rfl
  go_wp2_with fail
  refine (markPartS_any _ _ _ _ _ _ _ p0 (by omega) (by omega) (by omega) (by omega)).mono ?_
  rintro e w1 ⟨rfl, p0, tt⟩
  clear v0 v1
  have tF := tt.wider (G := F) (fun b hb => hb)
  have TU1 := TU0.trans tF
  replace S0 := S0.tu tF nF
  clear tt tF
  have v0 := S0.cell (i := 0) rfl
  have v1 := S0.cell (i := 1) rfl
  go_wp2
  go_ret
  exact ⟨rfl, p0, TU1⟩

set_option maxHeartbeats 1000000 in
theorem heldSender_any (x0 : Int) (A0 : Option Addr) (n0 c0 : Nat) (d0 : List PartD) (k : Int) (w : World) (h0 : Lst PartD.cels 4 w A0 n0 (markE PartD.mk_ PartD.wd (k) d0)) (hk0 : 0 ≤ k) (hk1 : k ≤ 10000000) (hn0 : n0 ≤ 10000000) (hs0 : sumE PartD.wd d0 ≤ 10000000) :
    Calls Try.prog 201 #[.agg #[.int .i64 x0, .slice A0 n0 c0], .int .i64 k] w fun e w' => e = .returned (.int .i64 (k + (sumE PartD.wd d0 : Int))) ∧ Below w.heap.size w w' := by
  have S0 := Stc.new w 58 [.int .i64 x0, .slice A0 n0 c0] _ rfl
  have B0 := ab (Below.refl _ w) (.cells #[.int .i64 x0, .slice A0 n0 c0] 58)
  go_enter Try.func201, Try.ntmps201
  have v0 := S0.cell (i := 0) rfl
  have v1 := S0.cell (i := 1) rfl
  have tz : decide (k + (sumE PartD.wd d0 : Int) < 0) = false := by simp; omega
  go_wp2_with fail
  refine (heldPartS_any _ _ _ _ _ _ (h0.below B0) (by omega) (by omega) (by omega) (by omega)).mono ?_
  rintro e w1 ⟨rfl, b1⟩
  have B1 := ac B0 b1
  clear v0 v1
  replace S0 := S0.below b1 S0.lt
  skip
  have tz1 := tz
  clear tz
  have v0 := S0.cell (i := 0) rfl
  have v1 := S0.cell (i := 1) rfl
  go_wp2
  go_ret
  exact ⟨rfl, B1⟩

end Go.Proofs.Ytgmbofoneeagiaa
