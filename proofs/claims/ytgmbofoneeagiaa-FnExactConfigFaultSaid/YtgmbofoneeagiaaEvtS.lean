/- The laws' helpers for structs with lists in them. -/
import Derived.Test.YtgmbofoneeagiaaThgC
namespace Go.Proofs.Ytgmbofoneeagiaa
open Go.RowKit

set_option maxHeartbeats 2000000 in
theorem toConfig_any (x0 : Bool) (A0 : Option Addr) (n0 c0 : Nat) (d0 : List Int) (w : World) (h0 : Bs w A0 n0 d0) (hn0 : n0 ≤ 1048576) :
    Calls Try.prog 14 #[.agg #[.bool x0, .slice A0 n0 c0]] w fun e w' => (∃ g0, e = .returned (.agg #[.bool x0, .slice (some ⟨g0, 0, none⟩) n0 n0]) ∧ (tR (some ⟨g0, 0, none⟩) n0 d0) w' (rng w.heap.size w'.heap.size)) ∧ Below w.heap.size w w' := by
  have S0 := ((Stc.new w 24 [.bool x0, .slice A0 n0 c0] _ rfl).alloc (.cells #[.bool false, .slice none 0 0] 27)).alloc (.cells #[.bool x0, .slice none 0 0] 27)
  have S1 := ((Stc.new (w.alloc (.cells #[.bool x0, .slice A0 n0 c0] 24)) 27 [.bool false, .slice none 0 0] _ rfl).alloc (.cells #[.bool x0, .slice none 0 0] 27))
  have S2 := (Stc.new ((w.alloc (.cells #[.bool x0, .slice A0 n0 c0] 24)).alloc (.cells #[.bool false, .slice none 0 0] 27)) 27 [.bool x0, .slice none 0 0] _ rfl)
  have B0 := ab (ab (ab (Below.refl _ w) (.cells #[.bool x0, .slice A0 n0 c0] 24)) (.cells #[.bool false, .slice none 0 0] 27)) (.cells #[.bool x0, .slice none 0 0] 27)
  simp only [World.size_alloc] at S1 S2
  go_enter Try.func14, Try.ntmps14
  have v1 := S0.cell (i := 1) rfl
  go_wp2_with fail
  refine (toByteS_any _ _ _ _ _ (h0.below B0) (by omega)).mono ?_
  rintro e w1 ⟨rfl, k1, b1⟩
  have q0 : Ow w1 _ _ n0 d0 := k1.own h0.byte h0.len
  have k1l := k1.lt
  have z1 := b1.size
  simp only [World.size_alloc] at q0 z1 k1 k1l ⊢
  have R0 : (tR (some ⟨w.heap.size + 1 + 1 + 1, 0, none⟩) n0 d0) w1 (rng (w.heap.size + 1 + 1 + 1) w1.heap.size) := Bo.ofOw q0 fun b _ _ hB hl => ⟨hB, hl⟩
  have B1 := ac B0 b1
  replace S0 := S0.below b1 S0.lt
  replace S1 := S1.below b1 S1.lt
  replace S2 := S2.below b1 S2.lt
  clear b1 v1
  have s0 := S0.cell (i := 0) rfl
  have s1 := S0.cell (i := 1) rfl
  have t0 := S1.cell (i := 0) rfl
  have t1 := S1.cell (i := 1) rfl
  have u0 := S2.cell (i := 0) rfl
  have u1 := S2.cell (i := 1) rfl
  have uf := S2.frozen
  have tf := S1.frozen
  go_wp2
  refine bodyPost_ret (v := .agg #[.bool x0, .slice (some ⟨w.heap.size + 1 + 1 + 1, 0, none⟩) n0 n0]) (by simp [results, Try.results14, go_sem, t0, t1]) rfl ?_
  have RR := R0
  refine ⟨⟨_, rfl, ?_⟩, (((B1.setCell (by first | (simp; done) | (simp; omega)) _).setCell (by first | (simp; done) | (simp; omega)) _).setCell (by first | (simp; done) | (simp; omega)) _)⟩
  simp only [World.size_setCell]
  exact Thing.Ok.widen (okR _ _ _) (Thing.Ok.tu (okR _ _ _) RR ((((Tu.refl (fun b => b = w.heap.size + 1 + 1 ∨ b = w.heap.size + 1) _).set_ (p := ⟨w.heap.size + 1 + 1, 1, none⟩) (.inl rfl) _).set_ (p := ⟨w.heap.size + 1, 0, none⟩) (.inr rfl) _).set_ (p := ⟨w.heap.size + 1, 1, none⟩) (.inr rfl) _) (fun b hF hG => by unfold rng at hF; omega)) (by omega) (Nat.le_refl _)

def totConfig (n0 : Nat) : Nat := n0
set_option maxRecDepth 100000 in
set_option linter.unusedVariables false in
set_option maxHeartbeats 1000000 in
theorem szConfig_any (x0 : Bool) (A0 : Option Addr) (n0 c0 : Nat) (d0 : List Int) (x : Int) (w : World) (h0 : Bs w A0 n0 d0) (hx0 : 0 ≤ x) (hx1 : x ≤ 1048576) (hn0 : n0 ≤ 9223372036854775807) :
    Calls Try.prog 12 #[.agg #[.bool x0, .slice A0 n0 c0], .int .i64 x] w fun e w' => e = .returned (.int .i64 (leftC x (totConfig n0))) ∧ Below w.heap.size w w' := by
  have S0 := Stc.new w 24 [.bool x0, .slice A0 n0 c0] _ rfl
  have B0 := ab (Below.refl _ w) (.cells #[.bool x0, .slice A0 n0 c0] 24)
  have HT : Shut (totConfig n0 = n0) := ⟨rfl⟩
  generalize hTT : totConfig n0 = TT at HT
  clear hTT
  have HT2 : Shut (TT = n0) := ⟨by have := HT.out; omega⟩
  have m0 := fun W => szByteS_any A0 n0 c0 x W (by omega) (by omega) hn0
  have hm0 : ∀ y : Int, (if y - (n0 : Int) < 0 then -1 else y - (n0 : Int)) = leftC y n0 := fun _ => rfl
  rw [hm0] at m0
  clear hm0
  by_cases f0 : x - (n0 : Int) < 0
  · have e0 : leftC x n0 = -1 := by unfold leftC; rw [if_pos f0]
    rw [e0] at m0
    have E : Shut (leftC x TT = -1) := ⟨by have h9 := HT2.out; unfold leftC; rw [if_pos (by omega)]⟩
    clear f0 e0
    go_enter Try.func12, Try.ntmps12
    have v1 := S0.cell (i := 1) rfl
    go_wp2_with fail
    refine (m0 _).mono ?_
    rintro e w1 ⟨rfl, rfl⟩
    go_wp2
    go_ret
    exact ⟨by rw [E.out]; rfl, B0⟩
  · have e0 : leftC x n0 = x - (n0 : Int) := by unfold leftC; rw [if_neg f0]
    rw [e0] at m0
    have E : Shut (leftC x TT = x - (n0 : Int)) := ⟨by have h9 := HT2.out; unfold leftC; rw [if_neg (by omega), h9]; first | done | omega⟩
    clear e0
    go_enter Try.func12, Try.ntmps12
    have v1 := S0.cell (i := 1) rfl
    go_wp2_with fail
    refine (m0 _).mono ?_
    rintro e w1 ⟨rfl, rfl⟩
    go_wp2
    go_ret
    exact ⟨by rw [E.out]; rfl, B0⟩

set_option maxHeartbeats 1000000 in
theorem eqConfig_any (x0 : Bool) (A0 A0' : Option Addr) (n0 c0 c0' : Nat) (d0 : List Int) (w : World) (h0 : Bs w A0 n0 d0) (h0' : Bs w A0' n0 d0) (hn0 : n0 ≤ 100000000) :
    Calls Try.prog 16 #[.agg #[.bool x0, .slice A0 n0 c0], .agg #[.bool x0, .slice A0' n0 c0']] w fun e w' => e = .returned (.bool true) ∧ Below w.heap.size w w' := by
  have S0 := (Stc.new w 27 [.bool x0, .slice A0 n0 c0] _ rfl).alloc (.cells #[.bool x0, .slice A0' n0 c0'] 27)
  have S1 := Stc.new (w.alloc (.cells #[.bool x0, .slice A0 n0 c0] 27)) 27 [.bool x0, .slice A0' n0 c0'] _ rfl
  have B0 := ab (ab (Below.refl _ w) (.cells #[.bool x0, .slice A0 n0 c0] 27)) (.cells #[.bool x0, .slice A0' n0 c0'] 27)
  simp only [World.size_alloc] at S1
  go_enter Try.func16, Try.ntmps16
  have v0 := S0.cell (i := 0) rfl
  have u0 := S1.cell (i := 0) rfl
  have v1 := S0.cell (i := 1) rfl
  have u1 := S1.cell (i := 1) rfl
  go_wp2_with fail
  refine (eqByteS_any _ _ _ _ _ _ _ _ _ (h0.below B0) (h0'.below B0) (by omega) (by omega)).mono ?_
  rintro e w1 ⟨rfl, q1, rfl⟩
  simp only [decide_true]
  have B1 := ad B0 q1
  clear v0 u0 v1 u1
  replace S0 := S0.drewN q1
  replace S1 := S1.drewN q1
  have v0 := S0.cell (i := 0) rfl
  have u0 := S1.cell (i := 0) rfl
  have v1 := S0.cell (i := 1) rfl
  have u1 := S1.cell (i := 1) rfl
  go_wp2
  go_ret
  exact ⟨rfl, B1⟩

set_option maxHeartbeats 2000000 in
theorem toEvent_any (x0 : Int) (x1 : Int) (x3 : Int) (x4 : Int) (x5 : Int) (A0 : Option Addr) (n0 c0 : Nat) (d0 : List Int) (w : World) (h0 : Bs w A0 n0 d0) (hn0 : n0 ≤ 1048576) :
    Calls Try.prog 19 #[.agg #[.int .i64 x0, .int .i64 x1, .slice A0 n0 c0, .int .i64 x3, .int .i64 x4, .int .i64 x5]] w fun e w' => (∃ g0, e = .returned (.agg #[.int .i64 x0, .int .i64 x1, .slice (some ⟨g0, 0, none⟩) n0 n0, .int .i64 x3, .int .i64 x4, .int .i64 x5]) ∧ (tR (some ⟨g0, 0, none⟩) n0 d0) w' (rng w.heap.size w'.heap.size)) ∧ Below w.heap.size w w' := by
  have S0 := ((Stc.new w 32 [.int .i64 x0, .int .i64 x1, .slice A0 n0 c0, .int .i64 x3, .int .i64 x4, .int .i64 x5] _ rfl).alloc (.cells #[.int .i64 0, .int .i64 0, .slice none 0 0, .int .i64 0, .int .i64 0, .int .i64 0] 35)).alloc (.cells #[.int .i64 x0, .int .i64 x1, .slice none 0 0, .int .i64 0, .int .i64 0, .int .i64 0] 35)
  have S1 := ((Stc.new (w.alloc (.cells #[.int .i64 x0, .int .i64 x1, .slice A0 n0 c0, .int .i64 x3, .int .i64 x4, .int .i64 x5] 32)) 35 [.int .i64 0, .int .i64 0, .slice none 0 0, .int .i64 0, .int .i64 0, .int .i64 0] _ rfl).alloc (.cells #[.int .i64 x0, .int .i64 x1, .slice none 0 0, .int .i64 0, .int .i64 0, .int .i64 0] 35))
  have S2 := (Stc.new ((w.alloc (.cells #[.int .i64 x0, .int .i64 x1, .slice A0 n0 c0, .int .i64 x3, .int .i64 x4, .int .i64 x5] 32)).alloc (.cells #[.int .i64 0, .int .i64 0, .slice none 0 0, .int .i64 0, .int .i64 0, .int .i64 0] 35)) 35 [.int .i64 x0, .int .i64 x1, .slice none 0 0, .int .i64 0, .int .i64 0, .int .i64 0] _ rfl)
  have B0 := ab (ab (ab (Below.refl _ w) (.cells #[.int .i64 x0, .int .i64 x1, .slice A0 n0 c0, .int .i64 x3, .int .i64 x4, .int .i64 x5] 32)) (.cells #[.int .i64 0, .int .i64 0, .slice none 0 0, .int .i64 0, .int .i64 0, .int .i64 0] 35)) (.cells #[.int .i64 x0, .int .i64 x1, .slice none 0 0, .int .i64 0, .int .i64 0, .int .i64 0] 35)
  simp only [World.size_alloc] at S1 S2
  go_enter Try.func19, Try.ntmps19
  have v2 := S0.cell (i := 2) rfl
  go_wp2_with fail
  refine (toByteS_any _ _ _ _ _ (h0.below B0) (by omega)).mono ?_
  rintro e w1 ⟨rfl, k1, b1⟩
  have q0 : Ow w1 _ _ n0 d0 := k1.own h0.byte h0.len
  have k1l := k1.lt
  have z1 := b1.size
  simp only [World.size_alloc] at q0 z1 k1 k1l ⊢
  have R0 : (tR (some ⟨w.heap.size + 1 + 1 + 1, 0, none⟩) n0 d0) w1 (rng (w.heap.size + 1 + 1 + 1) w1.heap.size) := Bo.ofOw q0 fun b _ _ hB hl => ⟨hB, hl⟩
  have B1 := ac B0 b1
  replace S0 := S0.below b1 S0.lt
  replace S1 := S1.below b1 S1.lt
  replace S2 := S2.below b1 S2.lt
  clear b1 v2
  have s0 := S0.cell (i := 0) rfl
  have s1 := S0.cell (i := 1) rfl
  have s2 := S0.cell (i := 2) rfl
  have s3 := S0.cell (i := 3) rfl
  have s4 := S0.cell (i := 4) rfl
  have s5 := S0.cell (i := 5) rfl
  have t0 := S1.cell (i := 0) rfl
  have t1 := S1.cell (i := 1) rfl
  have t2 := S1.cell (i := 2) rfl
  have t3 := S1.cell (i := 3) rfl
  have t4 := S1.cell (i := 4) rfl
  have t5 := S1.cell (i := 5) rfl
  have u0 := S2.cell (i := 0) rfl
  have u1 := S2.cell (i := 1) rfl
  have u2 := S2.cell (i := 2) rfl
  have u3 := S2.cell (i := 3) rfl
  have u4 := S2.cell (i := 4) rfl
  have u5 := S2.cell (i := 5) rfl
  have uf := S2.frozen
  have tf := S1.frozen
  go_wp2
  refine bodyPost_ret (v := .agg #[.int .i64 x0, .int .i64 x1, .slice (some ⟨w.heap.size + 1 + 1 + 1, 0, none⟩) n0 n0, .int .i64 x3, .int .i64 x4, .int .i64 x5]) (by simp [results, Try.results19, go_sem, t0, t1, t2, t3, t4, t5]) rfl ?_
  have RR := R0
  refine ⟨⟨_, rfl, ?_⟩, ((((((((((B1.setCell (by first | (simp; done) | (simp; omega)) _).setCell (by first | (simp; done) | (simp; omega)) _).setCell (by first | (simp; done) | (simp; omega)) _).setCell (by first | (simp; done) | (simp; omega)) _).setCell (by first | (simp; done) | (simp; omega)) _).setCell (by first | (simp; done) | (simp; omega)) _).setCell (by first | (simp; done) | (simp; omega)) _).setCell (by first | (simp; done) | (simp; omega)) _).setCell (by first | (simp; done) | (simp; omega)) _).setCell (by first | (simp; done) | (simp; omega)) _)⟩
  simp only [World.size_setCell]
  exact Thing.Ok.widen (okR _ _ _) (Thing.Ok.tu (okR _ _ _) RR (((((((((((Tu.refl (fun b => b = w.heap.size + 1 + 1 ∨ b = w.heap.size + 1) _).set_ (p := ⟨w.heap.size + 1 + 1, 2, none⟩) (.inl rfl) _).set_ (p := ⟨w.heap.size + 1 + 1, 3, none⟩) (.inl rfl) _).set_ (p := ⟨w.heap.size + 1 + 1, 4, none⟩) (.inl rfl) _).set_ (p := ⟨w.heap.size + 1 + 1, 5, none⟩) (.inl rfl) _).set_ (p := ⟨w.heap.size + 1, 0, none⟩) (.inr rfl) _).set_ (p := ⟨w.heap.size + 1, 1, none⟩) (.inr rfl) _).set_ (p := ⟨w.heap.size + 1, 2, none⟩) (.inr rfl) _).set_ (p := ⟨w.heap.size + 1, 3, none⟩) (.inr rfl) _).set_ (p := ⟨w.heap.size + 1, 4, none⟩) (.inr rfl) _).set_ (p := ⟨w.heap.size + 1, 5, none⟩) (.inr rfl) _) (fun b hF hG => by unfold rng at hF; omega)) (by omega) (Nat.le_refl _)

def totEvent (n0 : Nat) : Nat := n0
set_option maxRecDepth 100000 in
set_option linter.unusedVariables false in
set_option maxHeartbeats 1000000 in
theorem szEvent_any (x0 : Int) (x1 : Int) (x3 : Int) (x4 : Int) (x5 : Int) (A0 : Option Addr) (n0 c0 : Nat) (d0 : List Int) (x : Int) (w : World) (h0 : Bs w A0 n0 d0) (hx0 : 0 ≤ x) (hx1 : x ≤ 1048576) (hn0 : n0 ≤ 9223372036854775807) :
    Calls Try.prog 17 #[.agg #[.int .i64 x0, .int .i64 x1, .slice A0 n0 c0, .int .i64 x3, .int .i64 x4, .int .i64 x5], .int .i64 x] w fun e w' => e = .returned (.int .i64 (leftC x (totEvent n0))) ∧ Below w.heap.size w w' := by
  have S0 := Stc.new w 32 [.int .i64 x0, .int .i64 x1, .slice A0 n0 c0, .int .i64 x3, .int .i64 x4, .int .i64 x5] _ rfl
  have B0 := ab (Below.refl _ w) (.cells #[.int .i64 x0, .int .i64 x1, .slice A0 n0 c0, .int .i64 x3, .int .i64 x4, .int .i64 x5] 32)
  have HT : Shut (totEvent n0 = n0) := ⟨rfl⟩
  generalize hTT : totEvent n0 = TT at HT
  clear hTT
  have HT2 : Shut (TT = n0) := ⟨by have := HT.out; omega⟩
  have m0 := fun W => szByteS_any A0 n0 c0 x W (by omega) (by omega) hn0
  have hm0 : ∀ y : Int, (if y - (n0 : Int) < 0 then -1 else y - (n0 : Int)) = leftC y n0 := fun _ => rfl
  rw [hm0] at m0
  clear hm0
  by_cases f0 : x - (n0 : Int) < 0
  · have e0 : leftC x n0 = -1 := by unfold leftC; rw [if_pos f0]
    rw [e0] at m0
    have E : Shut (leftC x TT = -1) := ⟨by have h9 := HT2.out; unfold leftC; rw [if_pos (by omega)]⟩
    clear f0 e0
    go_enter Try.func17, Try.ntmps17
    have v2 := S0.cell (i := 2) rfl
    go_wp2_with fail
    refine (m0 _).mono ?_
    rintro e w1 ⟨rfl, rfl⟩
    go_wp2
    go_ret
    exact ⟨by rw [E.out]; rfl, B0⟩
  · have e0 : leftC x n0 = x - (n0 : Int) := by unfold leftC; rw [if_neg f0]
    rw [e0] at m0
    have E : Shut (leftC x TT = x - (n0 : Int)) := ⟨by have h9 := HT2.out; unfold leftC; rw [if_neg (by omega), h9]; first | done | omega⟩
    clear e0
    go_enter Try.func17, Try.ntmps17
    have v2 := S0.cell (i := 2) rfl
    go_wp2_with fail
    refine (m0 _).mono ?_
    rintro e w1 ⟨rfl, rfl⟩
    go_wp2
    go_ret
    exact ⟨by rw [E.out]; rfl, B0⟩

set_option maxHeartbeats 1000000 in
theorem eqEvent_any (x0 : Int) (x1 : Int) (x3 : Int) (x4 : Int) (x5 : Int) (A0 A0' : Option Addr) (n0 c0 c0' : Nat) (d0 : List Int) (w : World) (h0 : Bs w A0 n0 d0) (h0' : Bs w A0' n0 d0) (hn0 : n0 ≤ 100000000) :
    Calls Try.prog 21 #[.agg #[.int .i64 x0, .int .i64 x1, .slice A0 n0 c0, .int .i64 x3, .int .i64 x4, .int .i64 x5], .agg #[.int .i64 x0, .int .i64 x1, .slice A0' n0 c0', .int .i64 x3, .int .i64 x4, .int .i64 x5]] w fun e w' => e = .returned (.bool true) ∧ Below w.heap.size w w' := by
  have S0 := (Stc.new w 35 [.int .i64 x0, .int .i64 x1, .slice A0 n0 c0, .int .i64 x3, .int .i64 x4, .int .i64 x5] _ rfl).alloc (.cells #[.int .i64 x0, .int .i64 x1, .slice A0' n0 c0', .int .i64 x3, .int .i64 x4, .int .i64 x5] 35)
  have S1 := Stc.new (w.alloc (.cells #[.int .i64 x0, .int .i64 x1, .slice A0 n0 c0, .int .i64 x3, .int .i64 x4, .int .i64 x5] 35)) 35 [.int .i64 x0, .int .i64 x1, .slice A0' n0 c0', .int .i64 x3, .int .i64 x4, .int .i64 x5] _ rfl
  have B0 := ab (ab (Below.refl _ w) (.cells #[.int .i64 x0, .int .i64 x1, .slice A0 n0 c0, .int .i64 x3, .int .i64 x4, .int .i64 x5] 35)) (.cells #[.int .i64 x0, .int .i64 x1, .slice A0' n0 c0', .int .i64 x3, .int .i64 x4, .int .i64 x5] 35)
  simp only [World.size_alloc] at S1
  go_enter Try.func21, Try.ntmps21
  have v0 := S0.cell (i := 0) rfl
  have u0 := S1.cell (i := 0) rfl
  have v1 := S0.cell (i := 1) rfl
  have u1 := S1.cell (i := 1) rfl
  have v2 := S0.cell (i := 2) rfl
  have u2 := S1.cell (i := 2) rfl
  have v3 := S0.cell (i := 3) rfl
  have u3 := S1.cell (i := 3) rfl
  have v4 := S0.cell (i := 4) rfl
  have u4 := S1.cell (i := 4) rfl
  have v5 := S0.cell (i := 5) rfl
  have u5 := S1.cell (i := 5) rfl
  go_wp2_with fail
  refine (eqByteS_any _ _ _ _ _ _ _ _ _ (h0.below B0) (h0'.below B0) (by omega) (by omega)).mono ?_
  rintro e w1 ⟨rfl, q1, rfl⟩
  simp only [decide_true]
  have B1 := ad B0 q1
  clear v0 u0 v1 u1 v2 u2 v3 u3 v4 u4 v5 u5
  replace S0 := S0.drewN q1
  replace S1 := S1.drewN q1
  have v0 := S0.cell (i := 0) rfl
  have u0 := S1.cell (i := 0) rfl
  have v1 := S0.cell (i := 1) rfl
  have u1 := S1.cell (i := 1) rfl
  have v2 := S0.cell (i := 2) rfl
  have u2 := S1.cell (i := 2) rfl
  have v3 := S0.cell (i := 3) rfl
  have u3 := S1.cell (i := 3) rfl
  have v4 := S0.cell (i := 4) rfl
  have u4 := S1.cell (i := 4) rfl
  have v5 := S0.cell (i := 5) rfl
  have u5 := S1.cell (i := 5) rfl
  go_wp2
  go_ret
  exact ⟨rfl, B1⟩

end Go.Proofs.Ytgmbofoneeagiaa
