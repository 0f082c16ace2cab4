/- The text of a cell, of the program; EncodeCell of both. -/
import Derived.Test.YtpoiecdifhkegaaEncP
namespace Go.Proofs.Ytpoiecdifhkegaa
open Go.RowKit
set_option linter.unusedVariables false

theorem writ_eq (a b c d : Int) (v : Bool) (l : List Int) : writ (laid3 a c d) b v l = cellL a b c d v l := data_eq a b c d v l
theorem laid3_by {a c d : Int} (a0 : 0 ≤ a) (a1 : a < 256) (d0 : 0 ≤ d) (d1 : d < 256) : By (laid3 a c d) := by
  rw [laid3_eq]
  intro x hx
  simp only [List.mem_cons, List.mem_append, List.mem_replicate] at hx
  rcases hx with rfl | rfl | rfl | hx | rfl | rfl | rfl | ⟨_, rfl⟩
  · omega
  · omega
  · omega
  · exact hi2_by _ x hx
  · omega
  · omega
  · omega
  · omega
theorem cellL_by {a b c d : Int} {v : Bool} {l : List Int} (a0 : 0 ≤ a) (a1 : a < 256) (d0 : 0 ≤ d) (d1 : d < 256) (hl : By l) (hn : l.length ≤ 32) : By (cellL a b c d v l) := by
  unfold cellL
  intro x hx
  simp only [List.mem_cons, List.mem_append, List.mem_replicate] at hx
  rcases hx with rfl | hx | hx | rfl | rfl | rfl | hx | ⟨_, rfl⟩
  · omega
  · exact hi2_by _ x hx
  · exact hi2_by _ x hx
  · omega
  · unfold bit; split <;> omega
  · omega
  · exact hl x hx
  · omega

theorem dummyWrite_any (v : Value) (w : World) :
    Calls Try.prog 85 #[.agg #[], v] w fun e w' => e = .returned (.tuple #[]) ∧ Below w.heap.size w w' := by
  go_enter Try.func85, Try.ntmps85
  go_wp2
  go_end0
  exact ⟨rfl, by go_grown⟩

set_option maxRecDepth 100000 in
set_option maxHeartbeats 4000000 in
theorem encoded_data (a b c d : Int) (v : Bool) (A : Option Addr) (n f : Nat) (l : List Int) (w : World) (hA : Bs w A n l) (hn : n ≤ 32) (ha0 : 0 ≤ a) (ha1 : a < 256) (hc0 : 0 ≤ c) (hc1 : c ≤ 100000) (hd0 : 0 ≤ d) (hd1 : d < 256)
    (hk : ∀ W : World, Calls Try.prog 51 #[.agg #[.int .i64 a, .int .i64 b, .int .i64 c, .int .i64 d, .bool v, .slice A n f]] W fun e w' => e = .returned (.iface 71 (.agg #[.int .i64 b, .bool v, .slice A n f])) ∧ Below W.heap.size W w') :
    Calls Try.prog 41 #[.agg #[.int .i64 a, .int .i64 b, .int .i64 c, .int .i64 d, .bool v, .slice A n f]] w fun e w' => (∃ g, e = .returned (.slice (some ⟨g, 0, none⟩) 44 44) ∧ Ow w' w.heap.size (some ⟨g, 0, none⟩) 44 (cellL a b c d v l)) ∧ Below w.heap.size w w' := by
  have wa : IntKind.u8.wrap a = a := IntWalk.u8_in a (by omega)
  have wd : IntKind.u8.wrap d = d := IntWalk.u8_in d (by omega)
  have hmk : ∀ w : World, (Instr.makeSlice 22 (.int .i64 44) (.int .i64 44)).run Try.prog w = .ok (.slice (some ⟨w.heap.size, 0, none⟩) 44 44) (w.alloc (.cells ((List.replicate 44 (0 : Int)).map (Value.int .u8)).toArray 5)) := fun w => run_make_bytes 44 (by omega) w
  have D0 := (Stc.new w 25 [.int .i64 a, .int .i64 b, .int .i64 c, .int .i64 d, .bool v, .slice A n f] _ rfl).alloc (.cells #[.int .u8 a, .int .u8 0, .int .u8 0, .int .u8 0, .int .u8 0, .int .u8 0, .int .u8 0, .int .u8 0, .int .u8 0, .int .u8 0, .int .u8 0, .int .u8 0, .int .u8 0, .int .u8 0, .int .u8 0, .int .u8 0, .int .u8 0, .int .u8 0, .int .u8 0, .int .u8 0, .int .u8 0, .int .u8 0, .int .u8 0, .int .u8 0, .int .u8 0, .int .u8 0, .int .u8 0, .int .u8 0, .int .u8 0, .int .u8 0, .int .u8 0, .int .u8 0, .int .u8 0, .int .u8 0, .int .u8 0, .int .u8 0, .int .u8 0, .int .u8 0, .int .u8 0, .int .u8 0, .int .u8 0, .int .u8 0, .int .u8 0, .int .u8 0] 5)
  have K0 : Blk ((w.alloc (.cells #[.int .i64 a, .int .i64 b, .int .i64 c, .int .i64 d, .bool v, .slice A n f] 25)).alloc (.cells #[.int .u8 a, .int .u8 0, .int .u8 0, .int .u8 0, .int .u8 0, .int .u8 0, .int .u8 0, .int .u8 0, .int .u8 0, .int .u8 0, .int .u8 0, .int .u8 0, .int .u8 0, .int .u8 0, .int .u8 0, .int .u8 0, .int .u8 0, .int .u8 0, .int .u8 0, .int .u8 0, .int .u8 0, .int .u8 0, .int .u8 0, .int .u8 0, .int .u8 0, .int .u8 0, .int .u8 0, .int .u8 0, .int .u8 0, .int .u8 0, .int .u8 0, .int .u8 0, .int .u8 0, .int .u8 0, .int .u8 0, .int .u8 0, .int .u8 0, .int .u8 0, .int .u8 0, .int .u8 0, .int .u8 0, .int .u8 0, .int .u8 0, .int .u8 0] 5)) (w.heap.size + 1) (a :: List.replicate 43 0) := by
    have h := Blk.made (w.alloc (.cells #[.int .i64 a, .int .i64 b, .int .i64 c, .int .i64 d, .bool v, .slice A n f] 25)) (a :: List.replicate 43 0)
    rw [World.size_alloc] at h
    exact h
  have B0 := ab (ab (Below.refl _ w) (.cells #[.int .i64 a, .int .i64 b, .int .i64 c, .int .i64 d, .bool v, .slice A n f] 25)) (.cells #[.int .u8 a, .int .u8 0, .int .u8 0, .int .u8 0, .int .u8 0, .int .u8 0, .int .u8 0, .int .u8 0, .int .u8 0, .int .u8 0, .int .u8 0, .int .u8 0, .int .u8 0, .int .u8 0, .int .u8 0, .int .u8 0, .int .u8 0, .int .u8 0, .int .u8 0, .int .u8 0, .int .u8 0, .int .u8 0, .int .u8 0, .int .u8 0, .int .u8 0, .int .u8 0, .int .u8 0, .int .u8 0, .int .u8 0, .int .u8 0, .int .u8 0, .int .u8 0, .int .u8 0, .int .u8 0, .int .u8 0, .int .u8 0, .int .u8 0, .int .u8 0, .int .u8 0, .int .u8 0, .int .u8 0, .int .u8 0, .int .u8 0, .int .u8 0] 5)
  have A0 := (hA.alloc (.cells #[.int .i64 a, .int .i64 b, .int .i64 c, .int .i64 d, .bool v, .slice A n f] 25)).alloc (.cells #[.int .u8 a, .int .u8 0, .int .u8 0, .int .u8 0, .int .u8 0, .int .u8 0, .int .u8 0, .int .u8 0, .int .u8 0, .int .u8 0, .int .u8 0, .int .u8 0, .int .u8 0, .int .u8 0, .int .u8 0, .int .u8 0, .int .u8 0, .int .u8 0, .int .u8 0, .int .u8 0, .int .u8 0, .int .u8 0, .int .u8 0, .int .u8 0, .int .u8 0, .int .u8 0, .int .u8 0, .int .u8 0, .int .u8 0, .int .u8 0, .int .u8 0, .int .u8 0, .int .u8 0, .int .u8 0, .int .u8 0, .int .u8 0, .int .u8 0, .int .u8 0, .int .u8 0, .int .u8 0, .int .u8 0, .int .u8 0, .int .u8 0, .int .u8 0] 5)
  have hne : 0 < n → ∀ a, A = some a → a.block ≠ w.heap.size + 1 := fun h0 x hx => by
    obtain ⟨b', off, e, hb, _⟩ := hA.at_ h0
    rw [hx] at e
    injection e with e
    subst e
    simp only
    omega
  go_enter Try.func41, Try.ntmps41
  go_wp2_with fail
  generalize hw0 : (w.alloc (.cells #[.int .i64 a, .int .i64 b, .int .i64 c, .int .i64 d, .bool v, .slice A n f] 25)).alloc (.cells #[.int .u8 a, .int .u8 0, .int .u8 0, .int .u8 0, .int .u8 0, .int .u8 0, .int .u8 0, .int .u8 0, .int .u8 0, .int .u8 0, .int .u8 0, .int .u8 0, .int .u8 0, .int .u8 0, .int .u8 0, .int .u8 0, .int .u8 0, .int .u8 0, .int .u8 0, .int .u8 0, .int .u8 0, .int .u8 0, .int .u8 0, .int .u8 0, .int .u8 0, .int .u8 0, .int .u8 0, .int .u8 0, .int .u8 0, .int .u8 0, .int .u8 0, .int .u8 0, .int .u8 0, .int .u8 0, .int .u8 0, .int .u8 0, .int .u8 0, .int .u8 0, .int .u8 0, .int .u8 0, .int .u8 0, .int .u8 0, .int .u8 0, .int .u8 0] 5) = w0 at *
  clear hw0 hmk
  have hgw : w.heap.size < w.heap.size + 1 := by omega
  have hgn : ¬ w.heap.size = w.heap.size + 1 := by omega
  have hgn2 : ¬ w.heap.size + 1 = w.heap.size := by omega
  generalize w.heap.size + 1 = g at *
  have L0 : Shut ((a :: List.replicate 43 (0 : Int)).length = 44) := ⟨by simp⟩
  have L1 : Shut ((laidOver (a :: List.replicate 43 (0 : Int)) 3 (hi2 c)).length = 44) := ⟨by rw [laidOver_len _ _ _ (by rw [hi2_len, L0.out]; omega), L0.out]⟩
  have E3 : Shut ((laidOver (a :: List.replicate 43 (0 : Int)) 3 (hi2 c)).set 5 d = laid3 a c d) := ⟨rfl⟩
  generalize a :: List.replicate 43 (0 : Int) = P at *
  have hg0 := K0.lt
  have hlt := D0.lt
  have x0 := D0.cell (i := 2) rfl
  have sr := Save.refl g w0
  have HB : Shut (∀ W : World, (W.cell? ⟨w.heap.size, 2, none⟩ = some (.int .i64 c) ∧ Save g w0 W) → Calls Try.prog 62 #[.int .i64 c, .int .i64 2] W fun e w' => (∃ q, e = .returned (.slice (some ⟨q, 0, none⟩) 2 2) ∧ Bs w' (some ⟨q, 0, none⟩) 2 (hi2 c)) ∧ Below W.heap.size W w' ∧ w'.cell? ⟨w.heap.size, 2, none⟩ = some (.int .i64 c) ∧ Save g w0 w') := by
    refine ⟨fun W ⟨z0, z1⟩ => (spreadHigh_any c 2 W (by omega)).mono ?_⟩
    rintro e w' ⟨rfl, ho, hb⟩
    exact ⟨⟨_, rfl, ho.bs⟩, hb, (hb.cell (p := ⟨w.heap.size, 2, none⟩) (Nat.lt_of_lt_of_le hlt z1.size)).trans z0, z1.then hb⟩
  go_region_held3 (fun W => W.cell? ⟨w.heap.size, 2, none⟩ = some (.int .i64 c) ∧ Save g w0 W)
    (first | (exact ⟨by assumption, by assumption⟩) | (exact ⟨x0, sr.drewN 1⟩) | go_keep)
    (first
    | (go_at_call 62; refine (HB.out _ ?_).mono ?_; (first | assumption | (simp [*]; done)); rintro e w1 ⟨⟨q1, rfl, o1⟩, b1, z0, z1⟩)
    | (refine step_copyb_save rfl _ _ rfl w1 g 3 41 41 (some ⟨q1, 0, none⟩) 2 2 P (hi2 c) rfl rfl (Blk.below (w := w0.drew) K0 b1 hg0) o1 (by omega) (by rw [L0.out]; omega) ?_; intro w2 k2 s2; have y1 := z1.trans s2; have y0 := (D0.save y1 hgn).cell (i := 2) rfl))
  clear HB x0 sr o1 b1 z0 z1 s2 y0
  have D2 := D0.save y1 hgn
  have x0 := D2.cell (i := 0) rfl
  have x1 := D2.cell (i := 1) rfl
  have x2 := D2.cell (i := 2) rfl
  have x3 := D2.cell (i := 3) rfl
  have x4 := D2.cell (i := 4) rfl
  have x5 := D2.cell (i := 5) rfl
  have c5 := k2.cell (i := 5) (by rw [L1.out]; omega)
  have f5 := k2.frozen 5
  have k3 := k2.set_ 5 d
  rw [E3.out] at k3
  have y3 := y1.set_ 5 (.int .u8 d)
  have z3 := y3.size
  go_wp2_with fail
  generalize hw3 : w2.setCell ⟨g, 5, none⟩ (.int .u8 d) = w3 at *
  clear hw3 x0 x1 x2 x3 x4 x5 c5 f5 D2 k2 y1
  refine (hk _).mono ?_
  rintro e w4 ⟨rfl, b4⟩
  have k4 := k3.below b4 k3.lt
  have y4 := y3.then b4
  have A4 := A0.off hne y4
  go_wp2_with fail
  refine (dataWrite_any b v A n f g l _ _ k4 (laid3_len a c d) A4 hne hn).mono ?_
  rintro e w5 ⟨rfl, k5, s5⟩
  go_wp2
  go_ret
  rw [writ_eq] at k5
  exact ⟨⟨g, rfl, (k5.own (cellL_by ha0 ha1 hd0 hd1 hA.byte (by rw [hA.len]; exact hn)) (cellL_len _ _ _ _ _ _ (by rw [hA.len]; omega))).mono (Nat.le_of_lt hgw)⟩, B0.trans ((y4.trans s5).below (Nat.le_of_lt hgw) (Nat.le_of_lt hlt))⟩

set_option maxRecDepth 100000 in
set_option maxHeartbeats 4000000 in
theorem encoded_dummy (a b c d : Int) (v : Bool) (A : Option Addr) (n f : Nat) (l : List Int) (w : World) (hA : Bs w A n l) (hn : n ≤ 32) (ha0 : 0 ≤ a) (ha1 : a < 256) (hc0 : 0 ≤ c) (hc1 : c ≤ 100000) (hd0 : 0 ≤ d) (hd1 : d < 256)
    (hk : ∀ W : World, Calls Try.prog 51 #[.agg #[.int .i64 a, .int .i64 b, .int .i64 c, .int .i64 d, .bool v, .slice A n f]] W fun e w' => e = .returned (.iface 69 (.agg #[])) ∧ Below W.heap.size W w') :
    Calls Try.prog 41 #[.agg #[.int .i64 a, .int .i64 b, .int .i64 c, .int .i64 d, .bool v, .slice A n f]] w fun e w' => (∃ g, e = .returned (.slice (some ⟨g, 0, none⟩) 44 44) ∧ Ow w' w.heap.size (some ⟨g, 0, none⟩) 44 (laid3 a c d)) ∧ Below w.heap.size w w' := by
  have wa : IntKind.u8.wrap a = a := IntWalk.u8_in a (by omega)
  have wd : IntKind.u8.wrap d = d := IntWalk.u8_in d (by omega)
  have hmk : ∀ w : World, (Instr.makeSlice 22 (.int .i64 44) (.int .i64 44)).run Try.prog w = .ok (.slice (some ⟨w.heap.size, 0, none⟩) 44 44) (w.alloc (.cells ((List.replicate 44 (0 : Int)).map (Value.int .u8)).toArray 5)) := fun w => run_make_bytes 44 (by omega) w
  have D0 := (Stc.new w 25 [.int .i64 a, .int .i64 b, .int .i64 c, .int .i64 d, .bool v, .slice A n f] _ rfl).alloc (.cells #[.int .u8 a, .int .u8 0, .int .u8 0, .int .u8 0, .int .u8 0, .int .u8 0, .int .u8 0, .int .u8 0, .int .u8 0, .int .u8 0, .int .u8 0, .int .u8 0, .int .u8 0, .int .u8 0, .int .u8 0, .int .u8 0, .int .u8 0, .int .u8 0, .int .u8 0, .int .u8 0, .int .u8 0, .int .u8 0, .int .u8 0, .int .u8 0, .int .u8 0, .int .u8 0, .int .u8 0, .int .u8 0, .int .u8 0, .int .u8 0, .int .u8 0, .int .u8 0, .int .u8 0, .int .u8 0, .int .u8 0, .int .u8 0, .int .u8 0, .int .u8 0, .int .u8 0, .int .u8 0, .int .u8 0, .int .u8 0, .int .u8 0, .int .u8 0] 5)
  have K0 : Blk ((w.alloc (.cells #[.int .i64 a, .int .i64 b, .int .i64 c, .int .i64 d, .bool v, .slice A n f] 25)).alloc (.cells #[.int .u8 a, .int .u8 0, .int .u8 0, .int .u8 0, .int .u8 0, .int .u8 0, .int .u8 0, .int .u8 0, .int .u8 0, .int .u8 0, .int .u8 0, .int .u8 0, .int .u8 0, .int .u8 0, .int .u8 0, .int .u8 0, .int .u8 0, .int .u8 0, .int .u8 0, .int .u8 0, .int .u8 0, .int .u8 0, .int .u8 0, .int .u8 0, .int .u8 0, .int .u8 0, .int .u8 0, .int .u8 0, .int .u8 0, .int .u8 0, .int .u8 0, .int .u8 0, .int .u8 0, .int .u8 0, .int .u8 0, .int .u8 0, .int .u8 0, .int .u8 0, .int .u8 0, .int .u8 0, .int .u8 0, .int .u8 0, .int .u8 0, .int .u8 0] 5)) (w.heap.size + 1) (a :: List.replicate 43 0) := by
    have h := Blk.made (w.alloc (.cells #[.int .i64 a, .int .i64 b, .int .i64 c, .int .i64 d, .bool v, .slice A n f] 25)) (a :: List.replicate 43 0)
    rw [World.size_alloc] at h
    exact h
  have B0 := ab (ab (Below.refl _ w) (.cells #[.int .i64 a, .int .i64 b, .int .i64 c, .int .i64 d, .bool v, .slice A n f] 25)) (.cells #[.int .u8 a, .int .u8 0, .int .u8 0, .int .u8 0, .int .u8 0, .int .u8 0, .int .u8 0, .int .u8 0, .int .u8 0, .int .u8 0, .int .u8 0, .int .u8 0, .int .u8 0, .int .u8 0, .int .u8 0, .int .u8 0, .int .u8 0, .int .u8 0, .int .u8 0, .int .u8 0, .int .u8 0, .int .u8 0, .int .u8 0, .int .u8 0, .int .u8 0, .int .u8 0, .int .u8 0, .int .u8 0, .int .u8 0, .int .u8 0, .int .u8 0, .int .u8 0, .int .u8 0, .int .u8 0, .int .u8 0, .int .u8 0, .int .u8 0, .int .u8 0, .int .u8 0, .int .u8 0, .int .u8 0, .int .u8 0, .int .u8 0, .int .u8 0] 5)
  have A0 := (hA.alloc (.cells #[.int .i64 a, .int .i64 b, .int .i64 c, .int .i64 d, .bool v, .slice A n f] 25)).alloc (.cells #[.int .u8 a, .int .u8 0, .int .u8 0, .int .u8 0, .int .u8 0, .int .u8 0, .int .u8 0, .int .u8 0, .int .u8 0, .int .u8 0, .int .u8 0, .int .u8 0, .int .u8 0, .int .u8 0, .int .u8 0, .int .u8 0, .int .u8 0, .int .u8 0, .int .u8 0, .int .u8 0, .int .u8 0, .int .u8 0, .int .u8 0, .int .u8 0, .int .u8 0, .int .u8 0, .int .u8 0, .int .u8 0, .int .u8 0, .int .u8 0, .int .u8 0, .int .u8 0, .int .u8 0, .int .u8 0, .int .u8 0, .int .u8 0, .int .u8 0, .int .u8 0, .int .u8 0, .int .u8 0, .int .u8 0, .int .u8 0, .int .u8 0, .int .u8 0] 5)
  have hne : 0 < n → ∀ a, A = some a → a.block ≠ w.heap.size + 1 := fun h0 x hx => by
    obtain ⟨b', off, e, hb, _⟩ := hA.at_ h0
    rw [hx] at e
    injection e with e
    subst e
    simp only
    omega
  go_enter Try.func41, Try.ntmps41
  go_wp2_with fail
  generalize hw0 : (w.alloc (.cells #[.int .i64 a, .int .i64 b, .int .i64 c, .int .i64 d, .bool v, .slice A n f] 25)).alloc (.cells #[.int .u8 a, .int .u8 0, .int .u8 0, .int .u8 0, .int .u8 0, .int .u8 0, .int .u8 0, .int .u8 0, .int .u8 0, .int .u8 0, .int .u8 0, .int .u8 0, .int .u8 0, .int .u8 0, .int .u8 0, .int .u8 0, .int .u8 0, .int .u8 0, .int .u8 0, .int .u8 0, .int .u8 0, .int .u8 0, .int .u8 0, .int .u8 0, .int .u8 0, .int .u8 0, .int .u8 0, .int .u8 0, .int .u8 0, .int .u8 0, .int .u8 0, .int .u8 0, .int .u8 0, .int .u8 0, .int .u8 0, .int .u8 0, .int .u8 0, .int .u8 0, .int .u8 0, .int .u8 0, .int .u8 0, .int .u8 0, .int .u8 0, .int .u8 0] 5) = w0 at *
  clear hw0 hmk
  have hgw : w.heap.size < w.heap.size + 1 := by omega
  have hgn : ¬ w.heap.size = w.heap.size + 1 := by omega
  have hgn2 : ¬ w.heap.size + 1 = w.heap.size := by omega
  generalize w.heap.size + 1 = g at *
  have L0 : Shut ((a :: List.replicate 43 (0 : Int)).length = 44) := ⟨by simp⟩
  have L1 : Shut ((laidOver (a :: List.replicate 43 (0 : Int)) 3 (hi2 c)).length = 44) := ⟨by rw [laidOver_len _ _ _ (by rw [hi2_len, L0.out]; omega), L0.out]⟩
  have E3 : Shut ((laidOver (a :: List.replicate 43 (0 : Int)) 3 (hi2 c)).set 5 d = laid3 a c d) := ⟨rfl⟩
  generalize a :: List.replicate 43 (0 : Int) = P at *
  have hg0 := K0.lt
  have hlt := D0.lt
  have x0 := D0.cell (i := 2) rfl
  have sr := Save.refl g w0
  have HB : Shut (∀ W : World, (W.cell? ⟨w.heap.size, 2, none⟩ = some (.int .i64 c) ∧ Save g w0 W) → Calls Try.prog 62 #[.int .i64 c, .int .i64 2] W fun e w' => (∃ q, e = .returned (.slice (some ⟨q, 0, none⟩) 2 2) ∧ Bs w' (some ⟨q, 0, none⟩) 2 (hi2 c)) ∧ Below W.heap.size W w' ∧ w'.cell? ⟨w.heap.size, 2, none⟩ = some (.int .i64 c) ∧ Save g w0 w') := by
    refine ⟨fun W ⟨z0, z1⟩ => (spreadHigh_any c 2 W (by omega)).mono ?_⟩
    rintro e w' ⟨rfl, ho, hb⟩
    exact ⟨⟨_, rfl, ho.bs⟩, hb, (hb.cell (p := ⟨w.heap.size, 2, none⟩) (Nat.lt_of_lt_of_le hlt z1.size)).trans z0, z1.then hb⟩
  go_region_held3 (fun W => W.cell? ⟨w.heap.size, 2, none⟩ = some (.int .i64 c) ∧ Save g w0 W)
    (first | (exact ⟨by assumption, by assumption⟩) | (exact ⟨x0, sr.drewN 1⟩) | go_keep)
    (first
    | (go_at_call 62; refine (HB.out _ ?_).mono ?_; (first | assumption | (simp [*]; done)); rintro e w1 ⟨⟨q1, rfl, o1⟩, b1, z0, z1⟩)
    | (refine step_copyb_save rfl _ _ rfl w1 g 3 41 41 (some ⟨q1, 0, none⟩) 2 2 P (hi2 c) rfl rfl (Blk.below (w := w0.drew) K0 b1 hg0) o1 (by omega) (by rw [L0.out]; omega) ?_; intro w2 k2 s2; have y1 := z1.trans s2; have y0 := (D0.save y1 hgn).cell (i := 2) rfl))
  clear HB x0 sr o1 b1 z0 z1 s2 y0
  have D2 := D0.save y1 hgn
  have x0 := D2.cell (i := 0) rfl
  have x1 := D2.cell (i := 1) rfl
  have x2 := D2.cell (i := 2) rfl
  have x3 := D2.cell (i := 3) rfl
  have x4 := D2.cell (i := 4) rfl
  have x5 := D2.cell (i := 5) rfl
  have c5 := k2.cell (i := 5) (by rw [L1.out]; omega)
  have f5 := k2.frozen 5
  have k3 := k2.set_ 5 d
  rw [E3.out] at k3
  have y3 := y1.set_ 5 (.int .u8 d)
  have z3 := y3.size
  go_wp2_with fail
  generalize hw3 : w2.setCell ⟨g, 5, none⟩ (.int .u8 d) = w3 at *
  clear hw3 x0 x1 x2 x3 x4 x5 c5 f5 D2 k2 y1
  refine (hk _).mono ?_
  rintro e w4 ⟨rfl, b4⟩
  have k4 := k3.below b4 k3.lt
  have y4 := y3.then b4
  have A4 := A0.off hne y4
  go_wp2_with fail
  refine (dummyWrite_any _ _).mono ?_
  rintro e w5 ⟨rfl, b5⟩
  have k5 := k4.below b5 k4.lt
  have s5 := y4.then b5
  go_wp2
  go_ret
  exact ⟨⟨g, rfl, (k5.own (laid3_by ha0 ha1 hd0 hd1) (laid3_len _ _ _)).mono (Nat.le_of_lt hgw)⟩, B0.trans (s5.below (Nat.le_of_lt hgw) (Nat.le_of_lt hlt))⟩


/-- what a cell without a fault is like -/
theorem cellC_ok {a b c d : Int} {v : Bool} {n : Nat} (h : cellC a b c d v n = 0) : (0 ≤ a ∧ a < 256) ∧ (0 ≤ b ∧ b ≤ 100000) ∧ (0 ≤ c ∧ c ≤ 100000) ∧ (0 ≤ d ∧ d < 256) ∧ n ≤ 32 ∧ ((a = 1) ∨ (a = 0 ∧ b = 0 ∧ v = false ∧ n = 0)) := by
  unfold cellC at h
  split at h
  · omega
  · rename_i h1
    split at h
    · rename_i h2
      simp only [inB, decide_eq_true_eq] at h2
      split at h
      · rename_i h3
        have hk : a = 1 ∨ a = 0 := by omega
        refine ⟨by omega, by omega, by omega, by omega, h3, ?_⟩
        rcases hk with hk | hk
        · exact .inl hk
        · refine .inr ⟨hk, ?_, ?_, ?_⟩
          · exact Decidable.byContradiction fun g => h1 (.inr ⟨hk, .inl g⟩)
          · cases v
            · rfl
            · exact absurd (.inr ⟨hk, .inr (.inl rfl)⟩) h1
          · exact Decidable.byContradiction fun g => h1 (.inr ⟨hk, .inr (.inr g)⟩)
      · omega
    · omega

/-- the program's text of a cell without a fault -/
theorem encoded_any (a b c d : Int) (v : Bool) (A : Option Addr) (n f : Nat) (l : List Int) (w : World) (hA : Bs w A n l) (h0 : cellC a b c d v n = 0) :
    Calls Try.prog 41 #[.agg #[.int .i64 a, .int .i64 b, .int .i64 c, .int .i64 d, .bool v, .slice A n f]] w fun e w' => (∃ g, e = .returned (.slice (some ⟨g, 0, none⟩) 44 44) ∧ Ow w' w.heap.size (some ⟨g, 0, none⟩) 44 (cellL a b c d v l)) ∧ Below w.heap.size w w' := by
  obtain ⟨⟨a0, a1⟩, _, ⟨c0, c1⟩, ⟨d0, d1⟩, hn, hk⟩ := cellC_ok h0
  rcases hk with rfl | ⟨rfl, rfl, rfl, rfl⟩
  · exact encoded_data 1 b c d v A n f l w hA hn a0 a1 c0 c1 d0 d1 (fun W => kindOf_data b v n c d A f W)
  · obtain rfl : l = [] := List.eq_nil_of_length_eq_zero hA.len
    have h := encoded_dummy 0 0 c d false A 0 f [] w hA hn a0 a1 c0 c1 d0 d1 (fun W => kindOf_dummy c d A f W)
    rw [dummy_eq] at h
    exact h
end Go.Proofs.Ytpoiecdifhkegaa
