/- Five limbs as the program holds them: an array of five; sums, carries. -/
import Derived.Test.YtpoiecdifhkegaaDoorPolyN
namespace Go.Proofs.YtpoiecdifhkegaaDoor
open Go.RowKit

theorem set5 {w : World} {g : Nat} {l : List Int} (hl : l.length = 5) (h : KOw .u64 w g l) (a0 a1 a2 a3 a4 : Int) :
    KOw .u64 (((((w.setCell ⟨g, 0, none⟩ (.int .u64 a0)).setCell ⟨g, 1, none⟩ (.int .u64 a1)).setCell ⟨g, 2, none⟩ (.int .u64 a2)).setCell ⟨g, 3, none⟩ (.int .u64 a3)).setCell ⟨g, 4, none⟩ (.int .u64 a4)) g [a0, a1, a2, a3, a4] := by
  match l, hl with
  | [x0, x1, x2, x3, x4], _ =>
    have h0 := h.set_ 0 (by simp) a0
    have h1 := h0.set_ 1 (by simp) a1
    have h2 := h1.set_ 2 (by simp) a2
    have h3 := h2.set_ 3 (by simp) a3
    have h4 := h3.set_ 4 (by simp) a4
    simp only [List.set_cons_succ, List.set_cons_zero] at h4
    exact h4
theorem below5 {w : World} {B g : Nat} {W : World} (h : Below B W w) (hB : B ≤ g) (v0 v1 v2 v3 v4 : Value) :
    Below B W (((((w.setCell ⟨g, 0, none⟩ v0).setCell ⟨g, 1, none⟩ v1).setCell ⟨g, 2, none⟩ v2).setCell ⟨g, 3, none⟩ v3).setCell ⟨g, 4, none⟩ v4) := by
  have h0 := h.setCell (p := ⟨g, 0, none⟩) hB v0
  have h1 := h0.setCell (p := ⟨g, 1, none⟩) hB v1
  have h2 := h1.setCell (p := ⟨g, 2, none⟩) hB v2
  have h3 := h2.setCell (p := ⟨g, 3, none⟩) hB v3
  exact h3.setCell (p := ⟨g, 4, none⟩) hB v4
theorem KOw.full5 {w : World} {g : Nat} {a0 a1 a2 a3 a4 : Int} (h : KOw .u64 w g [a0, a1, a2, a3, a4]) :
    w.cell? ⟨g, 0, none⟩ = some (.int .u64 a0) ∧ w.cell? ⟨g, 1, none⟩ = some (.int .u64 a1) ∧ w.cell? ⟨g, 2, none⟩ = some (.int .u64 a2) ∧ w.cell? ⟨g, 3, none⟩ = some (.int .u64 a3) ∧ w.cell? ⟨g, 4, none⟩ = some (.int .u64 a4) ∧
    w.frozen? ⟨g, 0, none⟩ = false ∧ w.frozen? ⟨g, 1, none⟩ = false ∧ w.frozen? ⟨g, 2, none⟩ = false ∧ w.frozen? ⟨g, 3, none⟩ = false ∧ w.frozen? ⟨g, 4, none⟩ = false :=
  ⟨h.cell 0 (by simp), h.cell 1 (by simp), h.cell 2 (by simp), h.cell 3 (by simp), h.cell 4 (by simp), h.frozen 0, h.frozen 1, h.frozen 2, h.frozen 3, h.frozen 4⟩

/-- five numbers in a new block, as an array's box lies -/
theorem kow5 (w : World) (a b c d e : Int) (t : TypeId) : KOw .u64 (w.alloc (.cells #[.int .u64 a, .int .u64 b, .int .u64 c, .int .u64 d, .int .u64 e] t)) w.heap.size [a, b, c, d, e] := (KB.new (t := t) w [a, b, c, d, e] _ rfl).kow

theorem idx5 (cs : Array Value) (t : Nat) (x : Int) (hc : cs[t]? = some (.int .u64 x)) (ht : t < 5) (w : World) :
    (Instr.index 83 (.agg cs) (.int .i64 (t : Int))).run Tryd.prog w = .ok (.int .u64 x) w := by
  obtain ⟨i, hi, hz0, hz1, hz2⟩ := info_parts info_u64
  simp [Instr.index, run_underlying Tryd.underlying83, asIntOf, isAgg, run_underlying Tryd.underlying81, Go.sizeOf, typeInfo, hi, hz1, hc, go_sem]
  intro h; omega
theorem idx5s (a b c d e : Int) (w : World) :
    (Instr.index 83 (.agg #[.int .u64 a, .int .u64 b, .int .u64 c, .int .u64 d, .int .u64 e]) (.int .i64 0)).run Tryd.prog w = .ok (.int .u64 a) w ∧
    (Instr.index 83 (.agg #[.int .u64 a, .int .u64 b, .int .u64 c, .int .u64 d, .int .u64 e]) (.int .i64 1)).run Tryd.prog w = .ok (.int .u64 b) w ∧
    (Instr.index 83 (.agg #[.int .u64 a, .int .u64 b, .int .u64 c, .int .u64 d, .int .u64 e]) (.int .i64 2)).run Tryd.prog w = .ok (.int .u64 c) w ∧
    (Instr.index 83 (.agg #[.int .u64 a, .int .u64 b, .int .u64 c, .int .u64 d, .int .u64 e]) (.int .i64 3)).run Tryd.prog w = .ok (.int .u64 d) w ∧
    (Instr.index 83 (.agg #[.int .u64 a, .int .u64 b, .int .u64 c, .int .u64 d, .int .u64 e]) (.int .i64 4)).run Tryd.prog w = .ok (.int .u64 e) w :=
  ⟨idx5 _ 0 a rfl (by omega) w, idx5 _ 1 b rfl (by omega) w, idx5 _ 2 c rfl (by omega) w, idx5 _ 3 d rfl (by omega) w, idx5 _ 4 e rfl (by omega) w⟩

def sumTo (a b c d e f g x y z : Int) : Nat → List Int
  | 0 => [a, b, c, d, e]
  | 1 => [a + f, b, c, d, e]
  | 2 => [a + f, b + g, c, d, e]
  | 3 => [a + f, b + g, c + x, d, e]
  | 4 => [a + f, b + g, c + x, d + y, e]
  | _ => [a + f, b + g, c + x, d + y, e + z]

set_option maxRecDepth 100000 in
set_option maxHeartbeats 4000000 in
theorem plus_any (a b c d e f g x y z : Int) (w : World) (h0 : 0 ≤ a + f ∧ a + f < 18446744073709551616) (h1 : 0 ≤ b + g ∧ b + g < 18446744073709551616) (h2 : 0 ≤ c + x ∧ c + x < 18446744073709551616) (h3 : 0 ≤ d + y ∧ d + y < 18446744073709551616) (h4 : 0 ≤ e + z ∧ e + z < 18446744073709551616) :
    Calls Tryd.prog 61 #[.agg #[.int .u64 a, .int .u64 b, .int .u64 c, .int .u64 d, .int .u64 e], .agg #[.int .u64 f, .int .u64 g, .int .u64 x, .int .u64 y, .int .u64 z]] w fun r w' =>
      r = .returned (.agg #[.int .u64 (a + f), .int .u64 (b + g), .int .u64 (c + x), .int .u64 (d + y), .int .u64 (e + z)]) ∧ Below w.heap.size w w' := by
  obtain ⟨h00, h01⟩ := h0
  obtain ⟨h10, h11⟩ := h1
  obtain ⟨h20, h21⟩ := h2
  obtain ⟨h30, h31⟩ := h3
  obtain ⟨h40, h41⟩ := h4
  have k0 := kow5 w a b c d e 83
  have k1 := (k0.below (ab (Below.refl _ _) (.cells #[.int .u64 f, .int .u64 g, .int .u64 x, .int .u64 y, .int .u64 z] 83)) (by simp)).below (ab (Below.refl _ _) (.cells #[.int .u64 0, .int .u64 0, .int .u64 0, .int .u64 0, .int .u64 0] 83)) (by simp; omega)
  have r1 := kow5 ((w.alloc (.cells #[.int .u64 a, .int .u64 b, .int .u64 c, .int .u64 d, .int .u64 e] 83)).alloc (.cells #[.int .u64 f, .int .u64 g, .int .u64 x, .int .u64 y, .int .u64 z] 83)) 0 0 0 0 0 83
  simp only [World.size_alloc] at r1
  have B1 := ab (ab (ab (Below.refl _ w) (.cells #[.int .u64 a, .int .u64 b, .int .u64 c, .int .u64 d, .int .u64 e] 83)) (.cells #[.int .u64 f, .int .u64 g, .int .u64 x, .int .u64 y, .int .u64 z] 83)) (.cells #[.int .u64 0, .int .u64 0, .int .u64 0, .int .u64 0, .int .u64 0] 83)
  go_enter Tryd.func61, Tryd.ntmps61
  go_wp2
  generalize ((w.alloc (.cells #[.int .u64 a, .int .u64 b, .int .u64 c, .int .u64 d, .int .u64 e] 83)).alloc (.cells #[.int .u64 f, .int .u64 g, .int .u64 x, .int .u64 y, .int .u64 z] 83)).alloc (.cells #[.int .u64 0, .int .u64 0, .int .u64 0, .int .u64 0, .int .u64 0] 83) = W1 at *
  clear k0
  have k2 : KOw .u64 W1 w.heap.size (sumTo a b c d e f g x y z 0) := k1
  clear k1
  go_loopw [8] (fun i wr => ∃ k : Nat, k ≤ 5 ∧ i = .int .i64 (k : Int) ∧ KOw .u64 wr w.heap.size (sumTo a b c d e f g x y z k) ∧ KOw .u64 wr (w.heap.size + 1 + 1) [0, 0, 0, 0, 0] ∧ Below w.heap.size w wr) (fun i _ => 5 - (intOf i).toNat)
  case atStart => exact ⟨0, by omega, rfl, k2, r1, B1⟩
  case round =>
    clear k2 r1 B1
    obtain ⟨k, hk, rfl, hv, hr, hB⟩ := hrel
    by_cases hlk : k < 5
    · have e5 : k = 0 ∨ k = 1 ∨ k = 2 ∨ k = 3 ∨ k = 4 := by omega
      rcases e5 with rfl | rfl | rfl | rfl | rfl
      · dsimp only [sumTo] at hv
        obtain ⟨i0, i1, i2, i3, i4⟩ := idx5s f g x y z wr
        have q0 := hv.cell 0 (by simp)
        have q1 := hv.cell 1 (by simp)
        have q2 := hv.cell 2 (by simp)
        have q3 := hv.cell 3 (by simp)
        have q4 := hv.cell 4 (by simp)
        have f0 := hv.frozen 0
        have f1 := hv.frozen 1
        have f2 := hv.frozen 2
        have f3 := hv.frozen 3
        have f4 := hv.frozen 4
        simp only [List.getD_cons_zero, List.getD_cons_succ] at q0 q1 q2 q3 q4
        go_wp2
        refine ⟨⟨1, by omega, ?_, hv.set_ 0 (by simp) _, hr.keep (Below.heap_setCell _ _ _ _ (by simp; omega)) (by simp), hB.setCell (Nat.le_refl _) _⟩, by simp [intOf]⟩
        rfl
      · dsimp only [sumTo] at hv
        obtain ⟨i0, i1, i2, i3, i4⟩ := idx5s f g x y z wr
        have q0 := hv.cell 0 (by simp)
        have q1 := hv.cell 1 (by simp)
        have q2 := hv.cell 2 (by simp)
        have q3 := hv.cell 3 (by simp)
        have q4 := hv.cell 4 (by simp)
        have f0 := hv.frozen 0
        have f1 := hv.frozen 1
        have f2 := hv.frozen 2
        have f3 := hv.frozen 3
        have f4 := hv.frozen 4
        simp only [List.getD_cons_zero, List.getD_cons_succ] at q0 q1 q2 q3 q4
        go_wp2
        refine ⟨⟨2, by omega, ?_, hv.set_ 1 (by simp) _, hr.keep (Below.heap_setCell _ _ _ _ (by simp; omega)) (by simp), hB.setCell (Nat.le_refl _) _⟩, by simp [intOf]⟩
        rfl
      · dsimp only [sumTo] at hv
        obtain ⟨i0, i1, i2, i3, i4⟩ := idx5s f g x y z wr
        have q0 := hv.cell 0 (by simp)
        have q1 := hv.cell 1 (by simp)
        have q2 := hv.cell 2 (by simp)
        have q3 := hv.cell 3 (by simp)
        have q4 := hv.cell 4 (by simp)
        have f0 := hv.frozen 0
        have f1 := hv.frozen 1
        have f2 := hv.frozen 2
        have f3 := hv.frozen 3
        have f4 := hv.frozen 4
        simp only [List.getD_cons_zero, List.getD_cons_succ] at q0 q1 q2 q3 q4
        go_wp2
        refine ⟨⟨3, by omega, ?_, hv.set_ 2 (by simp) _, hr.keep (Below.heap_setCell _ _ _ _ (by simp; omega)) (by simp), hB.setCell (Nat.le_refl _) _⟩, by simp [intOf]⟩
        rfl
      · dsimp only [sumTo] at hv
        obtain ⟨i0, i1, i2, i3, i4⟩ := idx5s f g x y z wr
        have q0 := hv.cell 0 (by simp)
        have q1 := hv.cell 1 (by simp)
        have q2 := hv.cell 2 (by simp)
        have q3 := hv.cell 3 (by simp)
        have q4 := hv.cell 4 (by simp)
        have f0 := hv.frozen 0
        have f1 := hv.frozen 1
        have f2 := hv.frozen 2
        have f3 := hv.frozen 3
        have f4 := hv.frozen 4
        simp only [List.getD_cons_zero, List.getD_cons_succ] at q0 q1 q2 q3 q4
        go_wp2
        refine ⟨⟨4, by omega, ?_, hv.set_ 3 (by simp) _, hr.keep (Below.heap_setCell _ _ _ _ (by simp; omega)) (by simp), hB.setCell (Nat.le_refl _) _⟩, by simp [intOf]⟩
        rfl
      · dsimp only [sumTo] at hv
        obtain ⟨i0, i1, i2, i3, i4⟩ := idx5s f g x y z wr
        have q0 := hv.cell 0 (by simp)
        have q1 := hv.cell 1 (by simp)
        have q2 := hv.cell 2 (by simp)
        have q3 := hv.cell 3 (by simp)
        have q4 := hv.cell 4 (by simp)
        have f0 := hv.frozen 0
        have f1 := hv.frozen 1
        have f2 := hv.frozen 2
        have f3 := hv.frozen 3
        have f4 := hv.frozen 4
        simp only [List.getD_cons_zero, List.getD_cons_succ] at q0 q1 q2 q3 q4
        go_wp2
        refine ⟨⟨5, by omega, ?_, hv.set_ 4 (by simp) _, hr.keep (Below.heap_setCell _ _ _ _ (by simp; omega)) (by simp), hB.setCell (Nat.le_refl _) _⟩, by simp [intOf]⟩
        rfl
    · obtain rfl : k = 5 := by omega
      dsimp only [sumTo] at hv
      obtain ⟨q0, q1, q2, q3, q4, f0, f1, f2, f3, f4⟩ := hv.full5
      obtain ⟨p0, p1, p2, p3, p4, g0, g1, g2, g3, g4⟩ := hr.full5
      go_wp2
      have s4 := set5 rfl hr (a + f) (b + g) (c + x) (d + y) (e + z)
      have b4 := below5 hB (show w.heap.size ≤ w.heap.size + 1 + 1 by omega) (.int .u64 (a + f)) (.int .u64 (b + g)) (.int .u64 (c + x)) (.int .u64 (d + y)) (.int .u64 (e + z))
      clear q0 q1 q2 q3 q4 f0 f1 f2 f3 f4 p0 p1 p2 p3 p4 g0 g1 g2 g3 g4
      generalize World.setCell _ ⟨w.heap.size + 1 + 1, 4, none⟩ _ = W9 at *
      obtain ⟨c0, c1, c2, c3, c4, _⟩ := s4.full5
      exact bodyPost_ret (v := .agg #[.int .u64 (a + f), .int .u64 (b + g), .int .u64 (c + x), .int .u64 (d + y), .int .u64 (e + z)]) (by simp [results, Tryd.results61, go_sem, c0, c1, c2, c3, c4]) rfl ⟨rfl, b4⟩
end Go.Proofs.YtpoiecdifhkegaaDoor
