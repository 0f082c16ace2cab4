import Derived.Test.YtabhcolfkkfonaaGreatDoorPolX
import Derived.Test.YtabhcolfkkfonaaGreatDoorBase
import Derived.Test.YtabhcolfkkfonaaGreatDoorWordP
import Derived.Deep.Cut
import Derived.Lib.SliceRun

/-! FiveP -/
/- Five limbs as the program holds them: an array of five; sums, carries. -/
namespace Go.Proofs.YtabhcolfkkfonaaGreatDoor
open Go.RowKit

theorem set5 {w : World} {g : Nat} {l : List Int} (hl : l.length = 5) (h : KOw .u64 w g l) (a0 a1 a2 a3 a4 : Int) :
    KOw .u64 (((((w.setCell ⟨g, 0, none⟩ (.int .u64 a0)).setCell ⟨g, 1, none⟩ (.int .u64 a1)).setCell ⟨g, 2, none⟩ (.int .u64 a2)).setCell ⟨g, 3, none⟩ (.int .u64 a3)).setCell ⟨g, 4, none⟩ (.int .u64 a4)) g [a0, a1, a2, a3, a4] := by
  match l, hl with
  | [x0, x1, x2, x3, x4], _ =>
    have h0 := h.set_ 0 (by simp) a0
    have h1 := h0.set_ 1 (by simp) a1
    have h2 := h1.set_ 2 (by simp) a2
    have h3 := h2.set_ 3 (by simp) a3
    have h4 := h3.set_ 4 (by simp) a4
    simp only [List.set_cons_succ, List.set_cons_zero] at h4
    exact h4
theorem below5 {w : World} {B g : Nat} {W : World} (h : Below B W w) (hB : B ≤ g) (v0 v1 v2 v3 v4 : Value) :
    Below B W (((((w.setCell ⟨g, 0, none⟩ v0).setCell ⟨g, 1, none⟩ v1).setCell ⟨g, 2, none⟩ v2).setCell ⟨g, 3, none⟩ v3).setCell ⟨g, 4, none⟩ v4) := by
  have h0 := h.setCell (p := ⟨g, 0, none⟩) hB v0
  have h1 := h0.setCell (p := ⟨g, 1, none⟩) hB v1
  have h2 := h1.setCell (p := ⟨g, 2, none⟩) hB v2
  have h3 := h2.setCell (p := ⟨g, 3, none⟩) hB v3
  exact h3.setCell (p := ⟨g, 4, none⟩) hB v4
theorem KOw.full5 {w : World} {g : Nat} {a0 a1 a2 a3 a4 : Int} (h : KOw .u64 w g [a0, a1, a2, a3, a4]) :
    w.cell? ⟨g, 0, none⟩ = some (.int .u64 a0) ∧ w.cell? ⟨g, 1, none⟩ = some (.int .u64 a1) ∧ w.cell? ⟨g, 2, none⟩ = some (.int .u64 a2) ∧ w.cell? ⟨g, 3, none⟩ = some (.int .u64 a3) ∧ w.cell? ⟨g, 4, none⟩ = some (.int .u64 a4) ∧
    w.frozen? ⟨g, 0, none⟩ = false ∧ w.frozen? ⟨g, 1, none⟩ = false ∧ w.frozen? ⟨g, 2, none⟩ = false ∧ w.frozen? ⟨g, 3, none⟩ = false ∧ w.frozen? ⟨g, 4, none⟩ = false :=
  ⟨h.cell 0 (by simp), h.cell 1 (by simp), h.cell 2 (by simp), h.cell 3 (by simp), h.cell 4 (by simp), h.frozen 0, h.frozen 1, h.frozen 2, h.frozen 3, h.frozen 4⟩

/-- five numbers in a new block, as an array's box lies -/
theorem kow5 (w : World) (a b c d e : Int) (t : TypeId) : KOw .u64 (w.alloc (.cells #[.int .u64 a, .int .u64 b, .int .u64 c, .int .u64 d, .int .u64 e] t)) w.heap.size [a, b, c, d, e] := (KB.new (t := t) w [a, b, c, d, e] _ rfl).kow

theorem idx5 (cs : Array Value) (t : Nat) (x : Int) (hc : cs[t]? = some (.int .u64 x)) (ht : t < 5) (w : World) :
    (Instr.index 212 (.agg cs) (.int .i64 (t : Int))).run Tryz.prog w = .ok (.int .u64 x) w := by
  obtain ⟨i, hi, hz0, hz1, hz2⟩ := info_parts info_u64
  simp [Instr.index, run_underlying Tryz.underlying212, asIntOf, isAgg, run_underlying Tryz.underlying118, Go.sizeOf, typeInfo, hi, hz1, hc, go_sem]
  intro h; omega
theorem idx5s (a b c d e : Int) (w : World) :
    (Instr.index 212 (.agg #[.int .u64 a, .int .u64 b, .int .u64 c, .int .u64 d, .int .u64 e]) (.int .i64 0)).run Tryz.prog w = .ok (.int .u64 a) w ∧
    (Instr.index 212 (.agg #[.int .u64 a, .int .u64 b, .int .u64 c, .int .u64 d, .int .u64 e]) (.int .i64 1)).run Tryz.prog w = .ok (.int .u64 b) w ∧
    (Instr.index 212 (.agg #[.int .u64 a, .int .u64 b, .int .u64 c, .int .u64 d, .int .u64 e]) (.int .i64 2)).run Tryz.prog w = .ok (.int .u64 c) w ∧
    (Instr.index 212 (.agg #[.int .u64 a, .int .u64 b, .int .u64 c, .int .u64 d, .int .u64 e]) (.int .i64 3)).run Tryz.prog w = .ok (.int .u64 d) w ∧
    (Instr.index 212 (.agg #[.int .u64 a, .int .u64 b, .int .u64 c, .int .u64 d, .int .u64 e]) (.int .i64 4)).run Tryz.prog w = .ok (.int .u64 e) w :=
  ⟨idx5 _ 0 a rfl (by omega) w, idx5 _ 1 b rfl (by omega) w, idx5 _ 2 c rfl (by omega) w, idx5 _ 3 d rfl (by omega) w, idx5 _ 4 e rfl (by omega) w⟩

def sumTo (a b c d e f g x y z : Int) : Nat → List Int
  | 0 => [a, b, c, d, e]
  | 1 => [a + f, b, c, d, e]
  | 2 => [a + f, b + g, c, d, e]
  | 3 => [a + f, b + g, c + x, d, e]
  | 4 => [a + f, b + g, c + x, d + y, e]
  | _ => [a + f, b + g, c + x, d + y, e + z]

set_option maxRecDepth 100000 in
set_option maxHeartbeats 4000000 in
theorem plus_any (a b c d e f g x y z : Int) (w : World) (h0 : 0 ≤ a + f ∧ a + f < 18446744073709551616) (h1 : 0 ≤ b + g ∧ b + g < 18446744073709551616) (h2 : 0 ≤ c + x ∧ c + x < 18446744073709551616) (h3 : 0 ≤ d + y ∧ d + y < 18446744073709551616) (h4 : 0 ≤ e + z ∧ e + z < 18446744073709551616) :
    Calls Tryz.prog 221 #[.agg #[.int .u64 a, .int .u64 b, .int .u64 c, .int .u64 d, .int .u64 e], .agg #[.int .u64 f, .int .u64 g, .int .u64 x, .int .u64 y, .int .u64 z]] w fun r w' =>
      r = .returned (.agg #[.int .u64 (a + f), .int .u64 (b + g), .int .u64 (c + x), .int .u64 (d + y), .int .u64 (e + z)]) ∧ Below w.heap.size w w' := by
  obtain ⟨h00, h01⟩ := h0
  obtain ⟨h10, h11⟩ := h1
  obtain ⟨h20, h21⟩ := h2
  obtain ⟨h30, h31⟩ := h3
  obtain ⟨h40, h41⟩ := h4
  have k0 := kow5 w a b c d e 212
  have k1 := (k0.below (ab (Below.refl _ _) (.cells #[.int .u64 f, .int .u64 g, .int .u64 x, .int .u64 y, .int .u64 z] 212)) (by simp)).below (ab (Below.refl _ _) (.cells #[.int .u64 0, .int .u64 0, .int .u64 0, .int .u64 0, .int .u64 0] 212)) (by simp; omega)
  have r1 := kow5 ((w.alloc (.cells #[.int .u64 a, .int .u64 b, .int .u64 c, .int .u64 d, .int .u64 e] 212)).alloc (.cells #[.int .u64 f, .int .u64 g, .int .u64 x, .int .u64 y, .int .u64 z] 212)) 0 0 0 0 0 212
  simp only [World.size_alloc] at r1
  have B1 := ab (ab (ab (Below.refl _ w) (.cells #[.int .u64 a, .int .u64 b, .int .u64 c, .int .u64 d, .int .u64 e] 212)) (.cells #[.int .u64 f, .int .u64 g, .int .u64 x, .int .u64 y, .int .u64 z] 212)) (.cells #[.int .u64 0, .int .u64 0, .int .u64 0, .int .u64 0, .int .u64 0] 212)
  go_enter Tryz.func221, Tryz.ntmps221
  go_wp2
  generalize ((w.alloc (.cells #[.int .u64 a, .int .u64 b, .int .u64 c, .int .u64 d, .int .u64 e] 212)).alloc (.cells #[.int .u64 f, .int .u64 g, .int .u64 x, .int .u64 y, .int .u64 z] 212)).alloc (.cells #[.int .u64 0, .int .u64 0, .int .u64 0, .int .u64 0, .int .u64 0] 212) = W1 at *
  clear k0
  have k2 : KOw .u64 W1 w.heap.size (sumTo a b c d e f g x y z 0) := k1
  clear k1
  go_loopw [8] (fun i wr => ∃ k : Nat, k ≤ 5 ∧ i = .int .i64 (k : Int) ∧ KOw .u64 wr w.heap.size (sumTo a b c d e f g x y z k) ∧ KOw .u64 wr (w.heap.size + 1 + 1) [0, 0, 0, 0, 0] ∧ Below w.heap.size w wr) (fun i _ => 5 - (intOf i).toNat)
  case atStart => exact ⟨0, by omega, rfl, k2, r1, B1⟩
  case round =>
    clear k2 r1 B1
    obtain ⟨k, hk, rfl, hv, hr, hB⟩ := hrel
    by_cases hlk : k < 5
    · have e5 : k = 0 ∨ k = 1 ∨ k = 2 ∨ k = 3 ∨ k = 4 := by omega
      rcases e5 with rfl | rfl | rfl | rfl | rfl
      · dsimp only [sumTo] at hv
        obtain ⟨i0, i1, i2, i3, i4⟩ := idx5s f g x y z wr
        have q0 := hv.cell 0 (by simp)
        have q1 := hv.cell 1 (by simp)
        have q2 := hv.cell 2 (by simp)
        have q3 := hv.cell 3 (by simp)
        have q4 := hv.cell 4 (by simp)
        have f0 := hv.frozen 0
        have f1 := hv.frozen 1
        have f2 := hv.frozen 2
        have f3 := hv.frozen 3
        have f4 := hv.frozen 4
        simp only [List.getD_cons_zero, List.getD_cons_succ] at q0 q1 q2 q3 q4
        go_wp2
        refine ⟨⟨1, by omega, ?_, hv.set_ 0 (by simp) _, hr.keep (Below.heap_setCell _ _ _ _ (by simp; omega)) (by simp), hB.setCell (Nat.le_refl _) _⟩, by simp [intOf]⟩
        rfl
      · dsimp only [sumTo] at hv
        obtain ⟨i0, i1, i2, i3, i4⟩ := idx5s f g x y z wr
        have q0 := hv.cell 0 (by simp)
        have q1 := hv.cell 1 (by simp)
        have q2 := hv.cell 2 (by simp)
        have q3 := hv.cell 3 (by simp)
        have q4 := hv.cell 4 (by simp)
        have f0 := hv.frozen 0
        have f1 := hv.frozen 1
        have f2 := hv.frozen 2
        have f3 := hv.frozen 3
        have f4 := hv.frozen 4
        simp only [List.getD_cons_zero, List.getD_cons_succ] at q0 q1 q2 q3 q4
        go_wp2
        refine ⟨⟨2, by omega, ?_, hv.set_ 1 (by simp) _, hr.keep (Below.heap_setCell _ _ _ _ (by simp; omega)) (by simp), hB.setCell (Nat.le_refl _) _⟩, by simp [intOf]⟩
        rfl
      · dsimp only [sumTo] at hv
        obtain ⟨i0, i1, i2, i3, i4⟩ := idx5s f g x y z wr
        have q0 := hv.cell 0 (by simp)
        have q1 := hv.cell 1 (by simp)
        have q2 := hv.cell 2 (by simp)
        have q3 := hv.cell 3 (by simp)
        have q4 := hv.cell 4 (by simp)
        have f0 := hv.frozen 0
        have f1 := hv.frozen 1
        have f2 := hv.frozen 2
        have f3 := hv.frozen 3
        have f4 := hv.frozen 4
        simp only [List.getD_cons_zero, List.getD_cons_succ] at q0 q1 q2 q3 q4
        go_wp2
        refine ⟨⟨3, by omega, ?_, hv.set_ 2 (by simp) _, hr.keep (Below.heap_setCell _ _ _ _ (by simp; omega)) (by simp), hB.setCell (Nat.le_refl _) _⟩, by simp [intOf]⟩
        rfl
      · dsimp only [sumTo] at hv
        obtain ⟨i0, i1, i2, i3, i4⟩ := idx5s f g x y z wr
        have q0 := hv.cell 0 (by simp)
        have q1 := hv.cell 1 (by simp)
        have q2 := hv.cell 2 (by simp)
        have q3 := hv.cell 3 (by simp)
        have q4 := hv.cell 4 (by simp)
        have f0 := hv.frozen 0
        have f1 := hv.frozen 1
        have f2 := hv.frozen 2
        have f3 := hv.frozen 3
        have f4 := hv.frozen 4
        simp only [List.getD_cons_zero, List.getD_cons_succ] at q0 q1 q2 q3 q4
        go_wp2
        refine ⟨⟨4, by omega, ?_, hv.set_ 3 (by simp) _, hr.keep (Below.heap_setCell _ _ _ _ (by simp; omega)) (by simp), hB.setCell (Nat.le_refl _) _⟩, by simp [intOf]⟩
        rfl
      · dsimp only [sumTo] at hv
        obtain ⟨i0, i1, i2, i3, i4⟩ := idx5s f g x y z wr
        have q0 := hv.cell 0 (by simp)
        have q1 := hv.cell 1 (by simp)
        have q2 := hv.cell 2 (by simp)
        have q3 := hv.cell 3 (by simp)
        have q4 := hv.cell 4 (by simp)
        have f0 := hv.frozen 0
        have f1 := hv.frozen 1
        have f2 := hv.frozen 2
        have f3 := hv.frozen 3
        have f4 := hv.frozen 4
        simp only [List.getD_cons_zero, List.getD_cons_succ] at q0 q1 q2 q3 q4
        go_wp2
        refine ⟨⟨5, by omega, ?_, hv.set_ 4 (by simp) _, hr.keep (Below.heap_setCell _ _ _ _ (by simp; omega)) (by simp), hB.setCell (Nat.le_refl _) _⟩, by simp [intOf]⟩
        rfl
    · obtain rfl : k = 5 := by omega
      dsimp only [sumTo] at hv
      obtain ⟨q0, q1, q2, q3, q4, f0, f1, f2, f3, f4⟩ := hv.full5
      obtain ⟨p0, p1, p2, p3, p4, g0, g1, g2, g3, g4⟩ := hr.full5
      go_wp2
      have s4 := set5 rfl hr (a + f) (b + g) (c + x) (d + y) (e + z)
      have b4 := below5 hB (show w.heap.size ≤ w.heap.size + 1 + 1 by omega) (.int .u64 (a + f)) (.int .u64 (b + g)) (.int .u64 (c + x)) (.int .u64 (d + y)) (.int .u64 (e + z))
      clear q0 q1 q2 q3 q4 f0 f1 f2 f3 f4 p0 p1 p2 p3 p4 g0 g1 g2 g3 g4
      generalize World.setCell _ ⟨w.heap.size + 1 + 1, 4, none⟩ _ = W9 at *
      obtain ⟨c0, c1, c2, c3, c4, _⟩ := s4.full5
      exact bodyPost_ret (v := .agg #[.int .u64 (a + f), .int .u64 (b + g), .int .u64 (c + x), .int .u64 (d + y), .int .u64 (e + z)]) (by simp [results, Tryz.results221, go_sem, c0, c1, c2, c3, c4]) rfl ⟨rfl, b4⟩
end Go.Proofs.YtabhcolfkkfonaaGreatDoor

/-! CopyP -/
/- The builtin copy, of bytes and of words, into an array's box. -/
namespace Go.Proofs.YtabhcolfkkfonaaGreatDoor
open Go.RowKit

theorem splice_overk (k : IntKind) (L r : List Int) (off : Nat) : splice (L.map (Value.int k)) off (r.map (Value.int k)) = (laidOver L off r).map (Value.int k) := by
  simp [splice, laidOver, List.map_take, List.map_drop]

theorem wpList_copyt {ops : Array Oper} {rest : List Oper} {o : Oper} {a : Act} {Q : Exit → Act → World → Prop} (hgd : o.guard = none) (d s : Operand)
    (ho : o.op = .call { callee := .builtin .copy, args := #[d, s], argTypes := #[22, 22] })
    (w : World) (t : TypeId) (g off dLen dCap : Nat) (A : Option Addr) (n c : Nat) (L r : List Int) (hd : a.eval d = .slice (some ⟨g, off, none⟩) dLen dCap) (hs : a.eval s = .slice A n c)
    (hL : KB .u8 t w g L) (hr : Bs w A n r) (hnd : n ≤ dLen) (hfit : off + n ≤ L.length) (B : Nat) (w0 : World) (hb : Below B w0 w) (hBg : B ≤ g)
    (h : ∀ w', KB .u8 t w' g (laidOver L off r) → Below B w0 w' → wpList Tryz.prog ops Q rest (a.put o.dst (goInt n)) w') : wpList Tryz.prog ops Q (o :: rest) a w := by
  have hl := hr.len
  refine wpList_copy_splice hgd d s _ _ ho 5 Tryz.underlying22 size_u8 _ A dLen dCap n c hd hs g off (L.map (Value.int .u8)) t hL (r.map (Value.int .u8))
    (by rw [List.length_map, hl]; exact (Nat.min_eq_left hnd).symm) (fun hp => ⟨rfl, ?_⟩) (by simpa [hl] using hfit) (fun u hu => by obtain ⟨y, _, rfl⟩ := List.mem_map.1 hu; rfl) B w0 hb hBg ?_
  · obtain ⟨b, of, e, _⟩ := hr.at_ (by simpa [hl] using hp)
    exact ⟨_, e, bs_src hr _ e⟩
  · intro w' hh hb'
    rw [List.length_map, hl]
    exact h w' (by have := hh.out; rw [splice_overk] at this; exact this) hb'

theorem size_u32 : (Tryz.prog.info? 158).map (·.size) = some 1 := by kernel_rfl

theorem step_copyw {ops : Array Oper} {o : Oper} {a : Act} {K : Act → World → Prop} {Q : Exit → Act → World → Prop} {E : Prop} (hgd : o.guard = none) (d s : Operand)
    (ho : o.op = .call { callee := .builtin .copy, args := #[d, s], argTypes := #[180, 180] })
    (w : World) (t : TypeId) (g off dLen dCap b n c : Nat) (L r : List Int) (hd : a.eval d = .slice (some ⟨g, off, none⟩) dLen dCap) (hs : a.eval s = .slice (some ⟨b, 0, none⟩) n c)
    (hL : KB .u32 t w g L) (hr : KOw .u32 w b r) (hl : r.length = n) (hnd : n ≤ dLen) (hfit : off + n ≤ L.length) (B : Nat) (w0 : World) (hb : Below B w0 w) (hBg : B ≤ g)
    (h : ∀ w', KB .u32 t w' g (laidOver L off r) → Below B w0 w' → K (a.put o.dst (goInt n)) w') : if Region.wanted o (yielded ops a.tmps) = true then Oper.wp Tryz.prog o a w K Q else E := by
  have hadd : ∀ (b j : Nat), (⟨b, 0, none⟩ : Addr).add j = ⟨b, j, none⟩ := fun b j => by unfold Addr.add; split <;> simp_all
  refine step_copy_splice hgd d s _ _ ho 158 Tryz.underlying180 size_u32 _ _ dLen dCap n c hd hs g off (L.map (Value.int .u32)) t hL (r.map (Value.int .u32))
    (by rw [List.length_map, hl]; exact (Nat.min_eq_left hnd).symm) (fun hp => ⟨rfl, ⟨b, 0, none⟩, rfl, fun j u hu => ?_⟩) (by simpa [hl] using hfit) (fun u hu => by obtain ⟨y, _, rfl⟩ := List.mem_map.1 hu; rfl) B w0 hb hBg ?_
  · have hj : j < r.length := by
      rcases Nat.lt_or_ge j r.length with h1 | h1
      · exact h1
      · rw [List.getElem?_eq_none (by simpa using h1)] at hu; cases hu
    rw [hadd, hr.cell j hj]
    rw [List.getElem?_map, List.getElem?_eq_getElem hj] at hu
    simpa [List.getD, List.getElem?_eq_getElem hj] using hu
  · intro w' hh hb'
    rw [List.length_map, hl]
    exact h w' (by have := hh.out; rw [splice_overk] at this; exact this) hb'
end Go.Proofs.YtabhcolfkkfonaaGreatDoor

/-! NumP -/
/- The number of up to sixteen bytes, in limbs, of the program. -/
namespace Go.Proofs.YtabhcolfkkfonaaGreatDoor
open Go.RowKit Go.Shelf

theorem lo_drop (l : List Int) (h : By l) (k : Nat) : lo (l.drop k) = lo l / 256 ^ k := by
  induction k generalizing l with
  | zero => simp
  | succ k ih =>
    cases l with
    | nil => simp [lo, hi]
    | cons a l =>
      have ha := h a (by simp)
      have hl : By l := fun x hx => h x (by simp [hx])
      rw [List.drop_succ_cons, ih l hl, lo_cons, Int.pow_succ, Int.mul_comm ((256 : Int) ^ k), ← Int.ediv_ediv_of_nonneg (by omega)]
      congr 1
      omega
theorem lo_take4 (l : List Int) (h : By l) : lo (l.take 4) = lo l % 4294967296 := by
  have hx : ∀ x ∈ l, 0 ≤ x ∧ x < 256 := h
  rcases l with _ | ⟨a, _ | ⟨b, _ | ⟨c, _ | ⟨d, l⟩⟩⟩⟩
  · simp [lo, hi]
  · have := hx a (by simp)
    simp only [List.take, lo_cons]
    rw [show lo ([] : List Int) = 0 from rfl]; omega
  · have := hx a (by simp); have := hx b (by simp)
    simp only [List.take, lo_cons]
    rw [show lo ([] : List Int) = 0 from rfl]; omega
  · have := hx a (by simp); have := hx b (by simp); have := hx c (by simp)
    simp only [List.take, lo_cons]
    rw [show lo ([] : List Int) = 0 from rfl]; omega
  · have := hx a (by simp); have := hx b (by simp); have := hx c (by simp); have := hx d (by simp)
    simp only [List.take, lo_cons]
    rw [show lo ([] : List Int) = 0 from rfl]
    generalize lo l = x
    omega
/-- the word at a place -/
theorem lo_word (l : List Int) (h : By l) (k : Nat) : lo ((l.drop k).take 4) = lo l / 256 ^ k % 4294967296 := by
  rw [lo_take4 _ (fun x hx => h x (List.mem_of_mem_drop hx)), lo_drop l h]
theorem lo_zeros (l : List Int) (k : Nat) : lo (l ++ List.replicate k 0) = lo l := by
  induction k with
  | zero => simp
  | succ k ih => rw [List.replicate_succ', ← List.append_assoc, lo_snoc, ih]; omega

/-- the five words, cut -/
theorem five_words (N : Int) (h0 : 0 ≤ N) (h1 : N < 1361129467683753853853498429727072845824) :
    [N / 256 ^ 0 % 4294967296 % 67108864, N / 256 ^ 3 % 4294967296 / 4 % 67108864, N / 256 ^ 6 % 4294967296 / 16 % 67108864, N / 256 ^ 9 % 4294967296 / 64 % 67108864, N / 256 ^ 13 % 4294967296 % 67108864] = limbs N := by
  simp only [limbs, List.cons.injEq, and_true]
  omega

def limbsTo (N : Int) : Nat → List Int
  | 0 => [0, 0, 0, 0, 0]
  | 1 => [N / 256 ^ 0 % 4294967296 % 67108864, 0, 0, 0, 0]
  | 2 => [N / 256 ^ 0 % 4294967296 % 67108864, N / 256 ^ 3 % 4294967296 / 4 % 67108864, 0, 0, 0]
  | 3 => [N / 256 ^ 0 % 4294967296 % 67108864, N / 256 ^ 3 % 4294967296 / 4 % 67108864, N / 256 ^ 6 % 4294967296 / 16 % 67108864, 0, 0]
  | 4 => [N / 256 ^ 0 % 4294967296 % 67108864, N / 256 ^ 3 % 4294967296 / 4 % 67108864, N / 256 ^ 6 % 4294967296 / 16 % 67108864, N / 256 ^ 9 % 4294967296 / 64 % 67108864, 0]
  | _ => [N / 256 ^ 0 % 4294967296 % 67108864, N / 256 ^ 3 % 4294967296 / 4 % 67108864, N / 256 ^ 6 % 4294967296 / 16 % 67108864, N / 256 ^ 9 % 4294967296 / 64 % 67108864, N / 256 ^ 13 % 4294967296 % 67108864]

theorem KB.bs {t : TypeId} {w : World} {g : Nat} {l : List Int} (h : KB .u8 t w g l) (hb : By l) {n : Nat} (hn : l.length = n) : Bs w (some ⟨g, 0, none⟩) n l :=
  ⟨hn, hb, fun hp => ⟨g, 0, rfl, h.lt, fun i hi => by rw [Nat.zero_add]; exact h.cell (by omega)⟩⟩

set_option maxRecDepth 100000 in
set_option maxHeartbeats 4000000 in
theorem numberOf_any (A : Option Addr) (n c : Nat) (l : List Int) (m : Int) (w : World) (h : Bs w A n l) (hn : n ≤ 16) (hm : 0 ≤ m ∧ m ≤ 1) :
    Calls Tryz.prog 219 #[.slice A n c, .int .u8 m] w fun r w' =>
      (∃ D0 D1 D2 D3 D4, r = .returned (.agg #[.int .u64 D0, .int .u64 D1, .int .u64 D2, .int .u64 D3, .int .u64 D4]) ∧ [D0, D1, D2, D3, D4] = limbs (lo (l ++ [m]))) ∧ Below w.heap.size w w' := by
  have hl := h.len
  have hN0 := lo_bd (l ++ [m]) (h.byte.append (fun y hy => by simp at hy; omega))
  have hN1 : lo (l ++ [m]) < 1361129467683753853853498429727072845824 := by
    have h1 := lo_bd l h.byte
    have hp : ∀ k : Nat, k ≤ 16 → (256 : Int) ^ k ≤ 340282366920938463463374607431768211456 := by decide
    have h2 := hp l.length (by omega)
    rw [lo_snoc]
    have h3 : m * 256 ^ l.length ≤ 256 ^ l.length := by
      have : 0 ≤ (256 : Int) ^ l.length := Int.pow_nonneg (by omega)
      have e : m = 0 ∨ m = 1 := by omega
      rcases e with rfl | rfl <;> omega
    omega
  have hW : ((laidOver (List.replicate 17 0) 0 l).set n m) = (l ++ [m]) ++ List.replicate (16 - n) 0 := by
    unfold laidOver
    rw [List.take_zero, List.nil_append, Nat.zero_add, List.drop_replicate, hl, List.set_append, if_neg (by omega), hl, Nat.sub_self, show 17 - n = (16 - n) + 1 by omega, List.replicate_succ, List.set_cons_zero, List.append_assoc]
    rfl
  obtain ⟨N, hN⟩ : ∃ N, lo (l ++ [m]) = N := ⟨_, rfl⟩
  have hwl : lo ((l ++ [m]) ++ List.replicate (16 - n) 0) = N := by rw [lo_zeros, hN]
  have hwb : By ((l ++ [m]) ++ List.replicate (16 - n) 0) := (h.byte.append (fun y hy => by simp at hy; omega)).append (fun y hy => by obtain ⟨_, rfl⟩ := List.mem_replicate.1 hy; omega)
  have hwn : ((l ++ [m]) ++ List.replicate (16 - n) 0).length = 17 := by simp [hl]; omega
  rw [hN] at hN0 hN1 ⊢
  have HF := Shut.mk (five_words N hN0.1 hN1)
  have Hl := Shut.mk hl
  generalize (l ++ [m]) ++ List.replicate (16 - n) 0 = WL at *
  have HW := Shut.mk hW
  have Hwb := Shut.mk hwb
  have Hwn := Shut.mk hwn
  have Hwd : Shut (∀ k, lo ((WL.drop k).take 4) = N / 256 ^ k % 4294967296) := ⟨fun k => by rw [lo_word _ hwb, hwl]⟩
  clear hW hwl hwb hwn hN0 hN1 hN hl
  have r0 := kow5 w 0 0 0 0 0 212
  have k1 : KB .u8 240 ((w.alloc (.cells #[.int .u64 0, .int .u64 0, .int .u64 0, .int .u64 0, .int .u64 0] 212)).alloc (.cells #[.int .u8 0, .int .u8 0, .int .u8 0, .int .u8 0, .int .u8 0, .int .u8 0, .int .u8 0, .int .u8 0, .int .u8 0, .int .u8 0, .int .u8 0, .int .u8 0, .int .u8 0, .int .u8 0, .int .u8 0, .int .u8 0, .int .u8 0] 240)) (w.heap.size + 1) (List.replicate 17 0) := by
    have := KB.new (k := .u8) (t := 240) (w.alloc (.cells #[.int .u64 0, .int .u64 0, .int .u64 0, .int .u64 0, .int .u64 0] 212)) (List.replicate 17 0) #[.int .u8 0, .int .u8 0, .int .u8 0, .int .u8 0, .int .u8 0, .int .u8 0, .int .u8 0, .int .u8 0, .int .u8 0, .int .u8 0, .int .u8 0, .int .u8 0, .int .u8 0, .int .u8 0, .int .u8 0, .int .u8 0, .int .u8 0] rfl
    rwa [World.size_alloc] at this
  have B0 := ab (Below.refl w.heap.size w) (.cells #[.int .u64 0, .int .u64 0, .int .u64 0, .int .u64 0, .int .u64 0] 212)
  have B1 : Below (w.heap.size + 1) (w.alloc (.cells #[.int .u64 0, .int .u64 0, .int .u64 0, .int .u64 0, .int .u64 0] 212)) ((w.alloc (.cells #[.int .u64 0, .int .u64 0, .int .u64 0, .int .u64 0, .int .u64 0] 212)).alloc (.cells #[.int .u8 0, .int .u8 0, .int .u8 0, .int .u8 0, .int .u8 0, .int .u8 0, .int .u8 0, .int .u8 0, .int .u8 0, .int .u8 0, .int .u8 0, .int .u8 0, .int .u8 0, .int .u8 0, .int .u8 0, .int .u8 0, .int .u8 0] 240)) := by
    have := ab (Below.refl (w.alloc (.cells #[.int .u64 0, .int .u64 0, .int .u64 0, .int .u64 0, .int .u64 0] 212)).heap.size (w.alloc (.cells #[.int .u64 0, .int .u64 0, .int .u64 0, .int .u64 0, .int .u64 0] 212))) (.cells #[.int .u8 0, .int .u8 0, .int .u8 0, .int .u8 0, .int .u8 0, .int .u8 0, .int .u8 0, .int .u8 0, .int .u8 0, .int .u8 0, .int .u8 0, .int .u8 0, .int .u8 0, .int .u8 0, .int .u8 0, .int .u8 0, .int .u8 0] 240)
    rwa [World.size_alloc] at this
  have h1 := (h.alloc (.cells #[.int .u64 0, .int .u64 0, .int .u64 0, .int .u64 0, .int .u64 0] 212)).alloc (.cells #[.int .u8 0, .int .u8 0, .int .u8 0, .int .u8 0, .int .u8 0, .int .u8 0, .int .u8 0, .int .u8 0, .int .u8 0, .int .u8 0, .int .u8 0, .int .u8 0, .int .u8 0, .int .u8 0, .int .u8 0, .int .u8 0, .int .u8 0] 240)
  have Hlo : Shut (n ≤ 17 ∧ 0 + n ≤ (List.replicate 17 (0 : Int)).length ∧ w.heap.size + 1 ≤ w.heap.size + 1) := ⟨by simp; omega⟩
  have hlen := laidOver_len (List.replicate 17 0) l 0 (by simp [Hl.out]; omega)
  rw [List.length_replicate] at hlen
  have Hlen := Shut.mk hlen
  have Hn17 : (n : Int) < 17 := by omega
  clear hlen
  go_enter Tryz.func219, Tryz.ntmps219
  go_wp2_with (refine wpList_copyt rfl _ _ rfl _ 240 (w.heap.size + 1) 0 17 17 A n c (List.replicate 17 0) l rfl rfl k1 h1 Hlo.out.1 Hlo.out.2.1 (w.heap.size + 1) _ B1 Hlo.out.2.2 ?_; intro w1 k2 b2; have c1 := k2.cell (i := n) (by rw [Hlen.out]; omega); have f1 := k2.frozen n)
  have k3 := k2.set_ n m
  rw [HW.out] at k3
  have r2 := (r0.below b2 (by omega)).far (p := ⟨w.heap.size + 1, n, none⟩) (by simp) (.int .u8 m)
  have b3 := (B0.trans (b2.mono (Nat.le_succ _))).setCell (p := ⟨w.heap.size + 1, n, none⟩) (by simp) (.int .u8 m)
  have z3 := k3.lt
  simp only [World.size_setCell] at z3
  clear c1 f1 k2 b2 r0 k1 B0 B1 h1
  have q3 := kow5 (w1.setCell ⟨w.heap.size + 1, n, none⟩ (.int .u8 m)) 0 0 0 0 0 212
  rw [World.size_setCell] at q3
  have B4 := ab b3 (.cells #[.int .u64 0, .int .u64 0, .int .u64 0, .int .u64 0, .int .u64 0] 212)
  have k4 := k3.alloc (.cells #[.int .u64 0, .int .u64 0, .int .u64 0, .int .u64 0, .int .u64 0] 212)
  have r4 := r2.below (ab (Below.refl _ _) (.cells #[.int .u64 0, .int .u64 0, .int .u64 0, .int .u64 0, .int .u64 0] 212)) r2.lt
  have z4 : w1.heap.size < ((w1.setCell ⟨w.heap.size + 1, n, none⟩ (.int .u8 m)).alloc (.cells #[.int .u64 0, .int .u64 0, .int .u64 0, .int .u64 0, .int .u64 0] 212)).heap.size := by simp
  generalize (w1.setCell ⟨w.heap.size + 1, n, none⟩ (.int .u8 m)).alloc (.cells #[.int .u64 0, .int .u64 0, .int .u64 0, .int .u64 0, .int .u64 0] 212) = W4 at *
  obtain ⟨m3, hm3⟩ : ∃ m, m = w1.heap.size := ⟨_, rfl⟩
  rw [← hm3] at q3 z3 z4 ⊢
  clear hm3 b3 k3 r2
  have q4 : KOw .u64 W4 m3 (limbsTo N 0) := q3
  go_loopw [17] (fun i wr => ∃ k : Nat, k ≤ 5 ∧ i = .int .i64 (k : Int) ∧ KOw .u64 wr m3 (limbsTo N k) ∧ KB .u8 240 wr (w.heap.size + 1) WL ∧ KOw .u64 wr w.heap.size [0, 0, 0, 0, 0] ∧ Below w.heap.size w wr) (fun i _ => 5 - (intOf i).toNat)
  case atStart => exact ⟨0, by omega, rfl, q4, k4, r4, B4⟩
  case round =>
    clear q3 q4 k4 r4 B4
    obtain ⟨k, hk, rfl, hq, hw, hr, hB⟩ := hrel
    by_cases hlk : k < 5
    · have e5 : k = 0 ∨ k = 1 ∨ k = 2 ∨ k = 3 ∨ k = 4 := by omega
      have hbs := hw.bs Hwb.out Hwn.out
      rcases e5 with rfl | rfl | rfl | rfl | rfl
      · have hp := hbs.part_ 0 4 (by omega)
        rw [Nat.zero_add] at hp
        have hX : 0 ≤ N / 256 ^ 0 % 4294967296 ∧ N / 256 ^ 0 % 4294967296 < 4294967296 := by omega
        have hwd := Shut.mk (Hwd.out 0)
        go_wp2_with fail
        refine (joinLowW_any _ _ _ _ _ hp (by omega)).mono ?_
        rintro e w5 ⟨rfl, b5⟩
        rw [hwd.out]
        have hq5 := hq.below b5 hq.lt
        have hw5 := hw.below b5 hw.lt
        have hr5 := hr.below b5 hr.lt
        have B5 := ac hB b5
        have f0 := hq5.frozen 0
        have q0 := hq5.cell 0 (by simp [limbsTo])
        have HS : Shut (limbsTo N 1 = (limbsTo N 0).set 0 (N / 256 ^ 0 % 4294967296 % 67108864)) := ⟨rfl⟩
        generalize N / 256 ^ 0 % 4294967296 = X at *
        obtain ⟨hX0, hX1⟩ := hX
        have ha := and26 X (by omega) (by omega)
        clear hbs hp hwd
        go_wp2
        refine ⟨⟨1, by omega, ?_, KOw.of_eq HS.out (hq5.set_ 0 (by simp [limbsTo]) _), hw5.far (by simp; omega) _, hr5.far (by simp; omega) _, B5.setCell (by simp; omega) _⟩, by simp [intOf]⟩
        rfl
      · have hp := hbs.part_ 3 4 (by omega)
        rw [Nat.zero_add] at hp
        have hX : 0 ≤ N / 256 ^ 3 % 4294967296 ∧ N / 256 ^ 3 % 4294967296 < 4294967296 := by omega
        have hwd := Shut.mk (Hwd.out 3)
        go_wp2_with fail
        refine (joinLowW_any _ _ _ _ _ hp (by omega)).mono ?_
        rintro e w5 ⟨rfl, b5⟩
        rw [hwd.out]
        have hq5 := hq.below b5 hq.lt
        have hw5 := hw.below b5 hw.lt
        have hr5 := hr.below b5 hr.lt
        have B5 := ac hB b5
        have f0 := hq5.frozen 1
        have q0 := hq5.cell 1 (by simp [limbsTo])
        have HS : Shut (limbsTo N 2 = (limbsTo N 1).set 1 (N / 256 ^ 3 % 4294967296 / 4 % 67108864)) := ⟨rfl⟩
        generalize N / 256 ^ 3 % 4294967296 = X at *
        obtain ⟨hX0, hX1⟩ := hX
        have ha := and26 (X / 4) (by omega) (by omega)
        clear hbs hp hwd
        go_wp2
        refine ⟨⟨2, by omega, ?_, KOw.of_eq HS.out (hq5.set_ 1 (by simp [limbsTo]) _), hw5.far (by simp; omega) _, hr5.far (by simp; omega) _, B5.setCell (by simp; omega) _⟩, by simp [intOf]⟩
        rfl
      · have hp := hbs.part_ 6 4 (by omega)
        rw [Nat.zero_add] at hp
        have hX : 0 ≤ N / 256 ^ 6 % 4294967296 ∧ N / 256 ^ 6 % 4294967296 < 4294967296 := by omega
        have hwd := Shut.mk (Hwd.out 6)
        go_wp2_with fail
        refine (joinLowW_any _ _ _ _ _ hp (by omega)).mono ?_
        rintro e w5 ⟨rfl, b5⟩
        rw [hwd.out]
        have hq5 := hq.below b5 hq.lt
        have hw5 := hw.below b5 hw.lt
        have hr5 := hr.below b5 hr.lt
        have B5 := ac hB b5
        have f0 := hq5.frozen 2
        have q0 := hq5.cell 2 (by simp [limbsTo])
        have HS : Shut (limbsTo N 3 = (limbsTo N 2).set 2 (N / 256 ^ 6 % 4294967296 / 16 % 67108864)) := ⟨rfl⟩
        generalize N / 256 ^ 6 % 4294967296 = X at *
        obtain ⟨hX0, hX1⟩ := hX
        have ha := and26 (X / 16) (by omega) (by omega)
        clear hbs hp hwd
        go_wp2
        refine ⟨⟨3, by omega, ?_, KOw.of_eq HS.out (hq5.set_ 2 (by simp [limbsTo]) _), hw5.far (by simp; omega) _, hr5.far (by simp; omega) _, B5.setCell (by simp; omega) _⟩, by simp [intOf]⟩
        rfl
      · have hp := hbs.part_ 9 4 (by omega)
        rw [Nat.zero_add] at hp
        have hX : 0 ≤ N / 256 ^ 9 % 4294967296 ∧ N / 256 ^ 9 % 4294967296 < 4294967296 := by omega
        have hwd := Shut.mk (Hwd.out 9)
        go_wp2_with fail
        refine (joinLowW_any _ _ _ _ _ hp (by omega)).mono ?_
        rintro e w5 ⟨rfl, b5⟩
        rw [hwd.out]
        have hq5 := hq.below b5 hq.lt
        have hw5 := hw.below b5 hw.lt
        have hr5 := hr.below b5 hr.lt
        have B5 := ac hB b5
        have f0 := hq5.frozen 3
        have q0 := hq5.cell 3 (by simp [limbsTo])
        have HS : Shut (limbsTo N 4 = (limbsTo N 3).set 3 (N / 256 ^ 9 % 4294967296 / 64 % 67108864)) := ⟨rfl⟩
        generalize N / 256 ^ 9 % 4294967296 = X at *
        obtain ⟨hX0, hX1⟩ := hX
        have ha := and26 (X / 64) (by omega) (by omega)
        clear hbs hp hwd
        go_wp2
        refine ⟨⟨4, by omega, ?_, KOw.of_eq HS.out (hq5.set_ 3 (by simp [limbsTo]) _), hw5.far (by simp; omega) _, hr5.far (by simp; omega) _, B5.setCell (by simp; omega) _⟩, by simp [intOf]⟩
        rfl
      · have hp := hbs.part_ 13 4 (by omega)
        rw [Nat.zero_add] at hp
        have hX : 0 ≤ N / 256 ^ 13 % 4294967296 ∧ N / 256 ^ 13 % 4294967296 < 4294967296 := by omega
        have hwd := Shut.mk (Hwd.out 13)
        go_wp2_with fail
        refine (joinLowW_any _ _ _ _ _ hp (by omega)).mono ?_
        rintro e w5 ⟨rfl, b5⟩
        rw [hwd.out]
        have hq5 := hq.below b5 hq.lt
        have hw5 := hw.below b5 hw.lt
        have hr5 := hr.below b5 hr.lt
        have B5 := ac hB b5
        have f0 := hq5.frozen 4
        have q0 := hq5.cell 4 (by simp [limbsTo])
        have HS : Shut (limbsTo N 5 = (limbsTo N 4).set 4 (N / 256 ^ 13 % 4294967296 % 67108864)) := ⟨rfl⟩
        generalize N / 256 ^ 13 % 4294967296 = X at *
        obtain ⟨hX0, hX1⟩ := hX
        have ha := and26 X (by omega) (by omega)
        clear hbs hp hwd
        go_wp2
        refine ⟨⟨5, by omega, ?_, KOw.of_eq HS.out (hq5.set_ 4 (by simp [limbsTo]) _), hw5.far (by simp; omega) _, hr5.far (by simp; omega) _, B5.setCell (by simp; omega) _⟩, by simp [intOf]⟩
        rfl
    · obtain rfl : k = 5 := by omega
      have HF2 : Shut (limbsTo N 5 = limbs N) := ⟨HF.out⟩
      dsimp only [limbsTo] at hq HF2
      generalize N / 256 ^ 0 % 4294967296 % 67108864 = D0 at *
      generalize N / 256 ^ 3 % 4294967296 / 4 % 67108864 = D1 at *
      generalize N / 256 ^ 6 % 4294967296 / 16 % 67108864 = D2 at *
      generalize N / 256 ^ 9 % 4294967296 / 64 % 67108864 = D3 at *
      generalize N / 256 ^ 13 % 4294967296 % 67108864 = D4 at *
      obtain ⟨a0, a1, a2, a3, a4, f0, f1, f2, f3, f4⟩ := hq.full5
      obtain ⟨p0, p1, p2, p3, p4, g0, g1, g2, g3, g4⟩ := hr.full5
      clear HF
      go_wp2
      have r10 := set5 rfl hr D0 D1 D2 D3 D4
      have b10 := below5 hB (Nat.le_refl _) (.int .u64 D0) (.int .u64 D1) (.int .u64 D2) (.int .u64 D3) (.int .u64 D4)
      clear a0 a1 a2 a3 a4 f0 f1 f2 f3 f4 p0 p1 p2 p3 p4 g0 g1 g2 g3 g4
      generalize World.setCell _ ⟨w.heap.size, 4, none⟩ _ = W9 at *
      obtain ⟨c0, c1, c2, c3, c4, _⟩ := r10.full5
      exact bodyPost_ret (v := .agg #[.int .u64 D0, .int .u64 D1, .int .u64 D2, .int .u64 D3, .int .u64 D4]) (by simp [results, Tryz.results219, go_sem, c0, c1, c2, c3, c4]) rfl ⟨⟨_, _, _, _, _, rfl, HF2.out⟩, b10⟩
end Go.Proofs.YtabhcolfkkfonaaGreatDoor

/-! LimbP -/
/- Carries of five limbs, of the program (gen_limb.py). -/
namespace Go.Proofs.YtabhcolfkkfonaaGreatDoor
open Go.RowKit

def setTo (a b c d e : Int) : Nat → List Int
  | 0 => [0, 0, 0, 0, 0]
  | 1 => [a % 67108864, 0, 0, 0, 0]
  | 2 => [a % 67108864, (b + a / 67108864) % 67108864, 0, 0, 0]
  | 3 => [a % 67108864, (b + a / 67108864) % 67108864, (c + (b + a / 67108864) / 67108864) % 67108864, 0, 0]
  | 4 => [a % 67108864, (b + a / 67108864) % 67108864, (c + (b + a / 67108864) / 67108864) % 67108864, (d + (c + (b + a / 67108864) / 67108864) / 67108864) % 67108864, 0]
  | _ => [a % 67108864, (b + a / 67108864) % 67108864, (c + (b + a / 67108864) / 67108864) % 67108864, (d + (c + (b + a / 67108864) / 67108864) / 67108864) % 67108864, (e + (d + (c + (b + a / 67108864) / 67108864) / 67108864) / 67108864) % 67108864]
def ovTo (a b c d e : Int) : Nat → Int
  | 0 => 0
  | 1 => (a / 67108864)
  | 2 => ((b + a / 67108864) / 67108864)
  | 3 => ((c + (b + a / 67108864) / 67108864) / 67108864)
  | 4 => ((d + (c + (b + a / 67108864) / 67108864) / 67108864) / 67108864)
  | _ => ((e + (d + (c + (b + a / 67108864) / 67108864) / 67108864) / 67108864) / 67108864)

set_option maxRecDepth 100000 in
set_option maxHeartbeats 4000000 in
theorem carried_any (a b c d e : Int) (w : World) (h0 : 0 ≤ a ∧ a < 9223372036854775808) (h1 : 0 ≤ b ∧ b < 9223372036854775808) (h2 : 0 ≤ c ∧ c < 9223372036854775808) (h3 : 0 ≤ d ∧ d < 9223372036854775808) (h4 : 0 ≤ e ∧ e < 9223372036854775808) :
    Calls Tryz.prog 223 #[.agg #[.int .u64 a, .int .u64 b, .int .u64 c, .int .u64 d, .int .u64 e]] w fun r w' =>
      r = .returned (.tuple #[.agg #[.int .u64 (a % 67108864), .int .u64 ((b + a / 67108864) % 67108864), .int .u64 ((c + (b + a / 67108864) / 67108864) % 67108864), .int .u64 ((d + (c + (b + a / 67108864) / 67108864) / 67108864) % 67108864), .int .u64 ((e + (d + (c + (b + a / 67108864) / 67108864) / 67108864) / 67108864) % 67108864)], .int .u64 ((e + (d + (c + (b + a / 67108864) / 67108864) / 67108864) / 67108864) / 67108864)]) ∧ Below w.heap.size w w' := by
  obtain ⟨h00, h01⟩ := h0
  obtain ⟨h10, h11⟩ := h1
  obtain ⟨h20, h21⟩ := h2
  obtain ⟨h30, h31⟩ := h3
  obtain ⟨h40, h41⟩ := h4
  have B1 := ab (ab (Below.refl _ w) (.cells #[.int .u64 a, .int .u64 b, .int .u64 c, .int .u64 d, .int .u64 e] 212)) (.cells #[.int .u64 0, .int .u64 0, .int .u64 0, .int .u64 0, .int .u64 0] 212)
  have r1 := kow5 (w.alloc (.cells #[.int .u64 a, .int .u64 b, .int .u64 c, .int .u64 d, .int .u64 e] 212)) 0 0 0 0 0 212
  simp only [World.size_alloc] at r1
  go_enter Tryz.func223, Tryz.ntmps223
  go_wp2
  generalize (w.alloc (.cells #[.int .u64 a, .int .u64 b, .int .u64 c, .int .u64 d, .int .u64 e] 212)).alloc (.cells #[.int .u64 0, .int .u64 0, .int .u64 0, .int .u64 0, .int .u64 0] 212) = W1 at *
  have k2 : KOw .u64 W1 (w.heap.size + 1) (setTo a b c d e 0) := r1
  clear r1
  go_loopw [3, 7] (fun v i wr => ∃ k : Nat, k ≤ 5 ∧ i = .int .i64 (k : Int) ∧ v = .int .u64 (ovTo a b c d e k) ∧ KOw .u64 wr (w.heap.size + 1) (setTo a b c d e k) ∧ Below w.heap.size w wr) (fun _ i _ => 5 - (intOf i).toNat)
  case atStart => exact ⟨0, by omega, rfl, rfl, k2, B1⟩
  case round =>
    clear k2 B1
    obtain ⟨k, hk, rfl, rfl, hv, hB⟩ := hrel
    by_cases hlk : k < 5
    · have e5 : k = 0 ∨ k = 1 ∨ k = 2 ∨ k = 3 ∨ k = 4 := by omega
      rcases e5 with rfl | rfl | rfl | rfl | rfl
      · dsimp only [setTo, ovTo] at hv ⊢
        obtain ⟨i0, i1, i2, i3, i4⟩ := idx5s a b c d e wr
        have f0 := hv.frozen 0
        have q0 := hv.cell 0 (by simp)
        have ad : a + 0 = a := by rw [Int.add_zero]
        have nd := and26 a (by omega) (by omega)
        go_wp2
        refine ⟨⟨1, by omega, ?_, ?_, hv.set_ 0 (by simp) _, hB.setCell (by simp) _⟩, by simp [intOf]⟩
        · rfl
        · rfl
      · dsimp only [setTo, ovTo] at hv ⊢
        obtain ⟨i0, i1, i2, i3, i4⟩ := idx5s a b c d e wr
        have f0 := hv.frozen 1
        have q0 := hv.cell 1 (by simp)
        have ad : b + (a / 67108864) = (b + a / 67108864) := by rfl
        have nd := and26 (b + a / 67108864) (by omega) (by omega)
        go_wp2
        refine ⟨⟨2, by omega, ?_, ?_, hv.set_ 1 (by simp) _, hB.setCell (by simp) _⟩, by simp [intOf]⟩
        · rfl
        · rfl
      · dsimp only [setTo, ovTo] at hv ⊢
        obtain ⟨i0, i1, i2, i3, i4⟩ := idx5s a b c d e wr
        have f0 := hv.frozen 2
        have q0 := hv.cell 2 (by simp)
        have ad : c + ((b + a / 67108864) / 67108864) = (c + (b + a / 67108864) / 67108864) := by rfl
        have nd := and26 (c + (b + a / 67108864) / 67108864) (by omega) (by omega)
        go_wp2
        refine ⟨⟨3, by omega, ?_, ?_, hv.set_ 2 (by simp) _, hB.setCell (by simp) _⟩, by simp [intOf]⟩
        · rfl
        · rfl
      · dsimp only [setTo, ovTo] at hv ⊢
        obtain ⟨i0, i1, i2, i3, i4⟩ := idx5s a b c d e wr
        have f0 := hv.frozen 3
        have q0 := hv.cell 3 (by simp)
        have ad : d + ((c + (b + a / 67108864) / 67108864) / 67108864) = (d + (c + (b + a / 67108864) / 67108864) / 67108864) := by rfl
        have nd := and26 (d + (c + (b + a / 67108864) / 67108864) / 67108864) (by omega) (by omega)
        go_wp2
        refine ⟨⟨4, by omega, ?_, ?_, hv.set_ 3 (by simp) _, hB.setCell (by simp) _⟩, by simp [intOf]⟩
        · rfl
        · rfl
      · dsimp only [setTo, ovTo] at hv ⊢
        obtain ⟨i0, i1, i2, i3, i4⟩ := idx5s a b c d e wr
        have f0 := hv.frozen 4
        have q0 := hv.cell 4 (by simp)
        have ad : e + ((d + (c + (b + a / 67108864) / 67108864) / 67108864) / 67108864) = (e + (d + (c + (b + a / 67108864) / 67108864) / 67108864) / 67108864) := by rfl
        have nd := and26 (e + (d + (c + (b + a / 67108864) / 67108864) / 67108864) / 67108864) (by omega) (by omega)
        go_wp2
        refine ⟨⟨5, by omega, ?_, ?_, hv.set_ 4 (by simp) _, hB.setCell (by simp) _⟩, by simp [intOf]⟩
        · rfl
        · rfl
    · obtain rfl : k = 5 := by omega
      dsimp only [setTo, ovTo] at hv ⊢
      obtain ⟨p0, p1, p2, p3, p4, g0, g1, g2, g3, g4⟩ := hv.full5
      go_wp2
      have s4 := set5 rfl hv (a % 67108864) ((b + a / 67108864) % 67108864) ((c + (b + a / 67108864) / 67108864) % 67108864) ((d + (c + (b + a / 67108864) / 67108864) / 67108864) % 67108864) ((e + (d + (c + (b + a / 67108864) / 67108864) / 67108864) / 67108864) % 67108864)
      have b4 := below5 hB (show w.heap.size ≤ w.heap.size + 1 by omega) (.int .u64 (a % 67108864)) (.int .u64 ((b + a / 67108864) % 67108864)) (.int .u64 ((c + (b + a / 67108864) / 67108864) % 67108864)) (.int .u64 ((d + (c + (b + a / 67108864) / 67108864) / 67108864) % 67108864)) (.int .u64 ((e + (d + (c + (b + a / 67108864) / 67108864) / 67108864) / 67108864) % 67108864))
      clear p0 p1 p2 p3 p4 g0 g1 g2 g3 g4
      generalize World.setCell _ ⟨w.heap.size + 1, 4, none⟩ _ = W9 at *
      obtain ⟨c0, c1, c2, c3, c4, _⟩ := s4.full5
      exact bodyPost_ret (v := .tuple #[.agg #[.int .u64 (a % 67108864), .int .u64 ((b + a / 67108864) % 67108864), .int .u64 ((c + (b + a / 67108864) / 67108864) % 67108864), .int .u64 ((d + (c + (b + a / 67108864) / 67108864) / 67108864) % 67108864), .int .u64 ((e + (d + (c + (b + a / 67108864) / 67108864) / 67108864) / 67108864) % 67108864)], .int .u64 ((e + (d + (c + (b + a / 67108864) / 67108864) / 67108864) / 67108864) / 67108864)]) (by simp [results, Tryz.results223, go_sem, c0, c1, c2, c3, c4]) rfl ⟨rfl, b4⟩
end Go.Proofs.YtabhcolfkkfonaaGreatDoor

/-! LessP -/
/- What 2 to the power of 130, less 5, leaves of five limbs, of the program. -/
namespace Go.Proofs.YtabhcolfkkfonaaGreatDoor
open Go.RowKit

/-- the digits of five limbs, and what is above them -/
def Cut5 (V D0 D1 D2 D3 D4 O : Int) : Prop :=
  (0 ≤ D0 ∧ D0 < 67108864) ∧ (0 ≤ D1 ∧ D1 < 67108864) ∧ (0 ≤ D2 ∧ D2 < 67108864) ∧ (0 ≤ D3 ∧ D3 < 67108864) ∧ (0 ≤ D4 ∧ D4 < 67108864) ∧ 0 ≤ O ∧
  V = D0 + D1 * 67108864 + D2 * 4503599627370496 + D3 * 302231454903657293676544 + D4 * 20282409603651670423947251286016 + O * 1361129467683753853853498429727072845824

theorem carried_ex (a b c d e : Int) (w : World) (h0 : 0 ≤ a ∧ a < 9223372036854775808) (h1 : 0 ≤ b ∧ b < 9223372036854775808) (h2 : 0 ≤ c ∧ c < 9223372036854775808) (h3 : 0 ≤ d ∧ d < 9223372036854775808) (h4 : 0 ≤ e ∧ e < 9223372036854775808) :
    Calls Tryz.prog 223 #[.agg #[.int .u64 a, .int .u64 b, .int .u64 c, .int .u64 d, .int .u64 e]] w fun r w' =>
      (∃ D0 D1 D2 D3 D4 O, r = .returned (.tuple #[.agg #[.int .u64 D0, .int .u64 D1, .int .u64 D2, .int .u64 D3, .int .u64 D4], .int .u64 O]) ∧ Cut5 (val5 [a, b, c, d, e]) D0 D1 D2 D3 D4 O) ∧ Below w.heap.size w w' := by
  refine (carried_any a b c d e w h0 h1 h2 h3 h4).mono ?_
  rintro r w' ⟨rfl, hb⟩
  refine ⟨⟨_, _, _, _, _, _, rfl, ?_⟩, hb⟩
  simp only [Cut5, val5, List.getD_cons_zero, List.getD_cons_succ]
  omega

theorem cut_limbs (V D0 D1 D2 D3 D4 O : Int) (h : Cut5 V D0 D1 D2 D3 D4 O) (hV : V < 1361129467683753853853498429727072845824) : [D0, D1, D2, D3, D4] = limbs V := by
  obtain ⟨h0, h1, h2, h3, h4, h5, h6⟩ := h
  simp only [limbs, List.cons.injEq, and_true]
  omega

theorem cut_val (V D0 D1 D2 D3 D4 O : Int) (h : Cut5 V D0 D1 D2 D3 D4 O) : V = val5 [D0, D1, D2, D3, D4] + O * 1361129467683753853853498429727072845824 ∧ 0 ≤ val5 [D0, D1, D2, D3, D4] ∧ val5 [D0, D1, D2, D3, D4] < 1361129467683753853853498429727072845824 := by
  obtain ⟨h0, h1, h2, h3, h4, h5, h6⟩ := h
  simp only [val5, List.getD_cons_zero, List.getD_cons_succ]
  omega

theorem val5_put (a b c d e x : Int) : val5 [a + x, b, c, d, e] = val5 [a, b, c, d, e] + x := by
  simp only [val5, List.getD_cons_zero, List.getD_cons_succ]
  omega

theorem rest_yes (V W Y O O2 E0 E1 E2 E3 E4 : Int) (hV : V = W + O * 1361129467683753853853498429727072845824) (hO : 0 ≤ O ∧ O < 68719476736) (hW : 0 ≤ W ∧ W < 1361129467683753853853498429727072845824) (hY : Y = W + 5 * O) (hE : Cut5 (Y + 5) E0 E1 E2 E3 E4 O2) (h2 : ¬ O2 = 0) : [E0, E1, E2, E3, E4] = limbs (V % pp) := by
  obtain ⟨e1, e2, e3⟩ := cut_val _ _ _ _ _ _ _ hE
  have hv : V % pp = val5 [E0, E1, E2, E3, E4] := by
    have ho := hE.2.2.2.2.2.1
    generalize val5 [E0, E1, E2, E3, E4] = X at *
    have h1 : O2 = 1 := by omega
    subst h1
    have hx : V = X + pp * (O + 1) := by unfold pp; omega
    rw [hx, Int.add_mul_emod_self_left, Int.emod_eq_of_lt e2 (by unfold pp; omega)]
  rw [hv]
  refine cut_limbs _ _ _ _ _ _ 0 ?_ e3
  obtain ⟨h0, h1, h2, h3, h4, h5, h6⟩ := hE
  refine ⟨h0, h1, h2, h3, h4, by omega, ?_⟩
  simp only [val5, List.getD_cons_zero, List.getD_cons_succ]
  omega
theorem rest_no (V W Y O O2 E0 E1 E2 E3 E4 O3 F0 F1 F2 F3 F4 : Int) (hV : V = W + O * 1361129467683753853853498429727072845824) (hO : 0 ≤ O ∧ O < 68719476736) (hW : 0 ≤ W ∧ W < 1361129467683753853853498429727072845824) (hY : Y = W + 5 * O) (hE : Cut5 (Y + 5) E0 E1 E2 E3 E4 O2) (h2 : O2 = 0) (hF : Cut5 Y F0 F1 F2 F3 F4 O3) : [F0, F1, F2, F3, F4] = limbs (V % pp) := by
  obtain ⟨e1, e2, e3⟩ := cut_val _ _ _ _ _ _ _ hE
  have hv : V % pp = Y := by
    generalize val5 [E0, E1, E2, E3, E4] = X at *
    have hx : V = Y + pp * O := by unfold pp; omega
    rw [hx, Int.add_mul_emod_self_left, Int.emod_eq_of_lt (by omega) (by unfold pp; omega)]
  rw [hv]
  exact cut_limbs _ _ _ _ _ _ _ hF (by omega)

set_option maxRecDepth 100000 in
set_option maxHeartbeats 4000000 in
theorem least_any (a b c d e : Int) (w : World) (h0 : 0 ≤ a ∧ a < 1152921504606846976) (h1 : 0 ≤ b ∧ b < 1152921504606846976) (h2 : 0 ≤ c ∧ c < 1152921504606846976) (h3 : 0 ≤ d ∧ d < 1152921504606846976) (h4 : 0 ≤ e ∧ e < 1152921504606846976) :
    Calls Tryz.prog 241 #[.agg #[.int .u64 a, .int .u64 b, .int .u64 c, .int .u64 d, .int .u64 e]] w fun r w' =>
      (∃ D0 D1 D2 D3 D4, r = .returned (.agg #[.int .u64 D0, .int .u64 D1, .int .u64 D2, .int .u64 D3, .int .u64 D4]) ∧ [D0, D1, D2, D3, D4] = limbs (val5 [a, b, c, d, e] % pp)) ∧ Below w.heap.size w w' := by
  have hVb : 0 ≤ val5 [a, b, c, d, e] ∧ val5 [a, b, c, d, e] < 68719476736 * 1361129467683753853853498429727072845824 := by
    simp only [val5, List.getD_cons_zero, List.getD_cons_succ]
    omega
  have G1 := Shut.mk (fun W => carried_ex a b c d e W (by omega) (by omega) (by omega) (by omega) (by omega))
  generalize val5 [a, b, c, d, e] = V at *
  have k0 := kow5 w a b c d e 212
  have k1 := k0.below (ab (Below.refl _ _) (.cells #[.int .u64 0, .int .u64 0, .int .u64 0, .int .u64 0, .int .u64 0] 212)) (by simp)
  have r1 := kow5 (w.alloc (.cells #[.int .u64 a, .int .u64 b, .int .u64 c, .int .u64 d, .int .u64 e] 212)) 0 0 0 0 0 212
  simp only [World.size_alloc] at r1
  have B1 := ab (ab (Below.refl _ w) (.cells #[.int .u64 a, .int .u64 b, .int .u64 c, .int .u64 d, .int .u64 e] 212)) (.cells #[.int .u64 0, .int .u64 0, .int .u64 0, .int .u64 0, .int .u64 0] 212)
  go_enter Tryz.func241, Tryz.ntmps241
  go_wp2_with fail
  refine (G1.out _).mono ?_
  rintro r w1 ⟨⟨D0, D1, D2, D3, D4, O, rfl, hD⟩, b1⟩
  have s1 := b1.size
  simp only [World.size_alloc] at s1
  have B2 := ac B1 b1
  have k2 := k1.below b1 (by simp; omega)
  have r2 := r1.below b1 (by simp)
  clear k0 k1 r1 B1 b1
  obtain ⟨hW1, hW2, hW3⟩ := cut_val _ _ _ _ _ _ _ hD
  have hV5 := val5_put D0 D1 D2 D3 D4 (5 * O)
  have hV6 := val5_put (D0 + 5 * O) D1 D2 D3 D4 5
  obtain ⟨d0, d1, d2, d3, d4, d5, _⟩ := hD
  have hO : O < 68719476736 := by omega
  obtain ⟨q0, q1, q2, q3, q4, f0, f1, f2, f3, f4⟩ := k2.full5
  go_wp2_with fail
  have k3 := set5 rfl k2 D0 D1 D2 D3 D4
  have b3 := below5 B2 (Nat.le_refl _) (.int .u64 D0) (.int .u64 D1) (.int .u64 D2) (.int .u64 D3) (.int .u64 D4)
  have z3 : w.heap.size + 1 + 1 ≤ (((((w1.setCell ⟨w.heap.size, 0, none⟩ (.int .u64 D0)).setCell ⟨w.heap.size, 1, none⟩ (.int .u64 D1)).setCell ⟨w.heap.size, 2, none⟩ (.int .u64 D2)).setCell ⟨w.heap.size, 3, none⟩ (.int .u64 D3)).setCell ⟨w.heap.size, 4, none⟩ (.int .u64 D4)).heap.size := by simpa using s1
  have r3 : KOw .u64 (((((w1.setCell ⟨w.heap.size, 0, none⟩ (.int .u64 D0)).setCell ⟨w.heap.size, 1, none⟩ (.int .u64 D1)).setCell ⟨w.heap.size, 2, none⟩ (.int .u64 D2)).setCell ⟨w.heap.size, 3, none⟩ (.int .u64 D3)).setCell ⟨w.heap.size, 4, none⟩ (.int .u64 D4)) (w.heap.size + 1) [0, 0, 0, 0, 0] :=
    ((((r2.far (p := ⟨w.heap.size, 0, none⟩) (by simp) _).far (p := ⟨w.heap.size, 1, none⟩) (by simp) _).far (p := ⟨w.heap.size, 2, none⟩) (by simp) _).far (p := ⟨w.heap.size, 3, none⟩) (by simp) _).far (p := ⟨w.heap.size, 4, none⟩) (by simp) _
  have k4 := k3.set_ 0 (by simp) (D0 + 5 * O)
  have b4 := b3.setCell (p := ⟨w.heap.size, 0, none⟩) (Nat.le_refl _) (.int .u64 (D0 + 5 * O))
  have r4 := r3.far (p := ⟨w.heap.size, 0, none⟩) (by simp) (.int .u64 (D0 + 5 * O))
  have z4 : w.heap.size + 1 + 1 ≤ ((((((w1.setCell ⟨w.heap.size, 0, none⟩ (.int .u64 D0)).setCell ⟨w.heap.size, 1, none⟩ (.int .u64 D1)).setCell ⟨w.heap.size, 2, none⟩ (.int .u64 D2)).setCell ⟨w.heap.size, 3, none⟩ (.int .u64 D3)).setCell ⟨w.heap.size, 4, none⟩ (.int .u64 D4)).setCell ⟨w.heap.size, 0, none⟩ (.int .u64 (D0 + 5 * O))).heap.size := by simpa using s1
  simp only [List.set_cons_zero] at k4
  clear k3 b3 z3 r3 k2 r2 q0 q1 q2 q3 q4 f0 f1 f2 f3 f4
  generalize World.setCell _ ⟨w.heap.size, 0, none⟩ (.int .u64 (D0 + 5 * O)) = w4 at *
  refine (plus_any (D0 + 5 * O) D1 D2 D3 D4 5 0 0 0 0 w4 (by omega) (by omega) (by omega) (by omega) (by omega)).mono ?_
  rintro r w5 ⟨rfl, b5⟩
  simp only [Int.add_zero]
  have k5 := k4.below b5 k4.lt
  have r5 := r4.below b5 r4.lt
  have s5 := b5.size
  have B5 := ac b4 b5
  go_wp2_with fail
  refine (carried_ex (D0 + 5 * O + 5) D1 D2 D3 D4 _ (by omega) (by omega) (by omega) (by omega) (by omega)).mono ?_
  rintro r w6 ⟨⟨E0, E1, E2, E3, E4, O2, rfl, hE⟩, b6⟩
  rw [hV6, hV5] at hE
  have k6 := k5.below b6 k5.lt
  have r6 := r5.below b6 r5.lt
  have s6 := b6.size
  have B6 := ac B5 b6
  clear k4 k5 r4 r5 b4 b5 b6 B5
  have l7 := kow5 w6 E0 E1 E2 E3 E4 212
  have k7 := k6.below (ab (Below.refl _ w6) (.cells #[.int .u64 E0, .int .u64 E1, .int .u64 E2, .int .u64 E3, .int .u64 E4] 212)) k6.lt
  have r7 := r6.below (ab (Below.refl _ w6) (.cells #[.int .u64 E0, .int .u64 E1, .int .u64 E2, .int .u64 E3, .int .u64 E4] 212)) r6.lt
  have B7 := ab B6 (.cells #[.int .u64 E0, .int .u64 E1, .int .u64 E2, .int .u64 E3, .int .u64 E4] 212)
  have z6 : w.heap.size + 1 < w6.heap.size := by omega
  obtain ⟨m6, hm6⟩ : ∃ m, w6.heap.size = m := ⟨_, rfl⟩
  go_upto_if 24 with fail
  clear k6 r6 B6 s6 s5 s1 z4
  rw [hm6] at l7 z6
  generalize w6.alloc (.cells #[.int .u64 E0, .int .u64 E1, .int .u64 E2, .int .u64 E3, .int .u64 E4] 212) = w7 at *
  clear hm6
  have hne : ¬ m6 = w.heap.size + 1 := by omega
  have hne2 : ¬ w.heap.size + 1 = m6 := by omega
  obtain ⟨q0, q1, q2, q3, q4, f0, f1, f2, f3, f4⟩ := k7.full5
  obtain ⟨p0, p1, p2, p3, p4, g0, g1, g2, g3, g4⟩ := r7.full5
  by_cases hz : O2 = 0
  · have hb2 : (O2 == 0) = true := by simp [hz]
    go_wp2_with fail
    refine (carried_ex (D0 + 5 * O) D1 D2 D3 D4 _ (by omega) (by omega) (by omega) (by omega) (by omega)).mono ?_
    rintro r w8 ⟨⟨F0, F1, F2, F3, F4, O3, rfl, hF⟩, b8⟩
    rw [hV5] at hF
    have r8 := r7.below b8 r7.lt
    have l8 := l7.below b8 l7.lt
    have B8 := ac B7 b8
    have Hfin := Shut.mk (rest_no V _ _ O O2 E0 E1 E2 E3 E4 O3 F0 F1 F2 F3 F4 hW1 ⟨d5, hO⟩ ⟨hW2, hW3⟩ rfl hE hz hF)
    clear q0 q1 q2 q3 q4 f0 f1 f2 f3 f4 p0 p1 p2 p3 p4 g0 g1 g2 g3 g4 k7 r7 hE hF l7 hW1 hW2 hW3 hV5 hV6
    obtain ⟨q0, q1, q2, q3, q4, f0, f1, f2, f3, f4⟩ := l8.full5
    obtain ⟨p0, p1, p2, p3, p4, g0, g1, g2, g3, g4⟩ := r8.full5
    go_upto_region 6 with fail
    have l9 := set5 rfl l8 F0 F1 F2 F3 F4
    have r9 := ((((r8.far (p := ⟨m6, 0, none⟩) (by simpa using hne2) (.int .u64 F0)).far (p := ⟨m6, 1, none⟩) (by simpa using hne2) (.int .u64 F1)).far (p := ⟨m6, 2, none⟩) (by simpa using hne2) (.int .u64 F2)).far (p := ⟨m6, 3, none⟩) (by simpa using hne2) (.int .u64 F3)).far (p := ⟨m6, 4, none⟩) (by simpa using hne2) (.int .u64 F4)
    have b9 := below5 B8 (show w.heap.size ≤ m6 by omega) (.int .u64 F0) (.int .u64 F1) (.int .u64 F2) (.int .u64 F3) (.int .u64 F4)
    clear r8 l8 q0 q1 q2 q3 q4 f0 f1 f2 f3 f4 p0 p1 p2 p3 p4 g0 g1 g2 g3 g4
    generalize World.setCell _ ⟨m6, 4, none⟩ _ = W8 at *
    obtain ⟨q0, q1, q2, q3, q4, f0, f1, f2, f3, f4⟩ := l9.full5
    obtain ⟨p0, p1, p2, p3, p4, g0, g1, g2, g3, g4⟩ := r9.full5
    go_wp2
    have r10 := set5 rfl r9 F0 F1 F2 F3 F4
    have b10 := below5 b9 (show w.heap.size ≤ w.heap.size + 1 by omega) (.int .u64 F0) (.int .u64 F1) (.int .u64 F2) (.int .u64 F3) (.int .u64 F4)
    clear q0 q1 q2 q3 q4 f0 f1 f2 f3 f4 p0 p1 p2 p3 p4 g0 g1 g2 g3 g4
    generalize World.setCell _ ⟨w.heap.size + 1, 4, none⟩ _ = W9 at *
    obtain ⟨c0, c1, c2, c3, c4, _⟩ := r10.full5
    exact bodyPost_ret (v := .agg #[.int .u64 F0, .int .u64 F1, .int .u64 F2, .int .u64 F3, .int .u64 F4]) (by simp [results, Tryz.results241, go_sem, c0, c1, c2, c3, c4]) rfl ⟨⟨_, _, _, _, _, rfl, Hfin.out⟩, b10⟩
  · have hb2 : (O2 == 0) = false := by simp [hz]
    have Hfin := Shut.mk (rest_yes V _ _ O O2 E0 E1 E2 E3 E4 hW1 ⟨d5, hO⟩ ⟨hW2, hW3⟩ rfl hE hz)
    clear hE hW1 hW2 hW3 hV5 hV6 q0 q1 q2 q3 q4 f0 f1 f2 f3 f4
    obtain ⟨l0, l1, l2, l3, l4, _⟩ := l7.full5
    go_wp2
    have r10 := set5 rfl r7 E0 E1 E2 E3 E4
    have b9 := below5 B7 (show w.heap.size ≤ w.heap.size + 1 by omega) (.int .u64 E0) (.int .u64 E1) (.int .u64 E2) (.int .u64 E3) (.int .u64 E4)
    clear p0 p1 p2 p3 p4 g0 g1 g2 g3 g4
    generalize World.setCell _ ⟨w.heap.size + 1, 4, none⟩ _ = W9 at *
    obtain ⟨c0, c1, c2, c3, c4, _⟩ := r10.full5
    exact bodyPost_ret (v := .agg #[.int .u64 E0, .int .u64 E1, .int .u64 E2, .int .u64 E3, .int .u64 E4]) (by simp [results, Tryz.results241, go_sem, c0, c1, c2, c3, c4]) rfl ⟨⟨_, _, _, _, _, rfl, Hfin.out⟩, b9⟩
end Go.Proofs.YtabhcolfkkfonaaGreatDoor

/-! TimesP -/
/- Products of five limbs, of the program. -/
namespace Go.Proofs.YtabhcolfkkfonaaGreatDoor
open Go.RowKit

theorem mulTo_five (H R : List Int) : ∀ k, (mulTo H R k).length = 5 := fun k => by
  have row : ∀ (L : List Int) (i n : Nat), (mulRow H R L i n).length = L.length := fun L i n => by
    induction n with
    | zero => rfl
    | succ n ih => simp [mulRow, mulStep, ih]
  induction k with
  | zero => rfl
  | succ k ih => rw [mulTo, row, ih]

set_option maxRecDepth 100000 in
set_option maxHeartbeats 4000000 in
theorem times_any (a b c d e r s t u v : Int) (w : World) (h0 : 0 ≤ a ∧ a ≤ 268435456) (h1 : 0 ≤ b ∧ b ≤ 268435456) (h2 : 0 ≤ c ∧ c ≤ 268435456) (h3 : 0 ≤ d ∧ d ≤ 268435456) (h4 : 0 ≤ e ∧ e ≤ 268435456)
    (g0 : 0 ≤ r ∧ r ≤ 67108864) (g1 : 0 ≤ s ∧ s ≤ 67108864) (g2 : 0 ≤ t ∧ t ≤ 67108864) (g3 : 0 ≤ u ∧ u ≤ 67108864) (g4 : 0 ≤ v ∧ v ≤ 67108864) :
    Calls Tryz.prog 222 #[.agg #[.int .u64 a, .int .u64 b, .int .u64 c, .int .u64 d, .int .u64 e], .agg #[.int .u64 r, .int .u64 s, .int .u64 t, .int .u64 u, .int .u64 v]] w fun x w' =>
      (∃ D0 D1 D2 D3 D4, x = .returned (.agg #[.int .u64 D0, .int .u64 D1, .int .u64 D2, .int .u64 D3, .int .u64 D4]) ∧ [D0, D1, D2, D3, D4] = limbs (val5 [a, b, c, d, e] * val5 [r, s, t, u, v] % pp)) ∧ Below w.heap.size w w' := by
  have hH : Upto [a, b, c, d, e] 268435456 := ⟨rfl, fun i => by rcases i with _ | _ | _ | _ | _ | i <;> simp <;> omega⟩
  have hR : Upto [r, s, t, u, v] 67108864 := ⟨rfl, fun i => by rcases i with _ | _ | _ | _ | _ | i <;> simp <;> omega⟩
  have hp : ∀ i k, 0 ≤ [a, b, c, d, e].getD i 0 * [r, s, t, u, v].getD k 0 ∧ [a, b, c, d, e].getD i 0 * [r, s, t, u, v].getD k 0 ≤ 18014398509481984 := fun i k => mul_pos (hH.bd i) (hR.bd k)
  have Hp := Shut.mk hp
  have Hu := Shut.mk (fun i => upto_to hp i)
  have HHb := Shut.mk hH.bd
  have Hall : Shut (∃ P0 P1 P2 P3 P4 : Int, mulTo [a, b, c, d, e] [r, s, t, u, v] 5 = [P0, P1, P2, P3, P4] ∧ (0 ≤ P0 ∧ P0 < 1152921504606846976) ∧ (0 ≤ P1 ∧ P1 < 1152921504606846976) ∧ (0 ≤ P2 ∧ P2 < 1152921504606846976) ∧ (0 ≤ P3 ∧ P3 < 1152921504606846976) ∧ (0 ≤ P4 ∧ P4 < 1152921504606846976) ∧ val5 [P0, P1, P2, P3, P4] % pp = val5 [a, b, c, d, e] * val5 [r, s, t, u, v] % pp) := by
    refine ⟨_, _, _, _, _, mulTo_eq a b c d e r s t u v, ?_⟩
    obtain ⟨q, hq⟩ := mul_val a b c d e r s t u v
    have m0 := fun k => hp 0 k
    have m1 := fun k => hp 1 k
    have m2 := fun k => hp 2 k
    have m3 := fun k => hp 3 k
    have m4 := fun k => hp 4 k
    have b0 := m0 0; have b1 := m0 1; have b2 := m0 2; have b3 := m0 3; have b4 := m0 4
    have c0 := m1 0; have c1 := m1 1; have c2 := m1 2; have c3 := m1 3; have c4 := m1 4
    have d0 := m2 0; have d1 := m2 1; have d2 := m2 2; have d3 := m2 3; have d4 := m2 4
    have e0 := m3 0; have e1 := m3 1; have e2 := m3 2; have e3 := m3 3; have e4 := m3 4
    have f0 := m4 0; have f1 := m4 1; have f2 := m4 2; have f3 := m4 3; have f4 := m4 4
    simp only [List.getD_cons_zero, List.getD_cons_succ] at b0 b1 b2 b3 b4 c0 c1 c2 c3 c4 d0 d1 d2 d3 d4 e0 e1 e2 e3 e4 f0 f1 f2 f3 f4
    refine ⟨by omega, by omega, by omega, by omega, by omega, ?_⟩
    rw [hq, Int.add_mul_emod_self_left]
  have hin : ∀ i : Nat, i < 5 → ∀ W : World, (Instr.index 212 (.agg #[.int .u64 a, .int .u64 b, .int .u64 c, .int .u64 d, .int .u64 e]) (.int .i64 (i : Int))).run Tryz.prog W = .ok (.int .u64 ([a, b, c, d, e].getD i 0)) W := fun i hi W => idx5 _ i _ (by
    have e5 : i = 0 ∨ i = 1 ∨ i = 2 ∨ i = 3 ∨ i = 4 := by omega
    rcases e5 with rfl | rfl | rfl | rfl | rfl <;> rfl) hi W
  have hio : ∀ i : Nat, i < 5 → ∀ W : World, (Instr.index 212 (.agg #[.int .u64 r, .int .u64 s, .int .u64 t, .int .u64 u, .int .u64 v]) (.int .i64 (i : Int))).run Tryz.prog W = .ok (.int .u64 ([r, s, t, u, v].getD i 0)) W := fun i hi W => idx5 _ i _ (by
    have e5 : i = 0 ∨ i = 1 ∨ i = 2 ∨ i = 3 ∨ i = 4 := by omega
    rcases e5 with rfl | rfl | rfl | rfl | rfl <;> rfl) hi W
  have HIN := Shut.mk hin
  have HIO := Shut.mk hio
  have o1 := kow5 (w.alloc (.cells #[.int .u64 a, .int .u64 b, .int .u64 c, .int .u64 d, .int .u64 e] 212)) r s t u v 212
  have p2 := kow5 ((w.alloc (.cells #[.int .u64 a, .int .u64 b, .int .u64 c, .int .u64 d, .int .u64 e] 212)).alloc (.cells #[.int .u64 r, .int .u64 s, .int .u64 t, .int .u64 u, .int .u64 v] 212)) 0 0 0 0 0 212
  have p3 := kow5 (((w.alloc (.cells #[.int .u64 a, .int .u64 b, .int .u64 c, .int .u64 d, .int .u64 e] 212)).alloc (.cells #[.int .u64 r, .int .u64 s, .int .u64 t, .int .u64 u, .int .u64 v] 212)).alloc (.cells #[.int .u64 0, .int .u64 0, .int .u64 0, .int .u64 0, .int .u64 0] 212)) 0 0 0 0 0 212
  have B3 := ab (ab (ab (ab (Below.refl _ w) (.cells #[.int .u64 a, .int .u64 b, .int .u64 c, .int .u64 d, .int .u64 e] 212)) (.cells #[.int .u64 r, .int .u64 s, .int .u64 t, .int .u64 u, .int .u64 v] 212)) (.cells #[.int .u64 0, .int .u64 0, .int .u64 0, .int .u64 0, .int .u64 0] 212)) (.cells #[.int .u64 0, .int .u64 0, .int .u64 0, .int .u64 0, .int .u64 0] 212)
  have o3 := (o1.below (ab (Below.refl _ _) (.cells #[.int .u64 0, .int .u64 0, .int .u64 0, .int .u64 0, .int .u64 0] 212)) (by simp)).below (ab (Below.refl _ _) (.cells #[.int .u64 0, .int .u64 0, .int .u64 0, .int .u64 0, .int .u64 0] 212)) (by simp)
  have r3 := p2.below (ab (Below.refl _ _) (.cells #[.int .u64 0, .int .u64 0, .int .u64 0, .int .u64 0, .int .u64 0] 212)) (by simp)
  simp only [World.size_alloc] at o3 r3 p3
  clear hin hio hp hH hR o1 p2
  go_enter Tryz.func222, Tryz.ntmps222
  go_wp2
  generalize hW1 : (((w.alloc (.cells #[.int .u64 a, .int .u64 b, .int .u64 c, .int .u64 d, .int .u64 e] 212)).alloc (.cells #[.int .u64 r, .int .u64 s, .int .u64 t, .int .u64 u, .int .u64 v] 212)).alloc (.cells #[.int .u64 0, .int .u64 0, .int .u64 0, .int .u64 0, .int .u64 0] 212)).alloc (.cells #[.int .u64 0, .int .u64 0, .int .u64 0, .int .u64 0, .int .u64 0] 212) = W1 at *
  have z1 : w.heap.size + 4 ≤ W1.heap.size := by rw [← hW1]; simp
  clear hW1
  have p4 : KOw .u64 W1 (w.heap.size + 1 + 1 + 1) (mulTo [a, b, c, d, e] [r, s, t, u, v] 0) := p3
  go_loopw [11] (fun i wr => ∃ k : Nat, k ≤ 5 ∧ i = .int .i64 (k : Int) ∧ KOw .u64 wr (w.heap.size + 1 + 1 + 1) (mulTo [a, b, c, d, e] [r, s, t, u, v] k) ∧ But (w.heap.size + 1 + 1 + 1) W1.heap.size W1 wr) (fun i _ => 5 - (intOf i).toNat)
  case atStart => exact ⟨0, by omega, rfl, p4, But.refl _ _ _⟩
  case round =>
    clear p3 p4
    obtain ⟨i, hi, rfl, hv, hbut⟩ := hrel
    have o4 := o3.keep (hbut.block _ (by omega) (by omega)) hbut.size
    by_cases hlt : i < 5
    · obtain ⟨wh, rfl⟩ : ∃ x, x = wr := ⟨_, rfl⟩
      have Hn : Shut (mulTo [a, b, c, d, e] [r, s, t, u, v] (i + 1) = mulRow [a, b, c, d, e] [r, s, t, u, v] (mulTo [a, b, c, d, e] [r, s, t, u, v] i) i 5) := ⟨rfl⟩
      have hu := Hu.out i
      have hni := HIN.out i hlt
      generalize mulTo [a, b, c, d, e] [r, s, t, u, v] i = L at *
      have Hr : Shut (∀ k, Upto (mulRow [a, b, c, d, e] [r, s, t, u, v] L i k) (450359962737049600 * (i : Int) + 90071992547409920 * (k : Int))) := ⟨fun k => upto_row hu Hp.out i k⟩
      have Hst : Shut (∀ k, mulRow [a, b, c, d, e] [r, s, t, u, v] L i (k + 1) = mulStep [a, b, c, d, e] [r, s, t, u, v] (mulRow [a, b, c, d, e] [r, s, t, u, v] L i k) i k) := ⟨fun _ => rfl⟩
      have hv0 : KOw .u64 wh (w.heap.size + 1 + 1 + 1) (mulRow [a, b, c, d, e] [r, s, t, u, v] L i 0) := hv
      have Hx := Shut.mk (fun k => Hp.out i k)
      have hX0 := HHb.out i
      obtain ⟨X, hX⟩ : ∃ X, X = [a, b, c, d, e].getD i 0 := ⟨_, rfl⟩
      rw [← hX] at hni hX0
      have HX := Shut.mk hX
      clear hu hv hX
      obtain ⟨q0, q1, q2, q3, q4, _⟩ := o4.full5
      have hi6 : (i : Int) < 5 := by omega
      have hd : decide ((i : Int) < 5) = true := by simp; omega
      go_wp2
      clear q0 q1 q2 q3 q4
      go_loopw [16] (fun j wq => ∃ k : Nat, k ≤ 5 ∧ j = .int .i64 (k : Int) ∧ KOw .u64 wq (w.heap.size + 1 + 1 + 1) (mulRow [a, b, c, d, e] [r, s, t, u, v] L i k) ∧ But (w.heap.size + 1 + 1 + 1) W1.heap.size W1 wq) (fun i _ => 5 - (intOf i).toNat)
      case atStart => exact ⟨0, by omega, rfl, hv0, hbut⟩
      case round =>
        clear hv0 hbut
        obtain ⟨k, hk5, rfl, hv, hbut⟩ := hrel
        by_cases hlk : k < 5
        · have hs := Hst.out k
          have hu := Hr.out k
          have hnk := HIO.out k hlk
          generalize mulRow [a, b, c, d, e] [r, s, t, u, v] L i k = L2 at *
          have hx := Hx.out k
          have hb := hu.bd ((i + k) % 5)
          have q0 := hv.cell ((i + k) % 5) (by rw [hu.len]; omega)
          have f0 := hv.frozen ((i + k) % 5)
          unfold mulStep mulTerm at hs
          rw [← HX.out] at hs hx
          have hset := fun x => hv.set_ ((i + k) % 5) (by rw [hu.len]; omega) x
          clear hu
          generalize [r, s, t, u, v].getD k 0 = Y at *
          generalize L2.getD ((i + k) % 5) 0 = Zc at *
          obtain ⟨P, hP⟩ : ∃ P, X * Y = P := ⟨_, rfl⟩
          rw [hP] at hx hs
          have hxy : IntKind.u64.wrap (X * Y) = P := by rw [hP]; exact IntWalk.u64_in _ (by omega)
          have h5y : IntKind.u64.wrap (5 * X * Y) = 5 * P := by rw [Int.mul_assoc, hP]; exact IntWalk.u64_in _ (by omega)
          have h5x : IntKind.u64.wrap (5 * X) = 5 * X := IntWalk.u64_in _ (by omega)
          clear hP
          have Hs := Shut.mk hs
          clear hs Hr Hst Hp Hu Hn
          have hk6 : (k : Int) < 5 := by omega
          by_cases h5 : 5 ≤ i + k
          · have hm : (i + k) % 5 = i + k - 5 := by omega
            rw [if_pos h5, hm] at Hs
            rw [hm] at q0 f0
            rw [show (i + k) % 5 = i + k - 5 from hm] at hset
            obtain ⟨m, hm2⟩ : ∃ m, i + k = m + 5 := ⟨i + k - 5, by omega⟩
            have hm3 : i + k - 5 = m := by omega
            rw [hm3] at q0 f0 hset Hs
            have hm4 : (i : Int) + (k : Int) = (m : Int) + 5 := by omega
            have hik : ¬ (i : Int) + (k : Int) < 5 := by omega
            have hm5 : (m : Int) < 5 := by omega
            clear hm hm2 hm3
            go_wp2
            exact ⟨⟨k + 1, by omega, by go_num, KOw.of_eq Hs.out (hset _), hbut.setCell _ _⟩, by simp [intOf]; omega⟩
          · have hm : (i + k) % 5 = i + k := by omega
            rw [if_neg h5, hm] at Hs
            rw [hm] at q0 f0 hset
            obtain ⟨m, hm2⟩ : ∃ m, i + k = m := ⟨i + k, rfl⟩
            rw [hm2] at q0 f0 hset Hs
            have hm4 : (i : Int) + (k : Int) = (m : Int) := by omega
            have hik : (m : Int) < 5 := by omega
            clear hm
            go_wp2
            exact ⟨⟨k + 1, by omega, by go_num, KOw.of_eq Hs.out (hset _), hbut.setCell _ _⟩, by simp [intOf]; omega⟩
        · obtain rfl : k = 5 := by omega
          rw [← Hn.out] at hv
          go_wp2
          exact ⟨⟨i + 1, by omega, by go_num, hv, hbut⟩, by simp [intOf]; omega⟩
    · obtain rfl : i = 5 := by omega
      obtain ⟨P0, P1, P2, P3, P4, hP, b0, b1, b2, b3, b4, hval⟩ := Hall.out
      rw [hP] at hv
      have Bw : Below w.heap.size w wr := B3.trans (hbut.below (by omega) (by omega))
      have r4 := r3.keep (hbut.block _ (by omega) (by omega)) hbut.size
      have G := Shut.mk (fun W => least_any P0 P1 P2 P3 P4 W b0 b1 b2 b3 b4)
      rw [hval] at G
      obtain ⟨q0, q1, q2, q3, q4, f0, f1, f2, f3, f4⟩ := hv.full5
      clear hP hval Hall Hu Hp hv hbut o3 o4 HIN HIO HHb r3 B3
      go_wp2_with fail
      refine (G.out _).mono ?_
      rintro x w2 ⟨⟨D0, D1, D2, D3, D4, rfl, hD⟩, bb⟩
      have r5 := r4.below bb r4.lt
      have B5 := ac Bw bb
      have HD := Shut.mk hD
      clear hD G q0 q1 q2 q3 q4 f0 f1 f2 f3 f4
      obtain ⟨p0, p1, p2, p3, p4, g0, g1, g2, g3, g4⟩ := r5.full5
      go_wp2
      have r10 := set5 rfl r5 D0 D1 D2 D3 D4
      have b9 := below5 B5 (show w.heap.size ≤ w.heap.size + 1 + 1 by omega) (.int .u64 D0) (.int .u64 D1) (.int .u64 D2) (.int .u64 D3) (.int .u64 D4)
      clear p0 p1 p2 p3 p4 g0 g1 g2 g3 g4
      generalize World.setCell _ ⟨w.heap.size + 1 + 1, 4, none⟩ _ = W9 at *
      obtain ⟨c0, c1, c2, c3, c4, _⟩ := r10.full5
      exact bodyPost_ret (v := .agg #[.int .u64 D0, .int .u64 D1, .int .u64 D2, .int .u64 D3, .int .u64 D4]) (by simp [results, Tryz.results222, go_sem, c0, c1, c2, c3, c4]) rfl ⟨⟨_, _, _, _, _, rfl, HD.out⟩, b9⟩
end Go.Proofs.YtabhcolfkkfonaaGreatDoor

/-! TagP -/
/- The sixteen lowest bytes of five limbs, of the program (gen_tag.py). -/
namespace Go.Proofs.YtabhcolfkkfonaaGreatDoor
open Go.RowKit

set_option maxRecDepth 100000 in
set_option maxHeartbeats 1000000 in
/-- slices.Clone of sixteen bytes -/
theorem clone_any (b off c : Nat) (l : List Int) (w : World) (h : Bs w (some ⟨b, off, none⟩) 16 l) :
    Calls Tryz.prog 135 #[.slice (some ⟨b, off, none⟩) 16 c] w fun e w' => (∃ g c', e = .returned (.slice (some ⟨g, 0, none⟩) 16 c') ∧ Row w' w.heap.size (.slice (some ⟨g, 0, none⟩) 16 c') l) ∧ Below w.heap.size w w' := by
  have q22 : ∀ (w : World) (a : Option Addr) (n c n' c' : Nat), (binOp .eql 22 (.slice a n c) (.slice none n' c')).run Tryz.prog w = .ok (.bool a.isNone) w := fun w a n c n' c' => Lib.run_eql_slice_nil w _ _ a n c n' c' Tryz.underlying22
  have e0 : Row (w.alloc (.cells #[] 5)) w.heap.size (.slice (some ⟨w.heap.size, 0, none⟩) 0 0) [] := Row.room w 0 (by omega) _ rfl
  have h1 := h.below (ab (Below.refl _ w) (.cells #[] 5))
  have Hl := Shut.mk h.len
  go_enter Tryz.func135, Tryz.ntmps135
  go_wp2_with (at_builtin; refine wpList_row_join rfl _ _ rfl _ w.heap.size (.slice (some ⟨w.heap.size, 0, none⟩) 0 0) _ _ rfl e0 (by simp) (some ⟨b, off, none⟩) 16 c rfl h1 (fun e => by cases e) (by simp) ?_; intro v4 w4 hr4 hb4 hs4)
  obtain ⟨A5, c5, rfl, ho⟩ := hr4.ow Hl.out
  obtain ⟨g, rfl, hgB, hgl, hcell, hfz⟩ := ho.at_ (by omega)
  go_ret
  exact ⟨⟨g, c5, rfl, hr4⟩, (ab (Below.refl _ w) _).trans hb4⟩

/-- bytes put over a list's places from at_ on, by or -/
def orTo (L bs : List Int) (at_ : Nat) : Nat → List Int
  | 0 => L
  | k + 1 => (orTo L bs at_ k).set (at_ + k) (bits .or .u8 ((orTo L bs at_ k).getD (at_ + k) 0) (bs.getD k 0))
theorem orTo_len (L bs : List Int) (at_ k : Nat) : (orTo L bs at_ k).length = L.length := by
  induction k with
  | zero => rfl
  | succ k ih => rw [orTo, List.length_set, ih]
def tagTo (l : List Int) : Nat → List Int
  | 0 => List.replicate 17 0
  | k + 1 => orTo (tagTo l k) (lowOf (l.getD k 0 * 2 ^ (26 * k % 8)) 4) (26 * k / 8) 4
theorem tagTo_len (l : List Int) (k : Nat) : (tagTo l k).length = 17 := by
  induction k with
  | zero => rfl
  | succ k ih => rw [tagTo, orTo_len, ih]
theorem or8 (k : Nat) (x y : Nat) (hx : x < 256) (hy : y < 256) (h0 : x < 2 ^ k) (h1 : y % 2 ^ k = 0) : bits .or .u8 (x : Int) (y : Int) = (x : Int) + (y : Int) := by
  rw [u8_or_nat x y hx hy, Nat.or_comm, nat_join k y x h1 h0]
  push_cast
  omega
theorem or8_4 (x y : Int) (hx0 : 0 ≤ x) (hx1 : x < 4) (hy0 : 0 ≤ y) (hy1 : y < 256) (hy : y % 4 = 0) : bits .or .u8 x y = x + y := by
  obtain ⟨x, rfl⟩ := Int.eq_ofNat_of_zero_le hx0
  obtain ⟨y, rfl⟩ := Int.eq_ofNat_of_zero_le hy0
  exact or8 2 x y (by omega) (by omega) (by omega) (by omega)
theorem or8_16 (x y : Int) (hx0 : 0 ≤ x) (hx1 : x < 16) (hy0 : 0 ≤ y) (hy1 : y < 256) (hy : y % 16 = 0) : bits .or .u8 x y = x + y := by
  obtain ⟨x, rfl⟩ := Int.eq_ofNat_of_zero_le hx0
  obtain ⟨y, rfl⟩ := Int.eq_ofNat_of_zero_le hy0
  exact or8 4 x y (by omega) (by omega) (by omega) (by omega)
theorem or8_64 (x y : Int) (hx0 : 0 ≤ x) (hx1 : x < 64) (hy0 : 0 ≤ y) (hy1 : y < 256) (hy : y % 64 = 0) : bits .or .u8 x y = x + y := by
  obtain ⟨x, rfl⟩ := Int.eq_ofNat_of_zero_le hx0
  obtain ⟨y, rfl⟩ := Int.eq_ofNat_of_zero_le hy0
  exact or8 6 x y (by omega) (by omega) (by omega) (by omega)
theorem or8_0 (y : Int) (hy0 : 0 ≤ y) (hy1 : y < 256) : bits .or .u8 0 y = y := by
  obtain ⟨y, rfl⟩ := Int.eq_ofNat_of_zero_le hy0
  have := or8 0 0 y (by omega) (by omega) (by omega) (by omega)
  simpa using this
theorem lowOf_four (n : Int) : lowOf n 4 = [n % 256, n / 256 % 256, n / 65536 % 256, n / 16777216 % 256] := by
  simp [lowOf, List.range, List.range.loop]
theorem tag_bytes (a b c d e : Int) (ha : 0 ≤ a ∧ a < 67108864) (hb : 0 ≤ b ∧ b < 67108864) (hc : 0 ≤ c ∧ c < 67108864) (hd : 0 ≤ d ∧ d < 67108864) :
    (tagTo [a, b, c, d, e] 5).take 16 = lowOf (val5 [a, b, c, d, e]) 16 := by
  have h0 : tagTo [a, b, c, d, e] 5 = orTo (orTo (orTo (orTo (orTo (List.replicate 17 0) (lowOf a 4) 0 4) (lowOf (b * 4) 4) 3 4) (lowOf (c * 16) 4) 6 4) (lowOf (d * 64) 4) 9 4) (lowOf e 4) 13 4 := by
    simp [tagTo]
  rw [h0]
  simp only [lowOf_four]
  simp only [orTo, List.replicate, List.set_cons_zero, List.set_cons_succ, List.getD_cons_zero, List.getD_cons_succ, Nat.reduceAdd, Nat.add_zero, Nat.zero_add]
  simp (disch := omega) only [or8_0]
  rw [or8_4 (a / 16777216 % 256) (b * 4 % 256) (by omega) (by omega) (by omega) (by omega) (by omega), or8_16 (b * 4 / 16777216 % 256) (c * 16 % 256) (by omega) (by omega) (by omega) (by omega) (by omega), or8_64 (c * 16 / 16777216 % 256) (d * 64 % 256) (by omega) (by omega) (by omega) (by omega) (by omega)]
  have l16 : ∀ n : Int, lowOf n 16 = [n % 256, n / 256 % 256, n / 65536 % 256, n / 16777216 % 256, n / 4294967296 % 256, n / 1099511627776 % 256, n / 281474976710656 % 256, n / 72057594037927936 % 256, n / 18446744073709551616 % 256, n / 4722366482869645213696 % 256, n / 1208925819614629174706176 % 256, n / 309485009821345068724781056 % 256, n / 79228162514264337593543950336 % 256, n / 20282409603651670423947251286016 % 256, n / 5192296858534827628530496329220096 % 256, n / 1329227995784915872903807060280344576 % 256] := fun n => by
    simp [lowOf, List.range, List.range.loop]
  rw [l16]
  simp only [List.take_succ_cons, List.take_zero, List.cons.injEq, and_true, val5, List.getD_cons_zero, List.getD_cons_succ]
  refine ⟨?_, ?_, ?_, ?_, ?_, ?_, ?_, ?_, ?_, ?_, ?_, ?_, ?_, ?_, ?_, ?_⟩ <;> omega
theorem KB.bs_take {t : TypeId} {w : World} {g : Nat} {L r : List Int} (h : KB .u8 t w g L) (e : L.take 16 = r) (hr : By r) (hl : 16 ≤ L.length) : Bs w (some ⟨g, 0, none⟩) 16 r := by
  subst e
  refine ⟨by rw [List.length_take]; omega, hr, fun hp => ⟨g, 0, rfl, h.lt, fun i hi => ?_⟩⟩
  rw [Nat.zero_add, h.cell (by omega)]
  simp [List.getD, List.getElem?_take_of_lt hi]
theorem KB.of_eq {k : IntKind} {t : TypeId} {w : World} {b : Nat} {l l' : List Int} (e : l = l') (h : KB k t w b l') : KB k t w b l := e ▸ h

set_option maxRecDepth 100000 in
set_option maxHeartbeats 8000000 in
theorem tag_any (a b c d e : Int) (w : World) (ha : 0 ≤ a ∧ a < 67108864) (hb : 0 ≤ b ∧ b < 67108864) (hc : 0 ≤ c ∧ c < 67108864) (hd : 0 ≤ d ∧ d < 67108864) (he : 0 ≤ e ∧ e < 67108864) :
    Calls Tryz.prog 224 #[.agg #[.int .u64 a, .int .u64 b, .int .u64 c, .int .u64 d, .int .u64 e]] w fun r w' =>
      (∃ g c', r = .returned (.slice (some ⟨g, 0, none⟩) 16 c') ∧ Row w' w.heap.size (.slice (some ⟨g, 0, none⟩) 16 c') (lowOf (val5 [a, b, c, d, e]) 16)) ∧ Below w.heap.size w w' := by
  have HT := Shut.mk (tag_bytes a b c d e ha hb hc hd)
  have HL := Shut.mk (tagTo_len [a, b, c, d, e])
  have HS : Shut (∀ k, tagTo [a, b, c, d, e] (k + 1) = orTo (tagTo [a, b, c, d, e] k) (lowOf ([a, b, c, d, e].getD k 0 * 2 ^ (26 * k % 8)) 4) (26 * k / 8) 4) := ⟨fun _ => rfl⟩
  have k1 : KB .u8 240 ((w.alloc (.cells #[.int .u64 a, .int .u64 b, .int .u64 c, .int .u64 d, .int .u64 e] 212)).alloc (.cells #[.int .u8 0, .int .u8 0, .int .u8 0, .int .u8 0, .int .u8 0, .int .u8 0, .int .u8 0, .int .u8 0, .int .u8 0, .int .u8 0, .int .u8 0, .int .u8 0, .int .u8 0, .int .u8 0, .int .u8 0, .int .u8 0, .int .u8 0] 240)) (w.heap.size + 1) (tagTo [a, b, c, d, e] 0) := by
    have := KB.new (k := .u8) (t := 240) (w.alloc (.cells #[.int .u64 a, .int .u64 b, .int .u64 c, .int .u64 d, .int .u64 e] 212)) (List.replicate 17 0) #[.int .u8 0, .int .u8 0, .int .u8 0, .int .u8 0, .int .u8 0, .int .u8 0, .int .u8 0, .int .u8 0, .int .u8 0, .int .u8 0, .int .u8 0, .int .u8 0, .int .u8 0, .int .u8 0, .int .u8 0, .int .u8 0, .int .u8 0] rfl
    rwa [World.size_alloc] at this
  have B1 := ab (ab (Below.refl _ w) (.cells #[.int .u64 a, .int .u64 b, .int .u64 c, .int .u64 d, .int .u64 e] 212)) (.cells #[.int .u8 0, .int .u8 0, .int .u8 0, .int .u8 0, .int .u8 0, .int .u8 0, .int .u8 0, .int .u8 0, .int .u8 0, .int .u8 0, .int .u8 0, .int .u8 0, .int .u8 0, .int .u8 0, .int .u8 0, .int .u8 0, .int .u8 0] 240)
  go_enter Tryz.func224, Tryz.ntmps224
  go_wp2
  generalize hW : (w.alloc (.cells #[.int .u64 a, .int .u64 b, .int .u64 c, .int .u64 d, .int .u64 e] 212)).alloc (.cells #[.int .u8 0, .int .u8 0, .int .u8 0, .int .u8 0, .int .u8 0, .int .u8 0, .int .u8 0, .int .u8 0, .int .u8 0, .int .u8 0, .int .u8 0, .int .u8 0, .int .u8 0, .int .u8 0, .int .u8 0, .int .u8 0, .int .u8 0] 240) = W1 at *
  clear hW
  go_loopw [11] (fun i wr => ∃ k : Nat, k ≤ 5 ∧ i = .int .i64 (k : Int) ∧ KB .u8 240 wr (w.heap.size + 1) (tagTo [a, b, c, d, e] k) ∧ Below w.heap.size w wr) (fun i _ => 5 - (intOf i).toNat)
  case atStart => exact ⟨0, by omega, rfl, k1, B1⟩
  case round =>
    clear k1 B1
    obtain ⟨k, hk, rfl, hw, hB⟩ := hrel
    obtain ⟨i0, i1, i2, i3, i4⟩ := idx5s a b c d e wr
    by_cases hlk : k < 5
    · have e5 : k = 0 ∨ k = 1 ∨ k = 2 ∨ k = 3 ∨ k = 4 := by omega
      rcases e5 with rfl | rfl | rfl | rfl | rfl
      · have hs : tagTo [a, b, c, d, e] 1 = orTo (tagTo [a, b, c, d, e] 0) (lowOf a 4) 0 4 := by rw [HS.out]; simp
        have Hs := Shut.mk hs
        have hl := HL.out 0
        clear hs
        generalize tagTo [a, b, c, d, e] 0 = L at *
        go_wp2_with fail
        refine (spreadLowW_any a 4 _ (by omega)).mono ?_
        rintro r w2 ⟨rfl, hblk, b2⟩
        have hw2 := hw.below b2 hw.lt
        have B2 := ac hB b2
        have hgl := hw.lt
        have hlo := Shut.mk (lowOf_len a 4)
        generalize lowOf a 4 = Q at *
        have hw3 : KB .u8 240 w2 (w.heap.size + 1) (orTo L Q 0 0) := hw2
        clear hw hw2 b2 hB
        go_wp2
        obtain ⟨m, hm⟩ : ∃ m, m = wr.heap.size := ⟨_, rfl⟩
        have hmne : ¬ m = w.heap.size + 1 := by omega
        rw [← hm] at hblk ⊢
        clear hm hgl
        obtain ⟨wh, rfl⟩ : ∃ x, x = w2 := ⟨_, rfl⟩
        go_loopw [27] (fun j wq => ∃ k : Nat, k ≤ 4 ∧ j = .int .i64 (k : Int) ∧ KB .u8 240 wq (w.heap.size + 1) (orTo L Q 0 k) ∧ Blk wq m Q ∧ Below w.heap.size w wq) (fun i _ => 4 - (intOf i).toNat)
        case atStart => exact ⟨0, by omega, rfl, hw3, hblk, B2⟩
        case round =>
          clear hw3 hblk B2
          obtain ⟨k, hk4, rfl, hw, hblk, hB⟩ := hrel
          have hol := orTo_len L Q 0 k
          rw [hl] at hol
          by_cases hlk4 : k < 4
          · have q0 := hw.cell (i := 0 + k) (by omega)
            have f0 := hw.frozen (0 + k)
            have q1 := hblk.cell (i := k) (by rw [hlo.out]; omega)
            have Hst : Shut (orTo L Q 0 (k + 1) = (orTo L Q 0 k).set (0 + k) (bits .or .u8 ((orTo L Q 0 k).getD (0 + k) 0) (Q.getD k 0))) := ⟨rfl⟩
            have hset := fun x => hw.set_ (0 + k) x
            simp only [Nat.zero_add] at q0 f0 hset Hst
            generalize (orTo L Q 0 k).getD k 0 = X at *
            generalize Q.getD k 0 = Y at *
            have Hol := Shut.mk hol
            have i1 : (k : Int) < 17 := by omega
            have i2 : (k : Int) < 4 := by omega
            clear hol
            go_wp2
            exact ⟨⟨k + 1, by omega, by go_num, KB.of_eq Hst.out (hset _), hblk.keep (Below.heap_setCell _ _ _ _ (by simpa using hmne)), hB.setCell (by simp) _⟩, by simp [intOf]; omega⟩
          · obtain rfl : k = 4 := by omega
            have hw4 := KB.of_eq Hs.out hw
            clear hw hol
            go_wp2
            exact ⟨⟨1, by omega, by go_num, hw4, hB⟩, by simp [intOf]⟩
      · have hs : tagTo [a, b, c, d, e] 2 = orTo (tagTo [a, b, c, d, e] 1) (lowOf (b * 4) 4) 3 4 := by rw [HS.out]; simp
        have Hs := Shut.mk hs
        have hl := HL.out 1
        clear hs
        generalize tagTo [a, b, c, d, e] 1 = L at *
        go_wp2_with fail
        refine (spreadLowW_any (b * 4) 4 _ (by omega)).mono ?_
        rintro r w2 ⟨rfl, hblk, b2⟩
        have hw2 := hw.below b2 hw.lt
        have B2 := ac hB b2
        have hgl := hw.lt
        have hlo := Shut.mk (lowOf_len (b * 4) 4)
        generalize lowOf (b * 4) 4 = Q at *
        have hw3 : KB .u8 240 w2 (w.heap.size + 1) (orTo L Q 3 0) := hw2
        clear hw hw2 b2 hB
        go_wp2
        obtain ⟨m, hm⟩ : ∃ m, m = wr.heap.size := ⟨_, rfl⟩
        have hmne : ¬ m = w.heap.size + 1 := by omega
        rw [← hm] at hblk ⊢
        clear hm hgl
        obtain ⟨wh, rfl⟩ : ∃ x, x = w2 := ⟨_, rfl⟩
        go_loopw [27] (fun j wq => ∃ k : Nat, k ≤ 4 ∧ j = .int .i64 (k : Int) ∧ KB .u8 240 wq (w.heap.size + 1) (orTo L Q 3 k) ∧ Blk wq m Q ∧ Below w.heap.size w wq) (fun i _ => 4 - (intOf i).toNat)
        case atStart => exact ⟨0, by omega, rfl, hw3, hblk, B2⟩
        case round =>
          clear hw3 hblk B2
          obtain ⟨k, hk4, rfl, hw, hblk, hB⟩ := hrel
          have hol := orTo_len L Q 3 k
          rw [hl] at hol
          by_cases hlk4 : k < 4
          · have q0 := hw.cell (i := 3 + k) (by omega)
            have f0 := hw.frozen (3 + k)
            have q1 := hblk.cell (i := k) (by rw [hlo.out]; omega)
            have Hst : Shut (orTo L Q 3 (k + 1) = (orTo L Q 3 k).set (3 + k) (bits .or .u8 ((orTo L Q 3 k).getD (3 + k) 0) (Q.getD k 0))) := ⟨rfl⟩
            have hset := fun x => hw.set_ (3 + k) x
            generalize (orTo L Q 3 k).getD (3 + k) 0 = X at *
            generalize Q.getD k 0 = Y at *
            have Hol := Shut.mk hol
            have i1 : (3 : Int) + (k : Int) < 17 := by omega
            have n1 : ((3 : Int) + (k : Int)).toNat = 3 + k := by omega
            have i2 : (k : Int) < 4 := by omega
            clear hol
            go_wp2
            exact ⟨⟨k + 1, by omega, by go_num, KB.of_eq Hst.out (hset _), hblk.keep (Below.heap_setCell _ _ _ _ (by simpa using hmne)), hB.setCell (by simp) _⟩, by simp [intOf]; omega⟩
          · obtain rfl : k = 4 := by omega
            have hw4 := KB.of_eq Hs.out hw
            clear hw hol
            go_wp2
            exact ⟨⟨2, by omega, by go_num, hw4, hB⟩, by simp [intOf]⟩
      · have hs : tagTo [a, b, c, d, e] 3 = orTo (tagTo [a, b, c, d, e] 2) (lowOf (c * 16) 4) 6 4 := by rw [HS.out]; simp
        have Hs := Shut.mk hs
        have hl := HL.out 2
        clear hs
        generalize tagTo [a, b, c, d, e] 2 = L at *
        go_wp2_with fail
        refine (spreadLowW_any (c * 16) 4 _ (by omega)).mono ?_
        rintro r w2 ⟨rfl, hblk, b2⟩
        have hw2 := hw.below b2 hw.lt
        have B2 := ac hB b2
        have hgl := hw.lt
        have hlo := Shut.mk (lowOf_len (c * 16) 4)
        generalize lowOf (c * 16) 4 = Q at *
        have hw3 : KB .u8 240 w2 (w.heap.size + 1) (orTo L Q 6 0) := hw2
        clear hw hw2 b2 hB
        go_wp2
        obtain ⟨m, hm⟩ : ∃ m, m = wr.heap.size := ⟨_, rfl⟩
        have hmne : ¬ m = w.heap.size + 1 := by omega
        rw [← hm] at hblk ⊢
        clear hm hgl
        obtain ⟨wh, rfl⟩ : ∃ x, x = w2 := ⟨_, rfl⟩
        go_loopw [27] (fun j wq => ∃ k : Nat, k ≤ 4 ∧ j = .int .i64 (k : Int) ∧ KB .u8 240 wq (w.heap.size + 1) (orTo L Q 6 k) ∧ Blk wq m Q ∧ Below w.heap.size w wq) (fun i _ => 4 - (intOf i).toNat)
        case atStart => exact ⟨0, by omega, rfl, hw3, hblk, B2⟩
        case round =>
          clear hw3 hblk B2
          obtain ⟨k, hk4, rfl, hw, hblk, hB⟩ := hrel
          have hol := orTo_len L Q 6 k
          rw [hl] at hol
          by_cases hlk4 : k < 4
          · have q0 := hw.cell (i := 6 + k) (by omega)
            have f0 := hw.frozen (6 + k)
            have q1 := hblk.cell (i := k) (by rw [hlo.out]; omega)
            have Hst : Shut (orTo L Q 6 (k + 1) = (orTo L Q 6 k).set (6 + k) (bits .or .u8 ((orTo L Q 6 k).getD (6 + k) 0) (Q.getD k 0))) := ⟨rfl⟩
            have hset := fun x => hw.set_ (6 + k) x
            generalize (orTo L Q 6 k).getD (6 + k) 0 = X at *
            generalize Q.getD k 0 = Y at *
            have Hol := Shut.mk hol
            have i1 : (6 : Int) + (k : Int) < 17 := by omega
            have n1 : ((6 : Int) + (k : Int)).toNat = 6 + k := by omega
            have i2 : (k : Int) < 4 := by omega
            clear hol
            go_wp2
            exact ⟨⟨k + 1, by omega, by go_num, KB.of_eq Hst.out (hset _), hblk.keep (Below.heap_setCell _ _ _ _ (by simpa using hmne)), hB.setCell (by simp) _⟩, by simp [intOf]; omega⟩
          · obtain rfl : k = 4 := by omega
            have hw4 := KB.of_eq Hs.out hw
            clear hw hol
            go_wp2
            exact ⟨⟨3, by omega, by go_num, hw4, hB⟩, by simp [intOf]⟩
      · have hs : tagTo [a, b, c, d, e] 4 = orTo (tagTo [a, b, c, d, e] 3) (lowOf (d * 64) 4) 9 4 := by rw [HS.out]; simp
        have Hs := Shut.mk hs
        have hl := HL.out 3
        clear hs
        generalize tagTo [a, b, c, d, e] 3 = L at *
        go_wp2_with fail
        refine (spreadLowW_any (d * 64) 4 _ (by omega)).mono ?_
        rintro r w2 ⟨rfl, hblk, b2⟩
        have hw2 := hw.below b2 hw.lt
        have B2 := ac hB b2
        have hgl := hw.lt
        have hlo := Shut.mk (lowOf_len (d * 64) 4)
        generalize lowOf (d * 64) 4 = Q at *
        have hw3 : KB .u8 240 w2 (w.heap.size + 1) (orTo L Q 9 0) := hw2
        clear hw hw2 b2 hB
        go_wp2
        obtain ⟨m, hm⟩ : ∃ m, m = wr.heap.size := ⟨_, rfl⟩
        have hmne : ¬ m = w.heap.size + 1 := by omega
        rw [← hm] at hblk ⊢
        clear hm hgl
        obtain ⟨wh, rfl⟩ : ∃ x, x = w2 := ⟨_, rfl⟩
        go_loopw [27] (fun j wq => ∃ k : Nat, k ≤ 4 ∧ j = .int .i64 (k : Int) ∧ KB .u8 240 wq (w.heap.size + 1) (orTo L Q 9 k) ∧ Blk wq m Q ∧ Below w.heap.size w wq) (fun i _ => 4 - (intOf i).toNat)
        case atStart => exact ⟨0, by omega, rfl, hw3, hblk, B2⟩
        case round =>
          clear hw3 hblk B2
          obtain ⟨k, hk4, rfl, hw, hblk, hB⟩ := hrel
          have hol := orTo_len L Q 9 k
          rw [hl] at hol
          by_cases hlk4 : k < 4
          · have q0 := hw.cell (i := 9 + k) (by omega)
            have f0 := hw.frozen (9 + k)
            have q1 := hblk.cell (i := k) (by rw [hlo.out]; omega)
            have Hst : Shut (orTo L Q 9 (k + 1) = (orTo L Q 9 k).set (9 + k) (bits .or .u8 ((orTo L Q 9 k).getD (9 + k) 0) (Q.getD k 0))) := ⟨rfl⟩
            have hset := fun x => hw.set_ (9 + k) x
            generalize (orTo L Q 9 k).getD (9 + k) 0 = X at *
            generalize Q.getD k 0 = Y at *
            have Hol := Shut.mk hol
            have i1 : (9 : Int) + (k : Int) < 17 := by omega
            have n1 : ((9 : Int) + (k : Int)).toNat = 9 + k := by omega
            have i2 : (k : Int) < 4 := by omega
            clear hol
            go_wp2
            exact ⟨⟨k + 1, by omega, by go_num, KB.of_eq Hst.out (hset _), hblk.keep (Below.heap_setCell _ _ _ _ (by simpa using hmne)), hB.setCell (by simp) _⟩, by simp [intOf]; omega⟩
          · obtain rfl : k = 4 := by omega
            have hw4 := KB.of_eq Hs.out hw
            clear hw hol
            go_wp2
            exact ⟨⟨4, by omega, by go_num, hw4, hB⟩, by simp [intOf]⟩
      · have hs : tagTo [a, b, c, d, e] 5 = orTo (tagTo [a, b, c, d, e] 4) (lowOf e 4) 13 4 := by rw [HS.out]; simp
        have Hs := Shut.mk hs
        have hl := HL.out 4
        clear hs
        generalize tagTo [a, b, c, d, e] 4 = L at *
        go_wp2_with fail
        refine (spreadLowW_any e 4 _ (by omega)).mono ?_
        rintro r w2 ⟨rfl, hblk, b2⟩
        have hw2 := hw.below b2 hw.lt
        have B2 := ac hB b2
        have hgl := hw.lt
        have hlo := Shut.mk (lowOf_len e 4)
        generalize lowOf e 4 = Q at *
        have hw3 : KB .u8 240 w2 (w.heap.size + 1) (orTo L Q 13 0) := hw2
        clear hw hw2 b2 hB
        go_wp2
        obtain ⟨m, hm⟩ : ∃ m, m = wr.heap.size := ⟨_, rfl⟩
        have hmne : ¬ m = w.heap.size + 1 := by omega
        rw [← hm] at hblk ⊢
        clear hm hgl
        obtain ⟨wh, rfl⟩ : ∃ x, x = w2 := ⟨_, rfl⟩
        go_loopw [27] (fun j wq => ∃ k : Nat, k ≤ 4 ∧ j = .int .i64 (k : Int) ∧ KB .u8 240 wq (w.heap.size + 1) (orTo L Q 13 k) ∧ Blk wq m Q ∧ Below w.heap.size w wq) (fun i _ => 4 - (intOf i).toNat)
        case atStart => exact ⟨0, by omega, rfl, hw3, hblk, B2⟩
        case round =>
          clear hw3 hblk B2
          obtain ⟨k, hk4, rfl, hw, hblk, hB⟩ := hrel
          have hol := orTo_len L Q 13 k
          rw [hl] at hol
          by_cases hlk4 : k < 4
          · have q0 := hw.cell (i := 13 + k) (by omega)
            have f0 := hw.frozen (13 + k)
            have q1 := hblk.cell (i := k) (by rw [hlo.out]; omega)
            have Hst : Shut (orTo L Q 13 (k + 1) = (orTo L Q 13 k).set (13 + k) (bits .or .u8 ((orTo L Q 13 k).getD (13 + k) 0) (Q.getD k 0))) := ⟨rfl⟩
            have hset := fun x => hw.set_ (13 + k) x
            generalize (orTo L Q 13 k).getD (13 + k) 0 = X at *
            generalize Q.getD k 0 = Y at *
            have Hol := Shut.mk hol
            have i1 : (13 : Int) + (k : Int) < 17 := by omega
            have n1 : ((13 : Int) + (k : Int)).toNat = 13 + k := by omega
            have i2 : (k : Int) < 4 := by omega
            clear hol
            go_wp2
            exact ⟨⟨k + 1, by omega, by go_num, KB.of_eq Hst.out (hset _), hblk.keep (Below.heap_setCell _ _ _ _ (by simpa using hmne)), hB.setCell (by simp) _⟩, by simp [intOf]; omega⟩
          · obtain rfl : k = 4 := by omega
            have hw4 := KB.of_eq Hs.out hw
            clear hw hol
            go_wp2
            exact ⟨⟨5, by omega, by go_num, hw4, hB⟩, by simp [intOf]⟩
    · obtain rfl : k = 5 := by omega
      have hp := hw.bs_take HT.out (lowOf_byte _ _) (by rw [HL.out]; omega)
      go_wp2_with fail
      refine (clone_any _ _ _ _ _ hp).mono ?_
      rintro e w2 ⟨⟨g, c', rfl, hrow⟩, bb⟩
      go_wp2
      go_ret
      exact ⟨⟨g, c', rfl, hrow.mono hB.size⟩, ac hB bb⟩

end Go.Proofs.YtabhcolfkkfonaaGreatDoor

/-! ClampP -/
/- The first half of a key, clamped, of the program. -/
namespace Go.Proofs.YtabhcolfkkfonaaGreatDoor
open Go.RowKit

set_option maxRecDepth 100000 in
set_option maxHeartbeats 4000000 in
theorem clamped_any (b off c : Nat) (L : List Int) (w : World) (hp : Bs w (some ⟨b, off, none⟩) 16 L) :
    Calls Tryz.prog 220 #[.slice (some ⟨b, off, none⟩) 16 c] w fun e w' => (∃ g c', e = .returned (.slice (some ⟨g, 0, none⟩) 16 c') ∧ w.heap.size ≤ g ∧ Ow w' w.heap.size (some ⟨g, 0, none⟩) 16 (clampL L)) ∧ Below w.heap.size w w' := by
  have hL := Shut.mk hp.len
  have hby := Shut.mk hp.byte
  go_enter Tryz.func220, Tryz.ntmps220
  go_wp2_with fail
  refine (clone_any _ _ _ _ _ hp).mono ?_
  rintro e w1 ⟨⟨g, c1, rfl, hrow⟩, hb1⟩
  have how := hrow.ow' hp.len
  obtain ⟨g1, hg0, hgB, hgl, hcell, hfz⟩ := how.at_ (by omega)
  injection hg0 with hg0
  injection hg0 with hg0
  subst hg0
  have k0 : KOw .u8 w1 g (clampA L 0) := ⟨hgl, fun i hi => hcell i (by rw [clampA, hL.out] at hi; exact hi), hfz⟩
  have HF : Shut (clampL L = clampB L 3) := ⟨rfl⟩
  have HB0 : Shut (clampB L 0 = clampA L 4) := ⟨rfl⟩
  have HA : Shut (∀ k, clampA L (k + 1) = (clampA L k).set (4 * k + 3) ((clampA L k).getD (4 * k + 3) 0 % 16)) := ⟨fun _ => rfl⟩
  have HB : Shut (∀ k, clampB L (k + 1) = (clampB L k).set (4 * k + 4) ((clampB L k).getD (4 * k + 4) 0 / 4 * 4)) := ⟨fun _ => rfl⟩
  have BA : Shut (∀ k, By (clampA L k) ∧ (clampA L k).length = 16) := ⟨fun k => ⟨clampA_byte L hby.out k, (clampA_len L k).trans hL.out⟩⟩
  have BB : Shut (∀ k, By (clampB L k) ∧ (clampB L k).length = 16) := ⟨fun k => ⟨clampB_byte L hby.out k, (clampB_len L k).trans hL.out⟩⟩
  clear hrow how hcell hfz hp
  go_wp2
  have hq : KB .i64 3 (w1.alloc (.cells #[.int .i64 3, .int .i64 7, .int .i64 11, .int .i64 15] 3)) w1.heap.size [3, 7, 11, 15] := KB.new w1 _ _ rfl
  have k1 := k0.alloc (.cells #[.int .i64 3, .int .i64 7, .int .i64 11, .int .i64 15] 3)
  have B1 : Below w.heap.size w (w1.alloc (.cells #[.int .i64 3, .int .i64 7, .int .i64 11, .int .i64 15] 3)) := ab hb1 _
  generalize hW : w1.alloc (.cells #[.int .i64 3, .int .i64 7, .int .i64 11, .int .i64 15] 3) = W at *
  have hWs : W.heap.size = w1.heap.size + 1 := by rw [← hW, World.size_alloc]
  have hWs' : w1.heap.size < W.heap.size := by omega
  have hgW : g < W.heap.size := by omega
  have hgq : w1.heap.size ≠ g := by omega
  clear hWs hW
  go_loopw [12] (fun i wr => ∃ k : Nat, k ≤ 4 ∧ i = .int .i64 (k : Int) ∧ KOw .u8 wr g (clampA L k) ∧ But g W.heap.size W wr) (fun i _ => 4 - (intOf i).toNat)
  case atStart => exact ⟨0, by omega, rfl, k1, But.refl _ _ _⟩
  case round =>
    clear k0 k1
    obtain ⟨k, hk, rfl, hv, hbut⟩ := hrel
    by_cases hlk : k < 4
    · have hs := HA.out k
      obtain ⟨hby, hlen⟩ := BA.out k
      have hx := hby.get (4 * k + 3)
      have q1 := hv.cell (4 * k + 3) (by omega)
      have q2 := (hq.keep (hbut.block _ hWs' hgq)).cell (i := k) (by simpa using hlk)
      have f1 := hv.frozen (4 * k + 3)
      have hset := fun x => hv.set_ (4 * k + 3) (by omega) x
      generalize (clampA L k).getD (4 * k + 3) 0 = X at *
      have Hs := Shut.mk hs
      have a15 := and15 X hx.1 hx.2
      clear hs HA BA BB HB
      have e : k = 0 ∨ k = 1 ∨ k = 2 ∨ k = 3 := by omega
      rcases e with rfl | rfl | rfl | rfl
      all_goals
        simp at q1 q2 f1
        go_wp2
        refine ⟨⟨_, by omega, ?_, KOw.of_eq Hs.out (hset _), hbut.setCell _ _⟩, by simp [intOf]⟩
        rfl
    · obtain rfl : k = 4 := by omega
      have hv1 : KOw .u8 wr g (clampB L 0) := KOw.of_eq HB0.out hv
      obtain ⟨wh, rfl⟩ : ∃ x, x = wr := ⟨_, rfl⟩
      have hsz := hbut.size
      have B2 : Below w.heap.size w wh := B1.trans (hbut.below (by omega) (by omega))
      clear hv hq hbut HA BA HB0 B1 hb1
      go_wp2
      have hq : KB .i64 3 (wh.alloc (.cells #[.int .i64 4, .int .i64 8, .int .i64 12] 3)) wh.heap.size [4, 8, 12] := KB.new wh _ _ rfl
      have k1 := hv1.alloc (.cells #[.int .i64 4, .int .i64 8, .int .i64 12] 3)
      have B3 : Below w.heap.size w (wh.alloc (.cells #[.int .i64 4, .int .i64 8, .int .i64 12] 3)) := ab B2 _
      generalize hV : wh.alloc (.cells #[.int .i64 4, .int .i64 8, .int .i64 12] 3) = V at *
      have hVs : V.heap.size = wh.heap.size + 1 := by rw [← hV, World.size_alloc]
      have hVs' : wh.heap.size < V.heap.size := by omega
      have hgV : g < V.heap.size := by omega
      have hgq2 : wh.heap.size ≠ g := by omega
      clear hVs hV
      simp only [Int.cast_ofNat_Int]
      go_loopw [25] (fun i wr => ∃ k : Nat, k ≤ 3 ∧ i = .int .i64 (k : Int) ∧ KOw .u8 wr g (clampB L k) ∧ But g V.heap.size V wr) (fun i _ => 3 - (intOf i).toNat)
      case atStart => exact ⟨0, by omega, rfl, k1, But.refl _ _ _⟩
      case round =>
        clear hv1 k1
        obtain ⟨k, hk3, rfl, hv, hbut⟩ := hrel
        by_cases hlk : k < 3
        · have hs := HB.out k
          obtain ⟨hby, hlen⟩ := BB.out k
          have hx := hby.get (4 * k + 4)
          have q1 := hv.cell (4 * k + 4) (by omega)
          have q2 := (hq.keep (hbut.block _ hVs' hgq2)).cell (i := k) (by simpa using hlk)
          have f1 := hv.frozen (4 * k + 4)
          have hset := fun x => hv.set_ (4 * k + 4) (by omega) x
          generalize (clampB L k).getD (4 * k + 4) 0 = X at *
          have Hs := Shut.mk hs
          have a15 := and252 X hx.1 hx.2
          clear hs BB HB
          have e : k = 0 ∨ k = 1 ∨ k = 2 := by omega
          rcases e with rfl | rfl | rfl
          all_goals
            simp at q1 q2 f1
            go_wp2
            refine ⟨⟨_, by omega, ?_, KOw.of_eq Hs.out (hset _), hbut.setCell _ _⟩, by simp [intOf]⟩
            rfl
        · obtain rfl : k = 3 := by omega
          have hb16 := BB.out 3
          rw [← HF.out] at hb16 hv
          go_wp2
          go_ret
          refine ⟨⟨g, _, rfl, by omega, hb16.2, hb16.1, fun _ => ⟨g, rfl, by omega, hv.lt, fun i hi => hv.cell i (by rw [hb16.2]; exact hi), hv.frozen⟩⟩, B3.trans (hbut.below (by omega) (by omega))⟩
end Go.Proofs.YtabhcolfkkfonaaGreatDoor
