/- The bytes of an ideal wire, of the model. -/
import Derived.Test.YtgmbofoneeagiaaDoorIdlC
import Derived.Deep.CutRange
import Derived.Deep.RegionHeld3
namespace Go.Proofs.YtgmbofoneeagiaaDoor
open Go.RowKit

theorem Row.belowI {w w' : World} {B C : Nat} {v : Value} {l : List Int} (h : Row w B v l) (hb : Below C w w') (hC : w.heap.size ≤ C) : Row w' B v l := h.keep (fun g _ h2 => hb.block g (by omega))

set_option linter.unusedVariables false in
set_option maxRecDepth 100000 in
set_option maxHeartbeats 4000000 in
theorem l10Ideal_any (A : Option Addr) (c : Nat) (root : List Int) (side s : Int) (w : World) (h : Bs w A 32 root) (hc : A = none → c = 0) (hd : 0 ≤ side ∧ side < 256) (h0 : 0 ≤ s) (h1 : s ≤ 400) :
    Calls Tryd.prog 14 #[.slice A 32 c, .int .i64 side, .int .i64 s] w fun e w' => (∃ A' c', e = .returned (.slice A' 64 c') ∧ Row w' w.heap.size (.slice A' 64 c') (idealL root side s)) ∧ Below w.heap.size w w' := by
  have C1 := Shut.mk (fun W => l1HighR_any s 4 W h0 (by omega) (by omega))
  have H4 : Shut ((lowOf s 4).reverse = hiI s) := ⟨rfl⟩
  have L4 := Shut.mk (hiI_len s)
  have L0 := Shut.mk h.len
  have FW : Shut ((hiI s ++ hashW ((root ++ [side, 0]) ++ hiI s)) ++ (hashW ((root ++ [side, 1]) ++ hiI s)).take 28 = idealL root side s) := ⟨rfl⟩
  have LW := Shut.mk (idealL_len root side s)
  have cv : side % 256 = side := by omega
  have E0 := Shut.mk (hashW_len ((root ++ [side, 0]) ++ hiI s))
  have E1 := Shut.mk (hashW_len ((root ++ [side, 1]) ++ hiI s))
  generalize idealL root side s = F at *
  generalize hiI s = H at *
  go_enter Tryd.func14, Tryd.ntmps14
  go_wp2_with fail
  refine (C1.out _).mono ?_
  rintro e w1 ⟨⟨A1, c1, rfl, r1⟩, q1⟩
  rw [H4.out] at r1
  have z1 := q1.size
  have hh := h.below q1
  have o1 := (r1.ow' L4.out).bs
  have hb1 := fun (g : Nat) (e : (Value.slice A1 4 c1).ownBlock = some g) => (r1.own.lt g e).2
  go_wp2_with fail
  refine (copyb_any A 32 c root _ (hh.below (Below.refl w1.heap.size w1)) hc (by omega)).mono ?_
  rintro e w2 ⟨⟨A2, c2, rfl, r2⟩, q2⟩
  have B2 := ac (Below.refl w1.heap.size w1) q2
  have y2 := B2.size
  go_wp2_with (at_builtin; first
    | (refine wpList_row_join rfl _ _ rfl _ w1.heap.size (.slice A2 32 c2) root [side, 0] rfl (r2.alloc _) (by have := q2.size; simp; omega) (some ⟨w2.heap.size, 0, none⟩) 2 2 rfl (bs_two w2 side 0 hd (by omega)) (fun e => by cases e) (by rw [L0.out]; omega) ?_; intro v3 w3 r3 q3 z3; obtain ⟨A3, c3, rfl, o3⟩ := r3.ow (n := 34) (by rw [List.length_append, L0.out]; rfl); have B3 := (ab B2 (.cells #[.int .u8 side, .int .u8 0] 5)).trans (q3.mono (by have := (Below.refl w1.heap.size w1).size; omega)))
    | (refine wpList_row_join rfl _ _ rfl _ w1.heap.size (.slice A3 34 c3) (root ++ [side, 0]) H rfl r3 (by have := q2.size; simp only [World.size_alloc] at z3; omega) A1 4 c1 rfl (o1.below B3) r1.cap0 (by rw [List.length_append, L0.out]; simp) ?_; intro v4 w4 r4 q4 z4; obtain ⟨A4, c4, rfl, o4⟩ := r4.ow (n := 38) (by rw [List.length_append, List.length_append, L0.out, L4.out]; rfl); have B4 := B3.trans (q4.mono (by have := (Below.refl w1.heap.size w1).size; omega))))
  refine (l2Hash_any A4 38 c4 _ w4 o4.bs (o4.bs.cap_ (by omega)) (by omega)).mono ?_
  rintro e w5 ⟨⟨A5, c5, rfl, r5⟩, q5⟩
  have B5 := ac B4 q5
  have y5 := B5.size
  go_wp2_with fail
  refine (copyb_any A 32 c root _ (hh.below B5) hc (by omega)).mono ?_
  rintro e w6 ⟨⟨A6, c6, rfl, r6⟩, q6⟩
  have B6 := ac B5 q6
  have y6 := B6.size
  go_wp2_with (at_builtin; first
    | (refine wpList_row_join rfl _ _ rfl _ w5.heap.size (.slice A6 32 c6) root [side, 1] rfl (r6.alloc _) (by have := q6.size; simp; omega) (some ⟨w6.heap.size, 0, none⟩) 2 2 rfl (bs_two w6 side 1 hd (by omega)) (fun e => by cases e) (by rw [L0.out]; omega) ?_; intro v7 w7 r7 q7 z7; obtain ⟨A7, c7, rfl, o7⟩ := r7.ow (n := 34) (by rw [List.length_append, L0.out]; rfl); have B7 := (ab B6 (.cells #[.int .u8 side, .int .u8 1] 5)).trans (q7.mono (by have := B5.size; omega)))
    | (refine wpList_row_join rfl _ _ rfl _ w5.heap.size (.slice A7 34 c7) (root ++ [side, 1]) H rfl r7 (by have := q6.size; simp only [World.size_alloc] at z7; omega) A1 4 c1 rfl (o1.below B7) r1.cap0 (by rw [List.length_append, L0.out]; simp) ?_; intro v8 w8 r8 q8 z8; obtain ⟨A8, c8, rfl, o8⟩ := r8.ow (n := 38) (by rw [List.length_append, List.length_append, L0.out, L4.out]; rfl); have B8 := B7.trans (q8.mono (by have := B5.size; omega))))
  refine (l2Hash_any A8 38 c8 _ w8 o8.bs (o8.bs.cap_ (by omega)) (by omega)).mono ?_
  rintro e w9 ⟨⟨A9, c9, rfl, r9⟩, q9⟩
  have B9 := ac B8 q9
  have y9 := B9.size
  have D7 := (ab q6 (.cells #[.int .u8 side, .int .u8 1] 5)).trans q7
  have D9 := ac (D7.trans q8) q9
  have r19 := (r1.belowI B9 (Nat.le_refl _)).drew
  have r59 := r5.belowI D9 (Nat.le_refl _)
  have o59 := (r59.ow' E0.out).bs.drewN 1
  obtain ⟨g9, rfl, hg9, hg9'⟩ := (r9.ow' E1.out).at_ (by omega)
  have cap9 := r9.cap_
  have k28 : (28 : Int) ≤ (c9 : Int) := by omega
  have o99 := ((r9.ow' E1.out).bs.drewN 1).part_ 0 28 (by omega)
  have T28 : Shut (((hashW ((root ++ [side, 1]) ++ H)).drop 0).take 28 = (hashW ((root ++ [side, 1]) ++ H)).take 28) := ⟨by rw [List.drop_zero]⟩
  rw [T28.out] at o99
  have LT : Shut (((hashW ((root ++ [side, 1]) ++ H)).take 28).length = 28) := ⟨by rw [List.length_take, E1.out]; rfl⟩
  have hz9 : w.heap.size ≤ w9.heap.size := by omega
  have y8 := B8.size
  have hlo : w1.heap.size ≤ g9 := Nat.le_trans y8 hg9
  have hhi := (r9.own.lt g9 rfl).2
  have hne : (Value.slice A1 4 c1).ownBlock ≠ some g9 := fun e => by have := hb1 _ e; omega
  have BW := (q1.trans (B9.mono z1)).drew
  generalize hashW ((root ++ [side, 0]) ++ H) = X5 at *
  generalize (hashW ((root ++ [side, 1]) ++ H)).take 28 = X9 at *
  clear D7 D9 B2 B3 B4 B5 B6 B7 B8 B9 q1 q2 q3 q4 q5 q6 q7 q8 q9 r2 r3 r4 r5 r6 r7 r8 r9 o3 o4 o7 o8 C1
  go_upto_region 4 with fail
  go_region_law (first
    | (refine step_row_joinI rfl _ _ rfl w9.drew w.heap.size (.slice A1 4 c1) H X5 rfl r19 hz9 A5 32 c5 rfl o59 (by omega) (by rw [L4.out]; omega) ?_; intro v10 w10 r10 q10 z10 k10; obtain ⟨A10, c10, rfl, o10⟩ := r10.ow (n := 36) (by rw [List.length_append, L4.out, E0.out]); have o9x := o99.block (k10 g9 hhi hne) z10)
    | (refine step_row_joinI rfl _ _ rfl w10 w.heap.size (.slice A10 36 c10) (H ++ X5) X9 rfl r10 (Nat.le_trans hz9 z10) (some ⟨g9, 0, none⟩) 28 c9 rfl o9x (by omega) (by rw [List.length_append, L4.out, E0.out]; omega) ?_; intro v11 w11 r11 q11 z11 k11; obtain ⟨A11, c11, rfl, o11⟩ := r11.ow (n := 64) (by rw [List.length_append, List.length_append, L4.out, E0.out, LT.out])))
  all_goals
    go_wp2
    go_ret
    rw [FW.out] at r11
    exact ⟨⟨A11, c11, rfl, r11⟩, (BW.trans q10).trans q11⟩
end Go.Proofs.YtgmbofoneeagiaaDoor
