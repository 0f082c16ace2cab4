/- What chapter 6's laws draw: a text, maybe bent. -/
import Derived.Test.YtabhcolfkkfonaaCelD
namespace Go.Proofs.Ytabhcolfkkfonaa
open Go.RowKit

def bentPick : List Int := [0, 1, 2, 33, 255]
theorem bentPick_bd : ∀ x ∈ bentPick, 0 ≤ x ∧ x < 256 := by decide
def cutPick : List Int := [43, 8, 0]
theorem cutPick_bd : ∀ x ∈ cutPick, 0 ≤ x ∧ x ≤ 43 := by decide
def flipPick : List Int := [0, 6, 7, 43]
theorem flipPick_bd : ∀ x ∈ flipPick, 0 ≤ x ∧ x < 44 := by decide

/-- a byte of a row written over -/
theorem Row.setI {w : World} {B g n c : Nat} {l : List Int} (h : Row w B (.slice (some ⟨g, 0, none⟩) n c) l) (i : Nat) {x : Int} (h0 : 0 ≤ x) (h1 : x < 256) :
    Row (w.setCell ⟨g, i, none⟩ (.int .u8 x)) B (.slice (some ⟨g, 0, none⟩) n c) (l.set i x) := by
  refine ⟨fun y hy => ?_, ?_⟩
  · rcases List.mem_or_eq_of_mem_set hy with h2 | rfl
    · exact h.byte y h2
    · exact ⟨h0, h1⟩
  rcases h.own.2 with ⟨e, _⟩ | ⟨g', cap, cur, e, hB, hg, h3, h4, h5, h6⟩
  · injection e with e1; cases e1
  · injection e with e1 e2 e3
    injection e1 with e1
    injection e1 with e1
    subst e1 e2 e3
    refine ⟨by simp, .inr ⟨g, c, cur.setIfInBounds i (.int .u8 x), by rw [List.length_set], hB, ?_, by rw [List.length_set]; exact h3, h4, by simpa using h5, ?_⟩⟩
    · simp [World.setCell, Array.getElem?_modify, hg]
    · rw [Nat.mul_one] at h6 ⊢
      rw [List.length_set, Array.toList_setIfInBounds, List.take_set, h6, List.map_set]

set_option maxHeartbeats 2000000 in
theorem drawDecodeCell_any (A : Option Addr) (n c : Nat) (l : List Int) (w : World) (h : Bs w A n l) (hn : n ≤ 1048576) :
    Calls Try.prog 8 #[.slice A n c] w fun e w' => (∃ g m c' r, e = .returned (.slice (some ⟨g, 0, none⟩) m c') ∧ Bs w' (some ⟨g, 0, none⟩) m r ∧ m ≤ 44 ∧ m ≤ c') ∧ Below w.heap.size w w' := by
  go_enter Try.func8, Try.ntmps8
  go_wp2_with fail
  refine (source_any A n c l _ h).mono ?_
  rintro e w1 ⟨rfl, s1, b1, z1⟩
  replace z1 : w.heap.size < w1.heap.size := by omega
  go_wp2_with fail
  refine (l6Draw_any w.heap.size n c A 0 _ (by omega) l hn s1).mono ?_
  rintro e w2 ⟨⟨a, b, cc, d, v, A2, c2, m, r, rfl, row, hr, hm, hC⟩, ⟨q, s2, hq⟩, b2⟩
  have B2 := b1.trans (b2.below (show w.heap.size ≤ w1.heap.size by omega) (Nat.le_refl _))
  have z2 := b2.size
  have hcap := row.capX.2
  have ok := cellC_ok hC
  have S2 := Stc.new w2 25 [.int .i64 a, .int .i64 b, .int .i64 cc, .int .i64 d, .bool v, .slice A2 m c2] _ rfl
  have C3 := Shut.mk (l6Encode_any w2.heap.size a b cc d v A2 m c2 r _ S2 ((row.ow' hr).bs.alloc _) hcap ok.1.1 ok.1.2 ok.2.1.1 ok.2.1.2 ok.2.2.1.1 ok.2.2.1.2 ok.2.2.2.1.1 ok.2.2.2.1.2 (by omega))
  have HL := Shut.mk (cellL_len a b cc d v r (by omega))
  have s2' := s2.but (ab (Below.refl w2.heap.size w2) (.cells #[.int .i64 a, .int .i64 b, .int .i64 cc, .int .i64 d, .bool v, .slice A2 m c2] 25)) (Nat.le_refl _)
  have B2' := ab B2 (.cells #[.int .i64 a, .int .i64 b, .int .i64 cc, .int .i64 d, .bool v, .slice A2 m c2] 25)
  generalize cellL a b cc d v r = E at *
  clear ok S2 row hr hC s2 B2 b2 b1 s1 hcap
  go_wp2_with fail
  refine C3.out.mono ?_
  rintro e w3 ⟨⟨A3, c3, rfl, row3⟩, b3⟩
  have s3 := s2'.but b3 (Nat.le_refl _)
  have B3 := ac B2' b3
  have z3 := b3.size
  simp only [World.size_alloc] at z3 row3
  have hcap3 := row3.capX.1
  obtain ⟨g, rfl, hgB, hgl, _⟩ := (row3.ow' HL.out).at_ (by omega)
  have hgw : w.heap.size < g := by omega
  clear C3 s2' B2' b3
  go_wp2_with fail
  refine (next_any w.heap.size n c A q 5 _ (by omega) (by omega) (by omega) l hn s3).mono ?_
  rintro e w4 ⟨⟨x, hx0, hx1, rfl⟩, s4, b4, z4⟩
  have row4 := row3.keep (w' := w4) (fun k h1 h2 => (b4 w3.heap.size).block k h2 (by omega))
  have B4 := B3.trans ((b4 w.heap.size).below (Nat.le_refl _) (Nat.le_refl _))
  have z4g : w3.heap.size ≤ w4.heap.size := by omega
  clear b4 row3 s3 B3 z4
  rcases (show x = 0 ∨ x = 1 ∨ x = 2 ∨ x = 3 ∨ x = 4 by omega) with rfl | rfl | rfl | rfl | rfl
  · go_wp2_with fail
    refine (next_any w.heap.size n c A (q + 1) 44 _ (by omega) (by omega) (by omega) l hn s4).mono ?_
    rintro e w5 ⟨⟨j, hj0, hj1, rfl⟩, s5, b5, z5⟩
    have row5 := row4.keep (w' := w5) (fun k h1 h2 => (b5 w4.heap.size).block k h2 (by omega))
    have B5 := B4.trans ((b5 w.heap.size).below (Nat.le_refl _) (Nat.le_refl _))
    obtain ⟨j, rfl⟩ := Int.eq_ofNat_of_zero_le hj0
    have z5g : w4.heap.size ≤ w5.heap.size := by omega
    clear b5 row4 s4 B4 z5
    go_wp2_with fail
    refine (pick_any w.heap.size n c A (q + 1 + 1) w5.heap.size 5 5 bentPick _ (by omega) (by omega) (by omega) l hn (s5.but (ab (Below.refl _ _) _) (Nat.le_refl _)) rfl (by omega) (ints_cells w5 bentPick _ _ rfl)).mono ?_
    rintro e w6 ⟨⟨y, hy, rfl⟩, s6, b6, z6⟩
    have row6 := row5.keep (w' := w6) (fun k h1 h2 => ((b6 (w5.heap.size + 1)).block k (by omega) (by omega)).trans ((ab (Below.refl w5.heap.size w5) _).block k h2))
    have B6 : Below w.heap.size w w6 := (ab B5 _).trans ((b6 w.heap.size).below (Nat.le_refl _) (Nat.le_refl _))
    obtain ⟨hy0, hy1⟩ := bentPick_bd y hy
    have wy : IntKind.u8.wrap y = y := IntWalk.u8_in y (by omega)
    obtain ⟨g2, e2, _, _, hc, hf⟩ := (row6.ow' HL.out).at_ (by omega)
    injection e2 with e2
    injection e2 with e2
    subst e2
    have q0 := hc j (by omega)
    have f0 := hf j
    have hjj : (j : Int) < 44 := hj1
    clear z6 hy b6 row5 B5 hc hf s5
    have R := (row6.setI j (x := y) (by omega) (by omega))
    have B7 := B6.setCell (p := ⟨g, j, none⟩) (by show w.heap.size ≤ g; omega) (.int .u8 y)
    go_wp2
    go_ret
    exact ⟨⟨g, 44, c3, _, rfl, (R.ow' (by rw [List.length_set]; exact HL.out)).bs, Nat.le_refl _, hcap3⟩, B7⟩
  · go_wp2_with fail
    refine (pick_any w.heap.size n c A (q + 1) w4.heap.size 3 3 cutPick _ (by omega) (by omega) (by omega) l hn (s4.but (ab (Below.refl _ _) _) (Nat.le_refl _)) rfl (by omega) (ints_cells w4 cutPick _ _ rfl)).mono ?_
    rintro e w6 ⟨⟨y, hy, rfl⟩, s6, b6, z6⟩
    have row6 := row4.keep (w' := w6) (fun k h1 h2 => ((b6 (w4.heap.size + 1)).block k (by omega) (by omega)).trans ((ab (Below.refl w4.heap.size w4) _).block k h2))
    have B6 : Below w.heap.size w w6 := (ab B4 _).trans ((b6 w.heap.size).below (Nat.le_refl _) (Nat.le_refl _))
    obtain ⟨hy0, hy1⟩ := cutPick_bd y hy
    obtain ⟨j, rfl⟩ := Int.eq_ofNat_of_zero_le hy0
    have hp := (row6.ow' HL.out).bs.part_ 0 j (by omega)
    rw [Nat.add_zero, List.drop_zero] at hp
    have hc0 : ¬ c3 = 0 := by omega
    have hjc : (j : Int) ≤ (c3 : Int) := by omega
    clear z6 hy b6 row4 B4 s4
    go_wp2
    go_ret
    exact ⟨⟨g, j, c3, _, rfl, hp, by omega, by omega⟩, B6⟩
  · go_wp2_with fail
    refine (pick_any w.heap.size n c A (q + 1) w4.heap.size 4 4 flipPick _ (by omega) (by omega) (by omega) l hn (s4.but (ab (Below.refl _ _) _) (Nat.le_refl _)) rfl (by omega) (ints_cells w4 flipPick _ _ rfl)).mono ?_
    rintro e w6 ⟨⟨y, hy, rfl⟩, s6, b6, z6⟩
    have row6 := row4.keep (w' := w6) (fun k h1 h2 => ((b6 (w4.heap.size + 1)).block k (by omega) (by omega)).trans ((ab (Below.refl w4.heap.size w4) _).block k h2))
    have B6 : Below w.heap.size w w6 := (ab B4 _).trans ((b6 w.heap.size).below (Nat.le_refl _) (Nat.le_refl _))
    obtain ⟨hy0, hy1⟩ := flipPick_bd y hy
    obtain ⟨j, rfl⟩ := Int.eq_ofNat_of_zero_le hy0
    obtain ⟨g2, e2, _, _, hc, hf⟩ := (row6.ow' HL.out).at_ (by omega)
    injection e2 with e2
    injection e2 with e2
    subst e2
    have q0 := hc j (by omega)
    have f0 := hf j
    have hjj : (j : Int) < 44 := hy1
    have ub := row6.byte.get j
    generalize E.getD j 0 = u at *
    have xb : 0 ≤ bits .xor .u8 u 1 ∧ bits .xor .u8 u 1 < 256 := xorB_bd u 1 ub.1 ub.2 (by omega) (by omega)
    have R := (row6.setI j (x := bits .xor .u8 u 1) (by omega) (by omega))
    have B7 := B6.setCell (p := ⟨g, j, none⟩) (by show w.heap.size ≤ g; omega) (.int .u8 (bits .xor .u8 u 1))
    clear z6 hy b6 row4 B4 hc hf s4
    go_wp2
    go_ret
    exact ⟨⟨g, 44, c3, _, rfl, (R.ow' (by rw [List.length_set]; exact HL.out)).bs, Nat.le_refl _, hcap3⟩, B7⟩
  · go_wp2
    go_ret
    exact ⟨⟨g, 44, c3, _, rfl, (row4.ow' HL.out).bs, Nat.le_refl _, hcap3⟩, B4⟩
  · go_wp2
    go_ret
    exact ⟨⟨g, 44, c3, _, rfl, (row4.ow' HL.out).bs, Nat.le_refl _, hcap3⟩, B4⟩
end Go.Proofs.Ytabhcolfkkfonaa
