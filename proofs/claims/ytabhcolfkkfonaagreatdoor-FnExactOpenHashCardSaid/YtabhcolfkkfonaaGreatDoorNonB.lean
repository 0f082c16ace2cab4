import Derived.Test.YtabhcolfkkfonaaGreatDoorSymB
import Derived.Deep.RegionHeld3
import Derived.WalkLawsBesides
import Derived.Deep.CutRange

/-! NonX -/
/- A nonce, of the program. -/
namespace Go.Proofs.YtabhcolfkkfonaaGreatDoor
open Go.RowKit

theorem Row.capN {w : World} {B n c : Nat} {A : Option Addr} {l : List Int} (h : Row w B (.slice A n c) l) : n ≤ c ∧ (A = none → c = 0) := by
  rcases h.own.2 with ⟨e, _⟩ | ⟨g, cap, cur, e, _, _, hnc, _⟩
  · injection e with e1 e2 e3
    exact ⟨by omega, fun _ => e3⟩
  · injection e with e1 e2 e3
    exact ⟨by omega, fun e0 => by rw [e0] at e1; cases e1⟩

theorem Row.made (w : World) (l : List Int) (n : Nat) (hl : By l) (hn : l.length = n) (hm : n ≤ 1000000) : Row (w.alloc (.cells (l.map (Value.int .u8)).toArray 5)) w.heap.size (.slice (some ⟨w.heap.size, 0, none⟩) n n) l := by
  subst hn
  refine ⟨hl, ⟨by simp, .inr ⟨w.heap.size, l.length, _, rfl, Nat.le_refl _, heap_alloc_new w _, Nat.le_refl _, by unfold maxLen; omega, by simp, ?_⟩⟩⟩
  rw [Nat.mul_one]
  exact List.take_of_length_le (by simp)
theorem Row.below {w w' : World} {B C : Nat} {v : Value} {l : List Int} (h : Row w B v l) (hb : Below C w w') (hC : w.heap.size ≤ C) : Row w' B v l := h.keep (fun g _ h2 => hb.block g (by omega))

set_option maxRecDepth 100000 in
/-- bytes put behind a row, as one step of a region that draws its order -/
theorem step_join_put {ops : Array Oper} {o : Oper} {a : Act} {K : Act → World → Prop} {Q : Exit → Act → World → Prop} {E : Prop} (hgd : o.guard = none) (s x : Operand)
    (ho : o.op = .call { callee := .builtin .append, args := #[s, x], argTypes := #[22, 22] })
    (w : World) (B : Nat) (v : Value) (l r : List Int) (hs : a.eval s = v) (hrow : Row w B v l) (hB : B ≤ w.heap.size)
    (ad : Addr) (n c : Nat) (hx : a.eval x = .slice (some ad) n c) (hbs : Bs w (some ad) n r) (hlen : l.length + n ≤ 140737488351232)
    (h : ∀ v' w', Row w' B v' (l ++ r) → Below B w w' → w.heap.size ≤ w'.heap.size → K (a.put o.dst v') w') :
    if Region.wanted o (yielded ops a.tmps) = true then Oper.wp Tryz.prog o a w K Q else E := by
  have hw : Region.wanted o (yielded ops a.tmps) = true := by simp [Region.wanted, hgd]
  rw [if_pos hw]
  obtain ⟨i0, hi, hz0, hz1, hz2⟩ := info_parts info_u8
  have hrl := hbs.len
  have hcell : ∀ j u, (r.map (Value.int .u8))[j]? = some u → w.cell? (ad.add j) = some u := by
    intro j u hu
    have hj : j < r.length := by
      rcases Nat.lt_or_ge j r.length with h1 | h1
      · exact h1
      · rw [List.getElem?_eq_none (by simpa using h1)] at hu; cases hu
    obtain ⟨b, off, e, _, hc⟩ := hbs.at_ (by omega)
    injection e with e
    subst e
    have hadd : (⟨b, off, none⟩ : Addr).add j = ⟨b, off + j, none⟩ := by unfold Addr.add; split <;> simp_all
    rw [hadd, hc j (by omega)]
    rw [List.getElem?_map, List.getElem?_eq_getElem hj] at hu
    simpa [List.getD, List.getElem?_eq_getElem hj] using hu
  refine wp_append_own w s x 22 ho B 5 i0 (.int .u8 0) 1 1 Tryz.underlying22 hi hz0 hz1 hz2 rfl (by decide) v l.length _ hs hrow.own ad n c (r.map (Value.int .u8)) hx (by simp [hrl]) hcell
    (fun u hu => by obtain ⟨y, _, rfl⟩ := List.mem_map.1 hu; rfl) (by unfold maxLen; omega) (by omega) hB ?_
  intro v' w' hown hgrow _
  refine h v' w' ⟨hrow.byte.append hbs.byte, ?_⟩ ⟨hgrow.os, hgrow.tape, hgrow.output, hgrow.size, fun k hk => hgrow.block k (by omega) (fun e => ?_)⟩ hgrow.size
  · rw [List.length_append, List.map_append, hrl]; exact hown
  · have := (hrow.own.lt k e.symm).1
    omega

theorem sizeAD (w : World) (o : Obj) : (w.alloc o).drew.heap.size = w.heap.size + 1 := World.size_alloc w o
/-- a nonce: four zeros and eight bytes, the lowest first -/
def nonceL (n : Int) : List Int := List.replicate 4 0 ++ lowOf n 8
theorem nonceL_len (n : Int) : (nonceL n).length = 12 := by simp [nonceL, lowOf_len]

set_option maxRecDepth 100000 in
set_option maxHeartbeats 1000000 in
theorem nonceOf_any (n : Int) (w : World) : Calls Tryz.prog 112 #[.int .i64 n] w fun e w' => (∃ A c, e = .returned (.slice A 12 c) ∧ Ow w' w.heap.size A 12 (nonceL n) ∧ Roomy A 12 c) ∧ Below w.heap.size w w' := by
  have hmk : ∀ w : World, (Instr.makeSlice 22 (.int .i64 4) (.int .i64 4)).run Tryz.prog w = .ok (.slice (some ⟨w.heap.size, 0, none⟩) 4 4) (w.alloc (.cells ((List.replicate 4 (0 : Int)).map (Value.int .u8)).toArray 5)) := fun w => run_make_bytes 4 (by omega) w
  go_enter Tryz.func112, Tryz.ntmps112
  go_wp2_with fail
  have hz : By (List.replicate 4 (0 : Int)) := by intro x hx; simp at hx; omega
  have M0 : Row (w.alloc (.cells #[.int .u8 0, .int .u8 0, .int .u8 0, .int .u8 0] 5)).drew w.heap.size (.slice (some ⟨w.heap.size, 0, none⟩) 4 4) (List.replicate 4 (0 : Int)) := (Row.made w (List.replicate 4 (0 : Int)) 4 hz (by simp) (by omega)).drew
  go_region_held3 (fun _ => True)
    (trivial)
    (first
    | (go_at_call 161; refine (spreadLow_any n 8 _ (Nat.le_refl _)).mono ?_; rintro e w1 ⟨rfl, k1, b1⟩; try rw [sizeAD] at k1)
    | (refine step_join_put rfl _ _ rfl w1 w.heap.size (.slice (some ⟨w.heap.size, 0, none⟩) 4 4) (List.replicate 4 0) (lowOf n 8) rfl ?_ ?_ ⟨w.heap.size + 1, 0, none⟩ 8 8 rfl ?_ ?_ ?_; exact (M0.below b1 (Nat.le_refl _)); have := b1.size; rw [sizeAD] at this; omega; exact (k1.bsn (lowOf_byte _ 8) (lowOf_len _ 8)); simp; intro v3 w3 r3 b3 s3)
    | (refine step_join_put rfl _ _ rfl (w1.alloc (.cells #[.int .u8 0, .int .u8 0, .int .u8 0, .int .u8 0] 5)) w.heap.size (.slice (some ⟨w1.heap.size, 0, none⟩) 4 4) (List.replicate 4 0) (lowOf n 8) rfl ?_ ?_ ⟨w.heap.size, 0, none⟩ 8 8 rfl ?_ ?_ ?_; exact (Row.made w1 (List.replicate 4 (0 : Int)) 4 hz (by simp) (by omega)).mono b1.size; exact Nat.le_trans (show w.heap.size ≤ w1.heap.size from b1.size) (by simp); exact ((k1.alloc _).bsn (lowOf_byte _ 8) (lowOf_len _ 8)); simp; intro v3 w3 r3 b3 s3))
  all_goals
    obtain ⟨A3, c3, rfl, o3⟩ := r3.ow (n := 12) (by simp [lowOf_len])
    go_wp2
    go_ret
    refine ⟨⟨A3, c3, rfl, o3, r3.capN.1, r3.capN.2⟩, ?_⟩
    first
      | exact (ac ((ab (Below.refl _ w) _).drew) b1).trans b3
      | exact (ab (ac ((Below.refl _ w).drew) b1) _).trans b3
end Go.Proofs.YtabhcolfkkfonaaGreatDoor

/-! NonC -/
/- A nonce, of the model. -/
namespace Go.Proofs.YtabhcolfkkfonaaGreatDoor
open Go.RowKit

theorem Row.at_ {w : World} {B g n : Nat} {l : List Int} (h : Blk w g l) (hl : By l) (hn : l.length = n) (hB : B ≤ g) (hm : n ≤ 1000000) : Row w B (.slice (some ⟨g, 0, none⟩) n n) l := by
  subst hn
  refine ⟨hl, ⟨by simp, .inr ⟨g, l.length, _, rfl, hB, h, Nat.le_refl _, by unfold maxLen; omega, by simp, ?_⟩⟩⟩
  rw [Nat.mul_one]
  exact List.take_of_length_le (by simp)
theorem blkM (W : World) : Blk (W.alloc (.cells #[.int .u8 0, .int .u8 0, .int .u8 0, .int .u8 0] 5)) W.heap.size [0, 0, 0, 0] := Blk.made W [0, 0, 0, 0]
theorem blkS (W : World) : Blk (W.alloc (.cells #[.int .u8 0] 5)) W.heap.size [0] := Blk.made W [0]
theorem by4 : By [0, 0, 0, 0] := by unfold By; decide
theorem by1 : By [0] := by unfold By; decide
theorem nonce7 (n : Int) (h0 : 0 ≤ n) (hn : n ≤ 1000) : ([0, 0, 0, 0] ++ lowOf n 7) ++ [0] = nonceL n := by
  have e : lowOf n 8 = lowOf n 7 ++ [0] := by
    have : n / 256 ^ 7 % 256 = 0 := by
      have : n / 256 ^ 7 = 0 := Int.ediv_eq_zero_of_lt h0 (by omega)
      rw [this]; rfl
    unfold lowOf
    rw [List.range_succ, List.map_append]
    simp only [List.map_cons, List.map_nil]
    rw [this]
  unfold nonceL
  rw [e]
  simp [List.replicate]

end Go.Proofs.YtabhcolfkkfonaaGreatDoor

/-! NonS -/
/- A nonce, of the model: eight orders. -/
namespace Go.Proofs.YtabhcolfkkfonaaGreatDoor
open Go.RowKit

theorem own_block {g n c : Nat} : (Value.slice (some ⟨g, 0, none⟩) n c).ownBlock = some g := rfl

set_option maxRecDepth 100000 in
/-- bytes put behind a row, as one step of a region that draws its order; no block but the row's own is turned -/
theorem step_join_putX {ops : Array Oper} {o : Oper} {a : Act} {K : Act → World → Prop} {Q : Exit → Act → World → Prop} {E : Prop} (hgd : o.guard = none) (s x : Operand)
    (ho : o.op = .call { callee := .builtin .append, args := #[s, x], argTypes := #[22, 22] })
    (w : World) (B : Nat) (v : Value) (l r : List Int) (hs : a.eval s = v) (hrow : Row w B v l) (hB : B ≤ w.heap.size)
    (ad : Addr) (n c : Nat) (hx : a.eval x = .slice (some ad) n c) (hbs : Bs w (some ad) n r) (hlen : l.length + n ≤ 140737488351232)
    (h : ∀ v' w', Row w' B v' (l ++ r) → Below B w w' → w.heap.size ≤ w'.heap.size → (∀ g q, Blk w g q → v.ownBlock ≠ some g → Blk w' g q) → K (a.put o.dst v') w') :
    if Region.wanted o (yielded ops a.tmps) = true then Oper.wp Tryz.prog o a w K Q else E := by
  have hw : Region.wanted o (yielded ops a.tmps) = true := by simp [Region.wanted, hgd]
  rw [if_pos hw]
  obtain ⟨i0, hi, hz0, hz1, hz2⟩ := info_parts info_u8
  have hrl := hbs.len
  have hcell : ∀ j u, (r.map (Value.int .u8))[j]? = some u → w.cell? (ad.add j) = some u := by
    intro j u hu
    have hj : j < r.length := by
      rcases Nat.lt_or_ge j r.length with h1 | h1
      · exact h1
      · rw [List.getElem?_eq_none (by simpa using h1)] at hu; cases hu
    obtain ⟨b, off, e, _, hc⟩ := hbs.at_ (by omega)
    injection e with e
    subst e
    have hadd : (⟨b, off, none⟩ : Addr).add j = ⟨b, off + j, none⟩ := by unfold Addr.add; split <;> simp_all
    rw [hadd, hc j (by omega)]
    rw [List.getElem?_map, List.getElem?_eq_getElem hj] at hu
    simpa [List.getD, List.getElem?_eq_getElem hj] using hu
  refine wp_append_own w s x 22 ho B 5 i0 (.int .u8 0) 1 1 Tryz.underlying22 hi hz0 hz1 hz2 rfl (by decide) v l.length _ hs hrow.own ad n c (r.map (Value.int .u8)) hx (by simp [hrl]) hcell
    (fun u hu => by obtain ⟨y, _, rfl⟩ := List.mem_map.1 hu; rfl) (by unfold maxLen; omega) (by omega) hB ?_
  intro v' w' hown hgrow _
  refine h v' w' ⟨hrow.byte.append hbs.byte, ?_⟩ ⟨hgrow.os, hgrow.tape, hgrow.output, hgrow.size, fun k hk => hgrow.block k (by omega) (fun e => ?_)⟩ hgrow.size (fun g q hq hne => hq.keep (hgrow.block g hq.lt (fun e => hne e.symm)))
  · rw [List.length_append, List.map_append, hrl]; exact hown
  · have := (hrow.own.lt k e.symm).1
    omega

/-- four zeros that were made, and one more byte that was: where they lie, in a world of the region -/
structure Lies (w W : World) (v : Value) (q : List Int) : Prop where
  ex : ∃ g, v = .slice (some ⟨g, 0, none⟩) q.length q.length ∧ w.heap.size ≤ g ∧ Blk W g q

set_option maxRecDepth 100000 in
set_option maxHeartbeats 4000000 in
theorem l5Nonce_any (n : Int) (w : World) (h0 : 0 ≤ n) (hn : n ≤ 1000) : Calls Tryz.prog 124 #[.int .i64 n] w fun e w' => (∃ A c, e = .returned (.slice A 12 c) ∧ Ow w' w.heap.size A 12 (nonceL n) ∧ 12 ≤ c ∧ (A = none → c = 0)) ∧ Below w.heap.size w w' := by
  have hmk : ∀ w : World, (Instr.makeSlice 22 (.int .i64 4) (.int .i64 4)).run Tryz.prog w = .ok (.slice (some ⟨w.heap.size, 0, none⟩) 4 4) (w.alloc (.cells ((List.replicate 4 (0 : Int)).map (Value.int .u8)).toArray 5)) := fun w => run_make_bytes 4 (by omega) w
  have E7 := Shut.mk (nonce7 n h0 hn)
  have HL := Shut.mk (fun W => l1Low_any n 7 W h0 (by omega) (by omega))
  go_enter Tryz.func124, Tryz.ntmps124
  go_wp2_with fail
  go_cut [2] from 3 to 8 (fun s wx => Row wx w.heap.size s (([0, 0, 0, 0] ++ lowOf n 7) ++ [0]) ∧ Below w.heap.size w wx)
  case first =>
    have hwd : Below w.heap.size w w.drew := (Below.refl _ w).drew
    go_region_held3 (fun W => Below w.heap.size w W)
      (first | (with_reducible assumption) | exact hwd | exact (ab (Below.refl _ w) _).drew | exact (ab (ab (Below.refl _ w) _) _).drew | (exact ab (by with_reducible assumption) _) | (exact ab (ab (by with_reducible assumption) _) _))
      (first
      | (go_at_call 175; refine (HL.out _).mono ?_; rintro e w1 ⟨⟨A1, c1, rfl, o1⟩, b1⟩; obtain ⟨g1, rfl, _⟩ := o1.at_ (by omega); have z1 := b1.size; have y1 : Below w.heap.size w w1 := Below.trans (by first | exact hwd | exact (ab (Below.refl _ w) _).drew | exact (ab (ab (Below.refl _ w) _) _).drew) (b1.mono (by first | exact Nat.le_refl _ | (rw [sizeAD]; omega) | (show w.heap.size ≤ ((w.alloc _).alloc _).heap.size; simp; omega))))
      | ((with_reducible show (if _ then Oper.wp Tryz.prog _ _ w1 _ _ else _)); have hq := (Blk.below (w := ((w.alloc (.cells #[.int .u8 0, .int .u8 0, .int .u8 0, .int .u8 0] 5)).alloc (.cells #[.int .u8 0] 5)).drew) (show Blk ((w.alloc (.cells #[.int .u8 0, .int .u8 0, .int .u8 0, .int .u8 0] 5)).alloc (.cells #[.int .u8 0] 5)) (w.heap.size + 1) [0] by have h := blkS (w.alloc (.cells #[.int .u8 0, .int .u8 0, .int .u8 0, .int .u8 0] 5)); rw [World.size_alloc] at h; exact h) b1 (show w.heap.size + 1 < ((w.alloc (.cells #[.int .u8 0, .int .u8 0, .int .u8 0, .int .u8 0] 5)).alloc (.cells #[.int .u8 0] 5)).heap.size by simp)); refine step_join_putX rfl _ _ rfl w1 w.heap.size (.slice (some ⟨w.heap.size, 0, none⟩) 4 4) [0, 0, 0, 0] (lowOf n 7) rfl ?_ ?_ ⟨g1, 0, none⟩ 7 c1 rfl ?_ (by simp) ?_; exact (Row.at_ (Blk.below (w := ((w.alloc (.cells #[.int .u8 0, .int .u8 0, .int .u8 0, .int .u8 0] 5)).alloc (.cells #[.int .u8 0] 5)).drew) ((blkM w).alloc _) b1 (show w.heap.size < ((w.alloc (.cells #[.int .u8 0, .int .u8 0, .int .u8 0, .int .u8 0] 5)).alloc (.cells #[.int .u8 0] 5)).heap.size by simp; omega)) by4 rfl (Nat.le_refl _) (by omega)); exact y1.size; exact o1.bs; intro v2 w2 r2 b2 s2 kp; have y2 := Below.trans y1 b2; have hBk := kp (w.heap.size + 1) [0] hq (by rw [own_block]; intro e; injection e with e; omega))
      | ((with_reducible show (if _ then Oper.wp Tryz.prog _ _ w1 _ _ else _)); have hq := (Blk.below (w := ((w.alloc (.cells #[.int .u8 0] 5)).alloc (.cells #[.int .u8 0, .int .u8 0, .int .u8 0, .int .u8 0] 5)).drew) ((blkS w).alloc _) b1 (show w.heap.size < ((w.alloc (.cells #[.int .u8 0] 5)).alloc (.cells #[.int .u8 0, .int .u8 0, .int .u8 0, .int .u8 0] 5)).heap.size by simp; omega)); refine step_join_putX rfl _ _ rfl w1 w.heap.size (.slice (some ⟨(w.heap.size + 1), 0, none⟩) 4 4) [0, 0, 0, 0] (lowOf n 7) rfl ?_ ?_ ⟨g1, 0, none⟩ 7 c1 rfl ?_ (by simp) ?_; exact (Row.at_ (Blk.below (w := ((w.alloc (.cells #[.int .u8 0] 5)).alloc (.cells #[.int .u8 0, .int .u8 0, .int .u8 0, .int .u8 0] 5)).drew) (show Blk ((w.alloc (.cells #[.int .u8 0] 5)).alloc (.cells #[.int .u8 0, .int .u8 0, .int .u8 0, .int .u8 0] 5)) (w.heap.size + 1) [0, 0, 0, 0] by have h := blkM (w.alloc (.cells #[.int .u8 0] 5)); rw [World.size_alloc] at h; exact h) b1 (show w.heap.size + 1 < ((w.alloc (.cells #[.int .u8 0] 5)).alloc (.cells #[.int .u8 0, .int .u8 0, .int .u8 0, .int .u8 0] 5)).heap.size by simp)) by4 rfl (Nat.le_succ _) (by omega)); exact y1.size; exact o1.bs; intro v2 w2 r2 b2 s2 kp; have y2 := Below.trans y1 b2; have hBk := kp w.heap.size [0] hq (by rw [own_block]; intro e; injection e with e; omega))
      | ((with_reducible show (if _ then Oper.wp Tryz.prog _ _ (w1.alloc (.cells #[.int .u8 0] 5)) _ _ else _)); have hq := (blkS w1); refine step_join_putX rfl _ _ rfl (w1.alloc (.cells #[.int .u8 0] 5)) w.heap.size (.slice (some ⟨w.heap.size, 0, none⟩) 4 4) [0, 0, 0, 0] (lowOf n 7) rfl ?_ ?_ ⟨g1, 0, none⟩ 7 c1 rfl ?_ (by simp) ?_; exact (Row.at_ ((Blk.below (w := (w.alloc (.cells #[.int .u8 0, .int .u8 0, .int .u8 0, .int .u8 0] 5)).drew) (blkM w) b1 (show w.heap.size < (w.alloc (.cells #[.int .u8 0, .int .u8 0, .int .u8 0, .int .u8 0] 5)).heap.size by simp)).alloc _) by4 rfl (Nat.le_refl _) (by omega)); exact (ab y1 _).size; exact (o1.bs.alloc _); intro v2 w2 r2 b2 s2 kp; have y2 := Below.trans (ab y1 _) b2; have hBk := kp w1.heap.size [0] hq (by rw [own_block]; intro e; injection e with e; have hz : (w.alloc (.cells #[.int .u8 0, .int .u8 0, .int .u8 0, .int .u8 0] 5)).heap.size ≤ w1.heap.size := b1.size; rw [World.size_alloc] at hz; omega))
      | ((with_reducible show (if _ then Oper.wp Tryz.prog _ _ ((w1.alloc (.cells #[.int .u8 0, .int .u8 0, .int .u8 0, .int .u8 0] 5)).alloc (.cells #[.int .u8 0] 5)) _ _ else _)); have hq := (show Blk ((w1.alloc (.cells #[.int .u8 0, .int .u8 0, .int .u8 0, .int .u8 0] 5)).alloc (.cells #[.int .u8 0] 5)) (w1.heap.size + 1) [0] by have h := blkS (w1.alloc (.cells #[.int .u8 0, .int .u8 0, .int .u8 0, .int .u8 0] 5)); rw [World.size_alloc] at h; exact h); refine step_join_putX rfl _ _ rfl ((w1.alloc (.cells #[.int .u8 0, .int .u8 0, .int .u8 0, .int .u8 0] 5)).alloc (.cells #[.int .u8 0] 5)) w.heap.size (.slice (some ⟨w1.heap.size, 0, none⟩) 4 4) [0, 0, 0, 0] (lowOf n 7) rfl ?_ ?_ ⟨g1, 0, none⟩ 7 c1 rfl ?_ (by simp) ?_; exact (Row.at_ ((blkM w1).alloc _) by4 rfl y1.size (by omega)); exact (ab (ab y1 _) _).size; exact ((o1.bs.alloc _).alloc _); intro v2 w2 r2 b2 s2 kp; have y2 := Below.trans (ab (ab y1 _) _) b2; have hBk := kp (w1.heap.size + 1) [0] hq (by rw [own_block]; intro e; injection e with e; omega))
      | ((with_reducible show (if _ then Oper.wp Tryz.prog _ _ ((w1.alloc (.cells #[.int .u8 0] 5)).alloc (.cells #[.int .u8 0, .int .u8 0, .int .u8 0, .int .u8 0] 5)) _ _ else _)); have hq := ((blkS w1).alloc (.cells #[.int .u8 0, .int .u8 0, .int .u8 0, .int .u8 0] 5)); refine step_join_putX rfl _ _ rfl ((w1.alloc (.cells #[.int .u8 0] 5)).alloc (.cells #[.int .u8 0, .int .u8 0, .int .u8 0, .int .u8 0] 5)) w.heap.size (.slice (some ⟨(w1.heap.size + 1), 0, none⟩) 4 4) [0, 0, 0, 0] (lowOf n 7) rfl ?_ ?_ ⟨g1, 0, none⟩ 7 c1 rfl ?_ (by simp) ?_; exact (Row.at_ (show Blk ((w1.alloc (.cells #[.int .u8 0] 5)).alloc (.cells #[.int .u8 0, .int .u8 0, .int .u8 0, .int .u8 0] 5)) (w1.heap.size + 1) [0, 0, 0, 0] by have h := blkM (w1.alloc (.cells #[.int .u8 0] 5)); rw [World.size_alloc] at h; exact h) by4 rfl (Nat.le_succ_of_le y1.size) (by omega)); exact (ab (ab y1 _) _).size; exact ((o1.bs.alloc _).alloc _); intro v2 w2 r2 b2 s2 kp; have y2 := Below.trans (ab (ab y1 _) _) b2; have hBk := kp w1.heap.size [0] hq (by rw [own_block]; intro e; injection e with e; omega))
      | ((with_reducible show (if _ then Oper.wp Tryz.prog _ _ (w1.alloc (.cells #[.int .u8 0, .int .u8 0, .int .u8 0, .int .u8 0] 5)) _ _ else _)); have hq := ((Blk.below (w := (w.alloc (.cells #[.int .u8 0] 5)).drew) (blkS w) b1 (show w.heap.size < (w.alloc (.cells #[.int .u8 0] 5)).heap.size by simp)).alloc (.cells #[.int .u8 0, .int .u8 0, .int .u8 0, .int .u8 0] 5)); refine step_join_putX rfl _ _ rfl (w1.alloc (.cells #[.int .u8 0, .int .u8 0, .int .u8 0, .int .u8 0] 5)) w.heap.size (.slice (some ⟨w1.heap.size, 0, none⟩) 4 4) [0, 0, 0, 0] (lowOf n 7) rfl ?_ ?_ ⟨g1, 0, none⟩ 7 c1 rfl ?_ (by simp) ?_; exact (Row.at_ (blkM w1) by4 rfl y1.size (by omega)); exact (ab y1 _).size; exact (o1.bs.alloc _); intro v2 w2 r2 b2 s2 kp; have y2 := Below.trans (ab y1 _) b2; have hBk := kp w.heap.size [0] hq (by rw [own_block]; intro e; injection e with e; have hz : (w.alloc (.cells #[.int .u8 0] 5)).heap.size ≤ w1.heap.size := b1.size; rw [World.size_alloc] at hz; omega))
      | ((with_reducible show (if _ then Oper.wp Tryz.prog _ _ w1 _ _ else _)); refine step_join_putX rfl _ _ rfl w1 w.heap.size (.slice (some ⟨w.heap.size, 0, none⟩) 4 4) [0, 0, 0, 0] (lowOf n 7) rfl ?_ ?_ ⟨g1, 0, none⟩ 7 c1 rfl ?_ (by simp) ?_; exact (Row.at_ (Blk.below (w := (w.alloc (.cells #[.int .u8 0, .int .u8 0, .int .u8 0, .int .u8 0] 5)).drew) (blkM w) b1 (show w.heap.size < (w.alloc (.cells #[.int .u8 0, .int .u8 0, .int .u8 0, .int .u8 0] 5)).heap.size by simp)) by4 rfl (Nat.le_refl _) (by omega)); exact y1.size; exact o1.bs; intro v2 w2 r2 b2 s2 kp; have y2 := Below.trans y1 b2)
      | ((with_reducible show (if _ then Oper.wp Tryz.prog _ _ (w1.alloc (.cells #[.int .u8 0, .int .u8 0, .int .u8 0, .int .u8 0] 5)) _ _ else _)); refine step_join_putX rfl _ _ rfl (w1.alloc (.cells #[.int .u8 0, .int .u8 0, .int .u8 0, .int .u8 0] 5)) w.heap.size (.slice (some ⟨w1.heap.size, 0, none⟩) 4 4) [0, 0, 0, 0] (lowOf n 7) rfl ?_ ?_ ⟨g1, 0, none⟩ 7 c1 rfl ?_ (by simp) ?_; exact (Row.at_ (blkM w1) by4 rfl y1.size (by omega)); exact (ab y1 _).size; exact (o1.bs.alloc _); intro v2 w2 r2 b2 s2 kp; have y2 := Below.trans (ab y1 _) b2)
      | ((with_reducible show (if _ then Oper.wp Tryz.prog _ _ (w2.alloc (.cells #[.int .u8 0] 5)) _ _ else _)); refine step_join_putX rfl _ _ rfl (w2.alloc (.cells #[.int .u8 0] 5)) w.heap.size v2 ([0, 0, 0, 0] ++ lowOf n 7) [0] rfl (r2.alloc _) (ab y2 _).size ⟨w2.heap.size, 0, none⟩ 1 1 rfl ((blkS w2).bsn by1 rfl) (by simp [lowOf_len]) ?_; intro v3 w3 r3 b3 s3 kp3; have y3 := Below.trans (ab y2 _) b3)
      | ((with_reducible show (if _ then Oper.wp Tryz.prog _ _ w2 _ _ else _)); refine step_join_putX rfl _ _ rfl w2 w.heap.size v2 ([0, 0, 0, 0] ++ lowOf n 7) [0] rfl r2 y2.size _ 1 1 rfl (hBk.bsn by1 rfl) (by simp [lowOf_len]) ?_; intro v3 w3 r3 b3 s3 kp3; have y3 := Below.trans y2 b3))
    all_goals
      go_wp2_with fail
      go_meet
      exact ⟨r3, y3⟩
  case rest =>
    obtain ⟨r3, y3⟩ := hcut
    rw [E7.out] at r3
    obtain ⟨A3, c3, rfl, o3⟩ := r3.ow (nonceL_len n)
    go_wp2
    go_ret
    exact ⟨⟨A3, c3, rfl, o3, r3.capN.1, r3.capN.2⟩, y3⟩
end Go.Proofs.YtabhcolfkkfonaaGreatDoor
