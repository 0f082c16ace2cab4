/- The words of a key, of the program: a range over slices.Chunk. -/
import Derived.Test.YtpoiecdifhkegaaDoorChunk4P
import Derived.Test.YtpoiecdifhkegaaDoorRoundP
import Derived.Test.YtpoiecdifhkegaaDoorStartC
import Derived.Stop.RegionWithIn
import Derived.Maps.AppendAt
namespace Go.Proofs.YtpoiecdifhkegaaDoor
open Go.RowKit Go.Shelf

attribute [local go_sem] Oper.semAt_some

/-- the words that have come -/
def wordsOf (l : List Int) {n : Nat} (pre : List (Pc4 n)) : List Int := pre.map fun p => wlo l p.1
theorem wordsOf_snoc (l : List Int) {n : Nat} (pre : List (Pc4 n)) (x : Pc4 n) : wordsOf l (pre ++ [x]) = wordsOf l pre ++ [wlo l x.1] := by simp [wordsOf]
theorem wordsOf_all (l : List Int) {n : Nat} (pre : List (Pc4 n)) (q : Nat) (h : pre.map (·.1) = List.range q) : wordsOf l pre = wordsLow l q := by
  unfold wordsOf wordsLow
  rw [← h, List.map_map]
  rfl

theorem KRow.lower {w : World} {B C : Nat} {v : Value} {l : List Int} (h : KRow w B v l) (hC : C ≤ B) : KRow w C v l := by
  refine ⟨⟨h.own.1, ?_⟩⟩
  rcases h.own.2 with h0 | ⟨g, cap, cur, e, hB, r⟩
  · exact .inl h0
  · exact .inr ⟨g, cap, cur, e, by omega, r⟩
theorem keepsOthers_bel {W W' : World} (h : Below W.heap.size W W') : KeepsOthers W W' := ⟨h.size, fun k _ hk _ => (h.block k (Array.getElem?_eq_some_iff.1 hk).1).trans hk⟩

set_option maxRecDepth 100000 in
/-- a word put behind a row of words, as one step of a region inside a fence -/
theorem stepIn_krow_append {F : Fence} {n : Nat} {ops : Array Oper} {o : Oper} {a : Act} {K : Act → World → Prop} {Q : Exit → Act → World → Prop} {E : Prop} (hgd : o.guard = none) (s x : Operand)
    (ho : o.op = .call { callee := .builtin .append, args := #[s, x], argTypes := #[90, 90] })
    (w : World) (B : Nat) (v : Value) (l : List Int) (hs : a.eval s = v) (hrow : KRow w B v l) (hB : B ≤ w.heap.size)
    (ad : Addr) (c : Nat) (X : Int) (hx : a.eval x = .slice (some ad) 1 c) (hcell : ∀ j u, [Value.int .u32 X][j]? = some u → w.cell? (ad.add j) = some u) (hlen : l.length ≤ 1000000)
    (h : ∀ g c' w', KRow w' B (.slice (some ⟨g, 0, none⟩) (l.length + 1) c') (l ++ [X]) → Below B w w' → w.heap.size ≤ w'.heap.size → KeepsOthers w w' → K (a.put o.dst (.slice (some ⟨g, 0, none⟩) (l.length + 1) c')) w') :
    if Region.wanted o (yielded ops a.tmps) = true then Oper.wpIn F n Tryd.prog o a w K Q else E := by
  have hw : Region.wanted o (yielded ops a.tmps) = true := by simp [Region.wanted, hgd]
  rw [if_pos hw]
  obtain ⟨i0, hi, hz0, hz1, hz2⟩ := info_parts info_u32
  obtain ⟨v', w', hrun, hown, hgrow, _⟩ := run_append_own (P := Tryd.prog) w B 90 o.type 62 i0 (.int .u32 0) 1 4 Tryd.underlying90 hi hz0 hz1 hz2 rfl (by decide) v l.length _ hrow.own ad 1 c [.int .u32 X] rfl hcell (by simp [Value.oneCell']) (by unfold maxLen; omega) (by omega) hB
  obtain ⟨g, c', rfl⟩ := ownsRow_succ hown
  have hK := h g c' w' ⟨by simpa using hown⟩ ⟨hgrow.os, hgrow.tape, hgrow.output, hgrow.size, fun k hk => hgrow.block k (by omega) (fun e => by have := (hrow.own.lt k e.symm).1; omega)⟩ hgrow.size (KeepsOthers.of_grownBy hgrow fun j o ej hj => by
    rcases hrow.own.2 with ⟨e0, _⟩ | ⟨g1, cap, cur, e0, _, hgb, _⟩
    · rw [e0] at ej; simp [Value.ownBlock] at ej
    · rw [e0] at ej
      obtain rfl : g1 = j := by simpa [Value.ownBlock] using ej
      rw [hgb] at hj; cases hj; rfl)
  unfold Oper.wpIn
  refine ⟨?_, ?_⟩
  · simp [Oper.about, ho, resolve, Target.leads, Sem.run_pure]
  · rw [Oper.semAt_plain F _ _ (by rw [ho]; intro c hc'; cases hc')]
    simp [execOp, ho, resolve, invoke, builtin, hs, hx, hrun, Result.andThen]
    exact hK

set_option maxRecDepth 100000 in
set_option maxHeartbeats 4000000 in
theorem wordsLow_in (F : Fence) (n : Nat) (hall : ∀ f, F.fn f) (hlift : ∀ (k : Nat) (f : FuncId) (args : Array Value) (W : World) (R : Ending → World → Prop), Calls Tryd.prog f args W R → CallsIn F k Tryd.prog f args W R) (hro : F.round = none) (hn : 4 ≤ n)
    (b off m c k : Nat) (l : List Int) (w : World) (h : Bs w (some ⟨b, off, none⟩) m l) (hm : m = 4 * k) (hk : k ≤ 100) (hc : m ≤ c) :
    CallsIn F n Tryd.prog 73 #[.slice (some ⟨b, off, none⟩) m c] w fun e w' => (∃ v, e = .returned v ∧ KRow w' w.heap.size v (wordsLow l k)) ∧ Below w.heap.size w w' := by
  have h1 : 1 ≤ n := by omega
  have Hm := Shut.mk hm
  have hm4 : m ≤ 400 := by omega
  clear hm
  refine callsIn_of_wp_marks Tryd.func73 rfl (hall _) ?_ hro
  simp only [Tryd.ntmps73, List.size_toArray, List.length_cons, List.length_nil, Nat.reduceAdd, Nat.reduceSub, Array.replicate_succ, Array.replicate_zero, List.push_toArray, List.append_toArray, List.nil_append, List.cons_append]
  gi_wp2_with (gi_at_call 60; refine (Chunk4_in F (n - 1) (hall _) hro _ _ _ _).mono ?_; rintro e w' ⟨rfl, rfl⟩)
  obtain ⟨hX, hY, hbx, W4b, z4⟩ : (((w.alloc (.cells #[.slice none 0 0] 90)).alloc (.cells #[.slice (some ⟨b, off, none⟩) m c] 22)).alloc (.cells #[.int .i64 4] 3)).cell? ⟨w.heap.size + 1, 0, none⟩ = some (.slice (some ⟨b, off, none⟩) m c) ∧
      (((w.alloc (.cells #[.slice none 0 0] 90)).alloc (.cells #[.slice (some ⟨b, off, none⟩) m c] 22)).alloc (.cells #[.int .i64 4] 3)).cell? ⟨w.heap.size + 1 + 1, 0, none⟩ = some (.int .i64 4) ∧
      Boxed (((w.alloc (.cells #[.slice none 0 0] 90)).alloc (.cells #[.slice (some ⟨b, off, none⟩) m c] 22)).alloc (.cells #[.int .i64 4] 3)) w.heap.size 90 (.slice none 0 0) ∧
      Below w.heap.size w (((w.alloc (.cells #[.slice none 0 0] 90)).alloc (.cells #[.slice (some ⟨b, off, none⟩) m c] 22)).alloc (.cells #[.int .i64 4] 3)) ∧
      (((w.alloc (.cells #[.slice none 0 0] 90)).alloc (.cells #[.slice (some ⟨b, off, none⟩) m c] 22)).alloc (.cells #[.int .i64 4] 3)).heap.size = w.heap.size + 3 := by
    have a1 := one_new (w.alloc (.cells #[.slice none 0 0] 90)) (.slice (some ⟨b, off, none⟩) m c) 22
    have a2 := one_new ((w.alloc (.cells #[.slice none 0 0] 90)).alloc (.cells #[.slice (some ⟨b, off, none⟩) m c] 22)) (.int .i64 4) 3
    simp only [World.size_alloc] at a1 a2
    exact ⟨cell_past _ a1.1, a2.1, ((Boxed.new w _ _).alloc _).alloc _, ab (ab (ab (Below.refl _ _) _) _) _, by simp⟩
  have h4 := h.below W4b
  generalize ((w.alloc (.cells #[.slice none 0 0] 90)).alloc (.cells #[.slice (some ⟨b, off, none⟩) m c] 22)).alloc (.cells #[.int .i64 4] 3) = w4 at *
  refine wpIn_rangeFunc_ownF hro h1 (gf := 77) (lb := #[.pointer (some ⟨w.heap.size + 1, 0, none⟩), .pointer (some ⟨w.heap.size + 1 + 1, 0, none⟩)]) rfl (hall _) (enters_of Tryd.func77 (by kernel_rfl) rfl)
    (Chunk4_stops F (n - 1) (hall _) hro (by omega) (w.heap.size + 1) (w.heap.size + 1 + 1) w.heap.size b off m c (some ⟨b, off, none⟩) (fun _ => rfl) hc (by omega) w4 hX hY)
    (fun {A B C} => Kd4.trans) (fun W2 l2 o o' hle ho h1 h2 => ⟨belowK_b (w := w) (Nat.le_refl _) W2 l2 o o' (by omega) ho h1 h2, putObj_other W2 l2 o' _ (by omega), putObj_other W2 l2 o' _ (by omega)⟩) (Below.refl _ _) (fun _ => rfl)
    (fun pre W => ((∃ v, Boxed W w.heap.size 90 v ∧ W.ownsRow (w.heap.size + 3) 62 1 v pre.length ((wordsOf l pre).map (Value.int .u32)) ∧ True) ∧ w.heap.size + 3 ≤ W.heap.size) ∧ Below w.heap.size w W)
    (fun _ _ _ => False)
    (OwnFrom.and (OwnFrom.and (Own.from (holdsRow_own (w.heap.size + 3) w.heap.size 90 62 1 (fun pre => pre.length) (fun pre => (wordsOf l pre).map (Value.int .u32)) (fun _ _ => True)) _) (fun _ A B _ hs hg _ => Nat.le_trans hs hg.size)) (ownFrom_below (Nat.le_refl _) (by omega)))
    (fun _ _ _ _ _ hs _ _ => hs)
    ⟨⟨⟨.slice none 0 0, hbx, World.ownsRow_nil .., trivial⟩, by omega⟩, W4b⟩
    (fun x => { tmps := #[.slice (some ⟨b, off, none⟩) m c, undef, .slice none 0 0, .pointer (some ⟨w.heap.size, 0, none⟩), .slice (some ⟨b, off + 4 * x.1, none⟩) (len4 m x.1) (len4 m x.1), .slice (some ⟨b, off, none⟩) m c, .func (.func 77) #[] #[.pointer (some ⟨w.heap.size + 1, 0, none⟩), .pointer (some ⟨w.heap.size + 1 + 1, 0, none⟩)], .slice (some ⟨b, off + 4 * x.1, none⟩) (len4 m x.1) (len4 m x.1), undef, undef, undef, undef, undef, undef], defers := [] }) ?assign ?body ?done ?stop
  case assign =>
    intro lp x W K hK
    simp only [pcArgs4]
    gi_wp2
    exact hK
  case body =>
    rintro lp pre x W ⟨⟨⟨v, hv, hrow, _⟩, hz⟩, hB⟩ hpre
    obtain ⟨xk, hxk⟩ := x
    have hl4 : len4 m xk = 4 := if_pos (by have := Hm.out; omega)
    simp only [hl4]
    have hp := (h.below hB).part_ (4 * xk) 4 (by have := Hm.out; omega)
    have hsn := wordsOf_snoc l pre ⟨xk, hxk⟩
    have hwl : (wordsOf l pre).length = pre.length := by simp [wordsOf]
    have hkr : KRow W (w.heap.size + 3) v (wordsOf l pre) := ⟨by rw [hwl]; exact hrow⟩
    have HX : Shut (lo ((l.drop (4 * xk)).take 4) = wlo l xk) := ⟨rfl⟩
    have hc1 := hv.cell
    have hf1 := hv.frozen
    have hvl := hv.lt
    have hd1 : 1 ≤ n - 1 - 1 := by omega
    have G := Shut.mk (joinLowW_any (some ⟨b, off + 4 * xk, none⟩) 4 4 _ W.drew (hp.below (Below.refl _ W).drew) (Nat.le_refl _))
    rw [HX.out] at G
    dsimp only at hsn
    rw [← hwl] at hpre
    generalize wlo l xk = X at *
    generalize wordsOf l pre = Lw at *
    have HSn := Shut.mk hsn
    have HWl := Shut.mk hwl
    clear hsn hwl hl4 HX hrow hp
    gi_wp2
    refine region_round lp hro (by kernel_rfl) (by kernel_rfl) ?_
    have fin : ∀ (g2 c2 : Nat) (w1 w2 : World), Below W.drew.heap.size W.drew w1 → KRow w2 (w.heap.size + 3) (.slice (some ⟨g2, 0, none⟩) (Lw.length + 1) c2) (Lw ++ [X]) → Below (w.heap.size + 3) (w1.alloc (.cells #[.int .u32 X] 62)) w2 → (w1.alloc (.cells #[.int .u32 X] 62)).heap.size ≤ w2.heap.size → KeepsOthers (w1.alloc (.cells #[.int .u32 X] 62)) w2 →
        KeepsOthers W (w2.setCell ⟨w.heap.size, 0, none⟩ (.slice (some ⟨g2, 0, none⟩) (Lw.length + 1) c2)) ∧ Kd4 w.heap.size (w.heap.size + 1) (w.heap.size + 1 + 1) W (w2.setCell ⟨w.heap.size, 0, none⟩ (.slice (some ⟨g2, 0, none⟩) (Lw.length + 1) c2)) ∧
        ((∃ v, Boxed (w2.setCell ⟨w.heap.size, 0, none⟩ (.slice (some ⟨g2, 0, none⟩) (Lw.length + 1) c2)) w.heap.size 90 v ∧ (w2.setCell ⟨w.heap.size, 0, none⟩ (.slice (some ⟨g2, 0, none⟩) (Lw.length + 1) c2)).ownsRow (w.heap.size + 3) 62 1 v (pre ++ [(⟨xk, hxk⟩ : Pc4 m)]).length ((wordsOf l (pre ++ [(⟨xk, hxk⟩ : Pc4 m)])).map (Value.int .u32)) ∧ True) ∧ w.heap.size + 3 ≤ (w2.setCell ⟨w.heap.size, 0, none⟩ (.slice (some ⟨g2, 0, none⟩) (Lw.length + 1) c2)).heap.size) ∧ Below w.heap.size w (w2.setCell ⟨w.heap.size, 0, none⟩ (.slice (some ⟨g2, 0, none⟩) (Lw.length + 1) c2)) := by
      intro g2 c2 w1 w2 b1 hr2 hb2 hs2 hko
      have b1' : Below W.heap.size W w1 := (Below.refl W.heap.size W).drew.trans b1
      have s1 := b1'.size
      have b2' : Below (w.heap.size + 3) W w2 := ((b1'.mono hz).trans ((Below.refl _ w1).alloc (by omega) _)).trans hb2
      have b2 := b2'
      have hv2 : Boxed w2 w.heap.size 90 v := (b2.block _ (by omega)).trans hv
      refine ⟨(((keepsOthers_bel b1').trans (KeepsOthers.alloc _ _)).trans hko).trans (KeepsOthers.setCell _ _ _), ⟨(b2.mono (show w.heap.size ≤ w.heap.size + 3 by omega)).setCell (p := ⟨w.heap.size, 0, none⟩) (Nat.le_refl _) _, ?_, ?_⟩, ⟨⟨_, hv2.set _, ?_, trivial⟩, ?_⟩, (hB.trans (b2.mono (show w.heap.size ≤ w.heap.size + 3 by omega))).setCell (p := ⟨w.heap.size, 0, none⟩) (Nat.le_refl _) _⟩
      · exact (Below.heap_setCell w2 ⟨w.heap.size, 0, none⟩ _ _ (by simp; try omega)).trans (b2.block _ (by omega))
      · exact (Below.heap_setCell w2 ⟨w.heap.size, 0, none⟩ _ _ (by simp; try omega)).trans (b2.block _ (by omega))
      · have hl2 : (Lw ++ [X]).length = (pre ++ [(⟨xk, hxk⟩ : Pc4 m)]).length := by rw [List.length_append, List.length_append, HWl.out]; rfl
        have ho := hr2.own
        rw [HSn.out, ← hl2]
        have e1 : Lw.length + 1 = (Lw ++ [X]).length := by simp
        rw [← e1] at ho ⊢
        exact ho.kept (grownBy_setCell' w2 _ _) (.inr fun e => by have := (ho.lt g2 (by simp [Value.ownBlock])).1; simp [Value.ownBlock] at e; omega)
      · simp only [World.size_setCell]
        have := hs2
        simp only [World.size_alloc] at this
        omega
    refine wpAnyIn_take (i := 1) (v := .slice (some ⟨b, off + 4 * xk, none⟩) 4 4) hro rfl (by kernel_rfl) (by kernel_rfl) (by kernel_rfl) (fun _ _ _ h => h) ?_ ?_
    · exact ⟨Or.inl ⟨by rfl, fun w => by go_simp⟩, fun _ => rfl⟩
    go_simp
    refine wpAnyIn_ready (rs := [0, 2]) (by kernel_rfl) (by simp) (AllReadyIn.cons rfl (fun K hK => ?_) (AllReadyIn.cons rfl (fun K hK => ?_) AllReadyIn.nil))
    · go_simp
      refine hK _ _ ?_
      clear hK K
      refine wpAnyIn_ready (rs := [2]) (by kernel_rfl) (by simp) (AllReadyIn.cons rfl (fun K hK => ?_) AllReadyIn.nil)
      go_simp
      gi_wp2_with (gi_at_call 75; refine (hlift _ _ _ _ _ G.out).mono ?_; rintro e w1 ⟨rfl, b1⟩)
      try clear hK K
      have hs1 := b1.size
      have hcw : w1.cell? ⟨w.heap.size, 0, none⟩ = some v := (b1.cell (p := ⟨w.heap.size, 0, none⟩) hvl).trans hc1
      have hfw : w1.frozen? ⟨w.heap.size, 0, none⟩ = false := (World.frozen?_of_block (a := ⟨w.heap.size, 0, none⟩) (b1.block _ hvl)).trans hf1
      have hr1 := hkr.keep (w' := w1) (fun g _ h2 => b1.block g h2)
      have hz1 := Nat.le_trans hz hs1
      have hvl1 : w.heap.size < w1.heap.size := by omega
      have hca := cell_past (.cells #[.int .u32 X] 62) hcw
      have hfa := frozen_past (.cells #[.int .u32 X] 62) hcw hfw
      refine wpAnyIn_ready (rs := [3]) (by kernel_rfl) (by simp) (AllReadyIn.cons rfl (fun K hK => ?_) AllReadyIn.nil)
      go_simp
      refine hK _ _ ?_
      clear hK K
      refine wpAnyIn_ready (rs := [4]) (by kernel_rfl) (by simp) (AllReadyIn.cons rfl (fun K hK => ?_) AllReadyIn.nil)
      refine stepIn_krow_append rfl _ _ rfl _ (w.heap.size + 3) v Lw rfl (hr1.alloc _) (by simp; omega) ⟨w1.heap.size, 0, none⟩ 1 X rfl (cell_one w1 _ _) (by omega) ?_
      intro g2 c2 w2 hr2 hb2 hs2 hko2
      refine hK _ _ ?_
      clear hK K
      have hcx := (hb2.cell (p := ⟨w.heap.size, 0, none⟩) (by simp)).trans hca
      have hfx := (World.frozen?_of_block (a := ⟨w.heap.size, 0, none⟩) (hb2.block w.heap.size (by omega))).trans hfa
      refine wpAnyIn_ready (rs := [5]) (by kernel_rfl) (by simp) (AllReadyIn.cons rfl (fun K hK => ?_) AllReadyIn.nil)
      go_simp
      refine hK _ _ ?_
      clear hK K
      refine wpAnyIn_done (by kernel_rfl) ?_ _
      exact fin g2 c2 w1 w2 b1 hr2 hb2 hs2 hko2
    · go_simp
      gi_wp2_with (gi_at_call 75; refine (hlift _ _ _ _ _ G.out).mono ?_; rintro e w1 ⟨rfl, b1⟩)
      try clear hK K
      have hs1 := b1.size
      have hcw : w1.cell? ⟨w.heap.size, 0, none⟩ = some v := (b1.cell (p := ⟨w.heap.size, 0, none⟩) hvl).trans hc1
      have hfw : w1.frozen? ⟨w.heap.size, 0, none⟩ = false := (World.frozen?_of_block (a := ⟨w.heap.size, 0, none⟩) (b1.block _ hvl)).trans hf1
      have hr1 := hkr.keep (w' := w1) (fun g _ h2 => b1.block g h2)
      have hz1 := Nat.le_trans hz hs1
      have hvl1 : w.heap.size < w1.heap.size := by omega
      have hca := cell_past (.cells #[.int .u32 X] 62) hcw
      have hfa := frozen_past (.cells #[.int .u32 X] 62) hcw hfw
      refine wpAnyIn_ready (rs := [0, 3]) (by kernel_rfl) (by simp) (AllReadyIn.cons rfl (fun K hK => ?_) (AllReadyIn.cons rfl (fun K hK => ?_) AllReadyIn.nil))
      · go_simp
        refine hK _ _ ?_
        clear hK K
        refine wpAnyIn_ready (rs := [3]) (by kernel_rfl) (by simp) (AllReadyIn.cons rfl (fun K hK => ?_) AllReadyIn.nil)
        go_simp
        refine hK _ _ ?_
        clear hK K
        refine wpAnyIn_ready (rs := [4]) (by kernel_rfl) (by simp) (AllReadyIn.cons rfl (fun K hK => ?_) AllReadyIn.nil)
        refine stepIn_krow_append rfl _ _ rfl _ (w.heap.size + 3) v Lw rfl (hr1.alloc _) (by simp; omega) ⟨w1.heap.size, 0, none⟩ 1 X rfl (cell_one w1 _ _) (by omega) ?_
        intro g2 c2 w2 hr2 hb2 hs2 hko2
        refine hK _ _ ?_
        clear hK K
        have hcx := (hb2.cell (p := ⟨w.heap.size, 0, none⟩) (by simp)).trans hca
        have hfx := (World.frozen?_of_block (a := ⟨w.heap.size, 0, none⟩) (hb2.block w.heap.size (by omega))).trans hfa
        refine wpAnyIn_ready (rs := [5]) (by kernel_rfl) (by simp) (AllReadyIn.cons rfl (fun K hK => ?_) AllReadyIn.nil)
        go_simp
        refine hK _ _ ?_
        clear hK K
        refine wpAnyIn_done (by kernel_rfl) ?_ _
        exact fin g2 c2 w1 w2 b1 hr2 hb2 hs2 hko2
      · go_simp
        refine hK _ _ ?_
        clear hK K
        refine wpAnyIn_ready (rs := [0]) (by kernel_rfl) (by simp) (AllReadyIn.cons rfl (fun K hK => ?_) AllReadyIn.nil)
        go_simp
        refine hK _ _ ?_
        clear hK K
        refine wpAnyIn_ready (rs := [4]) (by kernel_rfl) (by simp) (AllReadyIn.cons rfl (fun K hK => ?_) AllReadyIn.nil)
        refine stepIn_krow_append rfl _ _ rfl _ (w.heap.size + 3) v Lw rfl (hr1.alloc _) (by simp; omega) ⟨w1.heap.size, 0, none⟩ 1 X rfl (cell_one w1 _ _) (by omega) ?_
        intro g2 c2 w2 hr2 hb2 hs2 hko2
        refine hK _ _ ?_
        clear hK K
        have hcx := (hb2.cell (p := ⟨w.heap.size, 0, none⟩) (by simp)).trans hca
        have hfx := (World.frozen?_of_block (a := ⟨w.heap.size, 0, none⟩) (hb2.block w.heap.size (by omega))).trans hfa
        refine wpAnyIn_ready (rs := [5]) (by kernel_rfl) (by simp) (AllReadyIn.cons rfl (fun K hK => ?_) AllReadyIn.nil)
        go_simp
        refine hK _ _ ?_
        clear hK K
        refine wpAnyIn_done (by kernel_rfl) ?_ _
        exact fin g2 c2 w1 w2 b1 hr2 hb2 hs2 hko2
  case done =>
    rintro D ys W hD hys ⟨⟨⟨v, hv, hrow, _⟩, hz⟩, hB⟩ hK
    obtain ⟨q, hq1, hq2, hq3⟩ := hys
    have hqk : q = k := by
      have := Hm.out
      by_cases h0 : 0 < q
      · have := hq3 h0; omega
      · omega
    have hlen : ys.length = q := by rw [← List.length_map (f := fun p : Pc4 m => p.1), hq1, List.length_range]
    rw [wordsOf_all l ys q hq1, hlen, hqk] at hrow
    have hc1 := hv.cell
    gi_wp2
    refine ⟨by simp, .inl ⟨_, _, rfl, run_takeDeferred hK, ?_⟩⟩
    refine ⟨_, results_tmp rfl _ _ _, ⟨v, rfl, ?_⟩, hB.trans (belowK_b (w := w) (Nat.le_refl _) W D _ _ (by omega) hK rfl rfl)⟩
    have ho := ownsRow_putObj hrow (.deferred none) hK rfl
    have hkr : KRow (W.putObj D (.deferred none)) (w.heap.size + 3) v (wordsLow l k) := ⟨by rw [wordsLow_len]; exact ho⟩
    exact hkr.lower (by omega)
  case stop =>
    rintro D c pre W _ _ h _
    exact h.elim
end Go.Proofs.YtpoiecdifhkegaaDoor
