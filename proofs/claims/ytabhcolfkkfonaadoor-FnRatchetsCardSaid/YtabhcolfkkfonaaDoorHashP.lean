/- The hash of the program: a range over slices.Chunk. -/
import Derived.Test.YtabhcolfkkfonaaDoorChunkP
import Derived.Test.YtabhcolfkkfonaaDoorBase
namespace Go.Proofs.YtabhcolfkkfonaaDoor
open Go.RowKit Go.Shelf

attribute [local go_sem] Oper.semAt_some

/-- 32 bytes of the call's own, the hash of l -/
def HashOut (l : List Int) (w : World) (e : Ending) (w' : World) : Prop := (∃ A c, e = .returned (.slice A 32 c) ∧ Row w' w.heap.size (.slice A 32 c) (hashW l)) ∧ Below w.heap.size w w'

theorem keepsOthers_below {W W' : World} (h : Below W.heap.size W W') : KeepsOthers W W' := ⟨h.size, fun k _ hk _ => (h.block k (Array.getElem?_eq_some_iff.1 hk).1).trans hk⟩
theorem keepsOthers8 (w : World) (g : Nat) (v0 v1 v2 v3 v4 v5 v6 v7 : Value) :
    KeepsOthers w ((((((((w.setCell ⟨g, 0, none⟩ v0).setCell ⟨g, 1, none⟩ v1).setCell ⟨g, 2, none⟩ v2).setCell ⟨g, 3, none⟩ v3).setCell ⟨g, 4, none⟩ v4).setCell ⟨g, 5, none⟩ v5).setCell ⟨g, 6, none⟩ v6).setCell ⟨g, 7, none⟩ v7) :=
  (((((((KeepsOthers.setCell _ _ _).trans (KeepsOthers.setCell _ _ _)).trans (KeepsOthers.setCell _ _ _)).trans (KeepsOthers.setCell _ _ _)).trans (KeepsOthers.setCell _ _ _)).trans (KeepsOthers.setCell _ _ _)).trans (KeepsOthers.setCell _ _ _)).trans (KeepsOthers.setCell _ _ _)
theorem heap8 (w : World) (g k : Nat) (hk : k ≠ g) (v0 v1 v2 v3 v4 v5 v6 v7 : Value) :
    ((((((((w.setCell ⟨g, 0, none⟩ v0).setCell ⟨g, 1, none⟩ v1).setCell ⟨g, 2, none⟩ v2).setCell ⟨g, 3, none⟩ v3).setCell ⟨g, 4, none⟩ v4).setCell ⟨g, 5, none⟩ v5).setCell ⟨g, 6, none⟩ v6).setCell ⟨g, 7, none⟩ v7).heap[k]? = w.heap[k]? := by
  have e : ∀ (W : World) (i : Nat) (v : Value), (W.setCell ⟨g, i, none⟩ v).heap[k]? = W.heap[k]? := fun W i v => Below.heap_setCell W ⟨g, i, none⟩ v k hk
  rw [e, e, e, e, e, e, e, e]
/-- a block of cells lies still where no cells are turned -/
theorem block_kept {W W' : World} {row : Option Nat} {b : Nat} {cs : Array Value} {t : TypeId} {f : Nat × Nat} (h : W.heap[b]? = some (.cells cs t f)) (hg : W.grownBy W' row) (hr : ∀ r, row = some r → ∃ o : Obj, W.heap[r]? = some o ∧ o.isCells = false) : W'.heap[b]? = W.heap[b]? :=
  hg.block b (Array.getElem?_eq_some_iff.1 h).1 (fun e => by
    obtain ⟨o, ho, hc⟩ := hr b e.symm
    rw [h] at ho
    injection ho with ho
    subst ho
    cases hc)
/-- eight words at block g of cells -/
structure St (w : World) (g : Nat) (l : List Int) : Prop where
  blk : ∃ cs t f, w.heap[g]? = some (.cells cs t f)
  kow : KOw .u32 w g l

theorem St.below {w w' : World} {B g : Nat} {l : List Int} (h : St w g l) (hb : Below B w w') (hl : g < B) : St w' g l := by
  obtain ⟨cs, t, f, e⟩ := h.blk
  exact ⟨⟨cs, t, f, (hb.block g hl).trans e⟩, h.kow.below hb hl⟩
theorem St.kept {W W' : World} {row : Option Nat} {g : Nat} {l : List Int} (h : St W g l) (hg : W.grownBy W' row) (hr : ∀ r, row = some r → ∃ o : Obj, W.heap[r]? = some o ∧ o.isCells = false) : St W' g l := by
  obtain ⟨cs, t, f, e⟩ := h.blk
  have k := block_kept e hg hr
  exact ⟨⟨cs, t, f, k.trans e⟩, h.kow.keep k hg.size⟩
theorem blk8 {w : World} {g : Nat} {cs : Array Value} {t : TypeId} {f : Nat × Nat} (h : w.heap[g]? = some (.cells cs t f)) (v0 v1 v2 v3 v4 v5 v6 v7 : Value) :
    ∃ cs t f, ((((((((w.setCell ⟨g, 0, none⟩ v0).setCell ⟨g, 1, none⟩ v1).setCell ⟨g, 2, none⟩ v2).setCell ⟨g, 3, none⟩ v3).setCell ⟨g, 4, none⟩ v4).setCell ⟨g, 5, none⟩ v5).setCell ⟨g, 6, none⟩ v6).setCell ⟨g, 7, none⟩ v7).heap[g]? = some (.cells cs t f) := by
  have e : ∀ (W : World) (i : Nat) (v : Value), (∃ cs t f, W.heap[g]? = some (.cells cs t f)) → ∃ cs t f, (W.setCell ⟨g, i, none⟩ v).heap[g]? = some (.cells cs t f) := fun W i v ⟨cs, t, f, h⟩ => by
    simp [World.setCell, Array.getElem?_modify, h]
  exact e _ _ _ (e _ _ _ (e _ _ _ (e _ _ _ (e _ _ _ (e _ _ _ (e _ _ _ (e _ _ _ ⟨cs, t, f, h⟩)))))))
set_option maxRecDepth 100000 in
set_option maxHeartbeats 4000000 in
theorem hashParts_in (F : Fence) (n : Nat) (hall : ∀ f, F.fn f) (hlift : ∀ (k : Nat) (f : FuncId) (args : Array Value) (W : World) (R : Ending → World → Prop), Calls Tryd.prog f args W R → CallsIn F k Tryd.prog f args W R) (hro : F.round = none) (hn : 3 ≤ n)
    (g m c : Nat) (ps : List Pt) (w : World) (hT : Tabs w) (h : Pts w g ps) (hm : ps.length = m) (hm2 : m ≤ 1000) (hs : sumN ps ≤ 100000000) :
    CallsIn F n Tryd.prog 42 #[.slice (some ⟨g, 0, none⟩) m c] w (HashOut (catL ps) w) := by
  have h1 : 1 ≤ n := by omega
  have Hc := Shut.mk (fun W (hW : Pts W g ps) => concat_any g m c ps W hW hm hm2 (by omega))
  obtain ⟨P, hP⟩ : ∃ P, P = padW (catL ps) := ⟨_, rfl⟩
  obtain ⟨N, hN⟩ : ∃ N, N = sumN ps := ⟨_, rfl⟩
  have hcl : (catL ps).length = N := by
    have := catL_len h ps.length (Nat.le_refl _)
    rw [List.take_length] at this
    rw [this, hN]
  obtain ⟨q, hq⟩ : ∃ q, P.length = 64 * q := ⟨P.length / 64, by have := padW_whole (catL ps); rw [← hP] at this; omega⟩
  have hq2 : 64 * q ≤ 2000000000 := by
    have e1 := padW_len (catL ps)
    have e2 := padN_lt (catL ps).length
    rw [← hP] at e1
    rw [← hq, e1]; omega
  have Hp := Shut.mk (fun (A : Option Addr) (d : Nat) (W : World) (hW : Bs W A N (catL ps)) => by
    have := padded_any A N d (catL ps) W hW (by omega)
    rw [← hP, hq] at this
    exact this)
  have Hh : Shut (hashW (catL ps) = outTo (chainW P q) 8) := ⟨by unfold hashW; rw [← hP, hq, Nat.mul_div_cancel_left q (by omega : 0 < 64)]⟩
  have Hby : Shut (By P) := ⟨by rw [hP]; exact padW_byte _ (by
    intro x hx
    simp only [catL, List.mem_flatMap] at hx
    obtain ⟨p, hp, hx⟩ := hx
    obtain ⟨i, hi, e⟩ := List.mem_iff_getElem.1 hp
    exact (h.bs i p (by rw [List.getElem?_eq_getElem hi, e])).byte x hx)⟩
  have Hq := Shut.mk hq
  rw [← hN] at Hc
  have TF := hT.first
  obtain ⟨ft, ff, hft⟩ := TF
  have f0 : ∀ i, w.cell? ⟨0, i, none⟩ = ((firstWords.map (Value.int .u32)).toArray)[i]? := fun i => cell_of_row w _ i _ ft ff hft
  have c0 : w.cell? ⟨0, 0, none⟩ = some (.int .u32 1779033703) := f0 0
  have c1 : w.cell? ⟨0, 1, none⟩ = some (.int .u32 3144134277) := f0 1
  have c2 : w.cell? ⟨0, 2, none⟩ = some (.int .u32 1013904242) := f0 2
  have c3 : w.cell? ⟨0, 3, none⟩ = some (.int .u32 2773480762) := f0 3
  have c4 : w.cell? ⟨0, 4, none⟩ = some (.int .u32 1359893119) := f0 4
  have c5 : w.cell? ⟨0, 5, none⟩ = some (.int .u32 2600822924) := f0 5
  have c6 : w.cell? ⟨0, 6, none⟩ = some (.int .u32 528734635) := f0 6
  have c7 : w.cell? ⟨0, 7, none⟩ = some (.int .u32 1541459225) := f0 7
  have Hcl := Shut.mk hcl
  clear hq hP hN hcl f0 hft
  have hPs := h.below (ab (Below.refl _ w) (.cells #[.int .u32 1779033703, .int .u32 3144134277, .int .u32 1013904242, .int .u32 2773480762, .int .u32 1359893119, .int .u32 2600822924, .int .u32 528734635, .int .u32 1541459225] 72))
  refine callsIn_of_wp_marks Tryd.func42 rfl (hall _) ?_ hro
  simp only [Tryd.ntmps42, List.size_toArray, List.length_cons, List.length_nil, Nat.reduceAdd, Nat.reduceSub, Array.replicate_succ, Array.replicate_zero, List.push_toArray, List.append_toArray, List.nil_append, List.cons_append]
  gi_wp2_with (first | (gi_at_call 44; refine (hlift _ _ _ _ _ (Hc.out _ hPs)).mono ?_; rintro e w2 ⟨⟨A2, d2, rfl, r2⟩, b2⟩) | (gi_at_call 50; refine (hlift _ _ _ _ _ (Hp.out A2 d2 w2 (r2.ow' Hcl.out).bs)).mono ?_; rintro e w3 ⟨rfl, k3, b3⟩) | (gi_at_call 49; refine (Chunk_in F (n - 1) (hall _) hro _ _ _ _).mono ?_; rintro e w' ⟨rfl, rfl⟩))
  clear c0 c1 c2 c3 c4 c5 c6 c7 hPs
  have B0 := ab (Below.refl _ w) (.cells #[.int .u32 1779033703, .int .u32 3144134277, .int .u32 1013904242, .int .u32 2773480762, .int .u32 1359893119, .int .u32 2600822924, .int .u32 528734635, .int .u32 1541459225] 72)
  have S0 : St (w.alloc (.cells #[.int .u32 1779033703, .int .u32 3144134277, .int .u32 1013904242, .int .u32 2773480762, .int .u32 1359893119, .int .u32 2600822924, .int .u32 528734635, .int .u32 1541459225] 72)) w.heap.size firstWords := ⟨⟨_, _, _, heap_alloc_new w _⟩, kow_new w .u32 _ firstWords _ rfl⟩
  have s2 := b2.size
  rw [World.size_alloc] at s2
  have s3 := k3.lt
  have B2 := ac B0 b2
  have B3 := ac B2 b3
  have S3 : St w3 w.heap.size firstWords := (S0.below b2 (by simp)).below b3 (by omega)
  have hb1 := one_new w3 (.slice (some ⟨w2.heap.size, 0, none⟩) (64 * q) (64 * q)) 22
  have hb2 := one_new (w3.alloc (.cells #[.slice (some ⟨w2.heap.size, 0, none⟩) (64 * q) (64 * q)] 22)) (.int .i64 64) 3
  rw [World.size_alloc] at hb2
  have hX : ((w3.alloc (.cells #[.slice (some ⟨w2.heap.size, 0, none⟩) (64 * q) (64 * q)] 22)).alloc (.cells #[.int .i64 64] 3)).cell? ⟨w3.heap.size, 0, none⟩ = some (.slice (some ⟨w2.heap.size, 0, none⟩) (64 * q) (64 * q)) := cell_past _ hb1.1
  have hY := hb2.1
  have W4b : Below w3.heap.size w3 ((w3.alloc (.cells #[.slice (some ⟨w2.heap.size, 0, none⟩) (64 * q) (64 * q)] 22)).alloc (.cells #[.int .i64 64] 3)) := ab (ab (Below.refl _ _) _) _
  have z4 : ((w3.alloc (.cells #[.slice (some ⟨w2.heap.size, 0, none⟩) (64 * q) (64 * q)] 22)).alloc (.cells #[.int .i64 64] 3)).heap.size = w3.heap.size + 2 := by simp
  have B4 := B3.trans (W4b.mono (by omega))
  have S4 := S3.below W4b (by omega)
  have k4 := k3.below W4b (by omega)
  clear B0 S0 hb1 hb2 S3 k3 B3 b2 b3 r2 B2
  generalize (w3.alloc (.cells #[.slice (some ⟨w2.heap.size, 0, none⟩) (64 * q) (64 * q)] 22)).alloc (.cells #[.int .i64 64] 3) = w4 at *
  refine wpIn_rangeFunc_ownF hro h1 (gf := 59) (lb := #[.pointer (some ⟨w3.heap.size, 0, none⟩), .pointer (some ⟨w3.heap.size + 1, 0, none⟩)]) rfl (hall _) (enters_of Tryd.func59 (by kernel_rfl) rfl)
    (Chunk_stops F (n - 1) (hall _) hro (by omega) w3.heap.size (w3.heap.size + 1) w.heap.size w2.heap.size q hq2 w4 hX hY)
    (fun {A B C} => Kc.trans) (fun W2 l2 o o' hle ho h1 h2 => ⟨belowK_b (w := w) (Nat.le_refl _) W2 l2 o o' (by omega) ho h1 h2, putObj_other W2 l2 o' _ (by omega), putObj_other W2 l2 o' _ (by omega)⟩) (Below.refl _ _) (fun _ => rfl)
    (fun pre W => (St W w.heap.size (foldB P pre) ∧ Blk W w2.heap.size P ∧ w3.heap.size + 2 ≤ W.heap.size) ∧ Below w.heap.size w W)
    (fun _ _ _ => False)
    (OwnFrom.and (Own.from (fun s A B row hs hg hr => ⟨hs.1.kept hg hr, (block_kept hs.2.1 hg hr).trans hs.2.1, Nat.le_trans hs.2.2 hg.size⟩) _) (ownFrom_below (Nat.le_refl _) (by omega)))
    (fun _ _ _ _ _ hs _ _ => hs)
    ⟨⟨S4, k4, by omega⟩, B4⟩
    (fun x => { tmps := #[.slice (some ⟨g, 0, none⟩) m c, undef, .slice none 0 0, .pointer (some ⟨w.heap.size, 0, none⟩), .slice (some ⟨w2.heap.size, 64 * x.1, none⟩) 64 64, .agg #[.int .u32 1779033703, .int .u32 3144134277, .int .u32 1013904242, .int .u32 2773480762, .int .u32 1359893119, .int .u32 2600822924, .int .u32 528734635, .int .u32 1541459225], .slice (some ⟨g, 0, none⟩) m c, .slice A2 N d2, .slice (some ⟨w2.heap.size, 0, none⟩) (64 * q) (64 * q), .func (.func 59) #[] #[.pointer (some ⟨w3.heap.size, 0, none⟩), .pointer (some ⟨w3.heap.size + 1, 0, none⟩)], .slice (some ⟨w2.heap.size, 64 * x.1, none⟩) 64 64, undef, undef, undef, undef, undef], defers := [] }) ?assign ?body ?done ?stop
  case assign =>
    intro lp x W K hK
    simp only [pieceArgs]
    gi_wp2
    exact hK
  case body =>
    rintro lp pre x W ⟨⟨hS, hP, hz⟩, hB⟩ hpre
    obtain ⟨xk, hxk⟩ := x
    have hwd := foldB_wd P pre
    have hln := foldB_len P pre
    have hsn := foldB_snoc P pre ⟨xk, hxk⟩
    have hbsx := (hP.bsn Hby.out Hq.out).part_ (64 * xk) 64 (by omega)
    rw [Nat.zero_add] at hbsx
    have hTW := hT.keep hB
    generalize foldB P pre = HH at *
    obtain ⟨H0, H1, H2, H3, H4, H5, H6, H7, rfl⟩ := list8x _ hln
    have hl8 := blockW_len8 [H0, H1, H2, H3, H4, H5, H6, H7] ((P.drop (64 * xk)).take 64)
    have G := block_any H0 H1 H2 H3 H4 H5 H6 H7 (some ⟨w2.heap.size, 64 * xk, none⟩) 64 ((P.drop (64 * xk)).take 64) W hTW hwd hbsx (Nat.le_refl _)
    dsimp only at hsn
    obtain ⟨U0, U1, U2, U3, U4, U5, U6, U7, hU⟩ := list8x _ hl8
    rw [hU] at G hsn
    have HSn := Shut.mk hsn
    have kS := hS.kow
    obtain ⟨c0, c1, c2, c3, c4, c5, c6, c7, _⟩ := kS.full8
    have G2 := Shut.mk (G.mono (fun e w' (hh : _ ∧ _) => (⟨hh.1, hh.2, (kS.below hh.2 kS.lt).full8⟩ : _ ∧ _ ∧ _)))
    clear G hU hl8 hsn hln hwd hbsx
    have hd1 : 1 ≤ n - 1 - 1 := by omega
    gi_wp2_with (gi_at_call 51; refine (CallsIn.inRound lp (hlift _ _ _ _ _ G2.out)).mono ?_; rintro e w5 ⟨rfl, b5, x0, x1, x2, x3, x4, x5, x6, x7, y0, y1, y2, y3, y4, y5, y6, y7⟩)
    have hK5 := kS.below b5 kS.lt
    have hP5 : Blk w5 w2.heap.size P := hP.below b5 hP.lt
    have hz5 := b5.size
    obtain ⟨cs, ct, cf, hcs⟩ := hS.blk
    refine ⟨(keepsOthers_below b5).trans (keepsOthers8 _ _ _ _ _ _ _ _ _ _), ⟨below8 (b5.mono hB.size) (Nat.le_refl _) _ _ _ _ _ _ _ _, (heap8 _ _ _ (by omega) _ _ _ _ _ _ _ _).trans (b5.block _ (by omega)), (heap8 _ _ _ (by omega) _ _ _ _ _ _ _ _).trans (b5.block _ (by omega))⟩, ⟨by rw [HSn.out]; exact ⟨blk8 ((b5.block _ kS.lt).trans hcs) _ _ _ _ _ _ _ _, set8 rfl hK5 _ _ _ _ _ _ _ _⟩, (heap8 _ _ _ (by omega) _ _ _ _ _ _ _ _).trans hP5, by simp; omega⟩, below8 (ac hB b5) (Nat.le_refl _) _ _ _ _ _ _ _ _⟩
  case done =>
    rintro D ys W hD hys ⟨⟨hS, _, hz⟩, hB⟩ hK
    rw [foldB_all P ys hys] at hS
    have hwd := chainW_wd P q
    have hln := chainW_len P q
    have hHo := Hh.out
    generalize chainW P q = HH at *
    obtain ⟨H0, H1, H2, H3, H4, H5, H6, H7, rfl⟩ := list8x _ hln
    obtain ⟨c0, c1, c2, c3, c4, c5, c6, c7, _⟩ := hS.kow.full8
    have hDl : D < W.heap.size := (Array.getElem?_eq_some_iff.1 hK).1
    have HH2 := Shut.mk hHo
    clear hHo hln
    gi_wp2_with (gi_at_call 52; refine (hlift _ _ _ _ _ (bytes_any H0 H1 H2 H3 H4 H5 H6 H7 hwd W)).mono ?_; rintro e w6 ⟨⟨A6, d6, rfl, r6⟩, b6⟩)
    have hK6 := (b6.block D hDl).trans hK
    refine ⟨by simp, .inl ⟨_, _, rfl, run_takeDeferred hK6, ?_⟩⟩
    refine ⟨_, results_tmp rfl _ _ _, ⟨A6, d6, rfl, ?_⟩, (ac hB b6).trans (belowK_b (w := w) (Nat.le_refl _) w6 D _ _ (by omega) hK6 rfl rfl)⟩
    rw [HH2.out]
    exact (r6.keep (fun g h1 _ => putObj_other w6 D _ g (by omega))).mono hB.size
  case stop =>
    rintro D c pre W _ _ h _
    exact h.elim

theorem hashParts_any (g m c : Nat) (ps : List Pt) (w : World) (hT : Tabs w) (h : Pts w g ps) (hm : ps.length = m) (hm2 : m ≤ 1000) (hs : sumN ps ≤ 100000000) :
    Calls Tryd.prog 42 #[.slice (some ⟨g, 0, none⟩) m c] w (HashOut (catL ps) w) :=
  (callsIn_wide (n := 3)).1 (hashParts_in Fence.wide 3 (fun _ => trivial) (fun _ _ _ _ _ hc => callsIn_wide.2 hc) rfl (by omega) g m c ps w hT h hm hm2 hs)
end Go.Proofs.YtabhcolfkkfonaaDoor
