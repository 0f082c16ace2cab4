/- A message cut into parts, of the program. -/
import Derived.Test.YtjpnacgdefgalaaApG
import Derived.Test.YtjpnacgdefgalaaApM
import Derived.Test.YtjpnacgdefgalaaSdmC
namespace Go.Proofs.Ytjpnacgdefgalaa
open Go.RowKit Go.Shelf

attribute [local go_sem] Oper.semAt_some

def rawP (l : List Int) (k : Nat) : PartD := ⟨(l.drop (32 * k)).take 32, false, -1, false⟩
def rawL (l : List Int) {m : Nat} (pre : List (Pc32 m)) : List PartD := pre.map fun x => rawP l x.1
theorem rawL_len (l : List Int) {m : Nat} (pre : List (Pc32 m)) : (rawL l pre).length = pre.length := by unfold rawL; simp
theorem rawL_snoc (l : List Int) {m : Nat} (pre : List (Pc32 m)) (x : Pc32 m) : rawL l (pre ++ [x]) = rawL l pre ++ [rawP l x.1] := by unfold rawL; simp
theorem rawL_all (l : List Int) {m : Nat} (pre : List (Pc32 m)) (q : Nat) (h : pre.map (·.1) = List.range q) : rawL l pre = (List.range q).map (rawP l) := by
  unfold rawL; rw [← h, List.map_map]; rfl
theorem raw_cut (l : List Int) (r : Nat) (h0 : 32 * r < l.length) (h1 : l.length ≤ 32 * (r + 1)) : ((List.range (r + 1)).map (rawP l)).set r ⟨(l.drop (32 * r)).take 32, true, -1, false⟩ = cutL l (r + 1) := by
  unfold cutL
  apply List.ext_getElem?
  intro i
  by_cases hi : i < r + 1
  · by_cases hr : r = i
    · subst hr
      rw [List.getElem?_set_self (by simp), List.getElem?_map, List.getElem?_range hi]
      simp only [Option.map_some, pieceAt, decide_eq_true h1]
    · rw [List.getElem?_set_ne hr, List.getElem?_map, List.getElem?_map, List.getElem?_range hi]
      have : ¬ l.length ≤ 32 * (i + 1) := by omega
      simp only [Option.map_some, pieceAt, rawP, decide_eq_false this]
  · rw [List.getElem?_eq_none (by simp; omega), List.getElem?_eq_none (by simp; omega)]

set_option linter.unusedVariables false in
set_option maxRecDepth 100000 in
set_option maxHeartbeats 4000000 in
theorem cut_in (F : Fence) (n : Nat) (hall : ∀ f, F.fn f) (hlift : ∀ (k : Nat) (f : FuncId) (args : Array Value) (W : World) (R : Ending → World → Prop), Calls Try.prog f args W R → CallsIn F k Try.prog f args W R) (hro : F.round = none) (hn : 4 ≤ n)
    (b off m c : Nat) (l : List Int) (w : World) (h : Bs w (some ⟨b, off, none⟩) m l) (h0 : 0 < m) (hk : m ≤ 200) (hc : m ≤ c) :
    CallsIn F n Try.prog 100 #[.slice (some ⟨b, off, none⟩) m c] w fun e w' => (∃ A' c', e = .returned (.slice A' (cntL l) c') ∧ Rm A' (cntL l) c' ∧ Lo PartD.cels 4 w' (rng w.heap.size w'.heap.size) A' (cntL l) (cutL l (cntL l))) ∧ Below w.heap.size w w' := by
  have h1 : 1 ≤ n := by omega
  have Hl := Shut.mk h.len
  refine callsIn_of_wp_marks Try.func100 rfl (hall _) ?_ hro
  simp only [Try.ntmps100, List.size_toArray, List.length_cons, List.length_nil, Nat.reduceAdd, Nat.reduceSub, Array.replicate_succ, Array.replicate_zero, List.push_toArray, List.append_toArray, List.nil_append, List.cons_append]
  gi_wp2_with (gi_at_call 162; refine (Chunk32_in F (n - 1) (hall _) hro _ _ _ _).mono ?_; rintro e w' ⟨rfl, rfl⟩)
  obtain ⟨hX, hY, hbx, W4b, z4⟩ : (((w.alloc (.cells #[.slice none 0 0] 34)).alloc (.cells #[.slice (some ⟨b, off, none⟩) m c] 26)).alloc (.cells #[.int .i64 32] 3)).cell? ⟨w.heap.size + 1, 0, none⟩ = some (.slice (some ⟨b, off, none⟩) m c) ∧
      (((w.alloc (.cells #[.slice none 0 0] 34)).alloc (.cells #[.slice (some ⟨b, off, none⟩) m c] 26)).alloc (.cells #[.int .i64 32] 3)).cell? ⟨w.heap.size + 1 + 1, 0, none⟩ = some (.int .i64 32) ∧
      Boxed (((w.alloc (.cells #[.slice none 0 0] 34)).alloc (.cells #[.slice (some ⟨b, off, none⟩) m c] 26)).alloc (.cells #[.int .i64 32] 3)) w.heap.size 34 (.slice none 0 0) ∧
      Below w.heap.size w (((w.alloc (.cells #[.slice none 0 0] 34)).alloc (.cells #[.slice (some ⟨b, off, none⟩) m c] 26)).alloc (.cells #[.int .i64 32] 3)) ∧
      (((w.alloc (.cells #[.slice none 0 0] 34)).alloc (.cells #[.slice (some ⟨b, off, none⟩) m c] 26)).alloc (.cells #[.int .i64 32] 3)).heap.size = w.heap.size + 3 := by
    have a1 := one_new (w.alloc (.cells #[.slice none 0 0] 34)) (.slice (some ⟨b, off, none⟩) m c) 26
    have a2 := one_new ((w.alloc (.cells #[.slice none 0 0] 34)).alloc (.cells #[.slice (some ⟨b, off, none⟩) m c] 26)) (.int .i64 32) 3
    simp only [World.size_alloc] at a1 a2
    exact ⟨cell_past _ a1.1, a2.1, ((Boxed.new w _ _).alloc _).alloc _, ab (ab (ab (Below.refl _ _) _) _) _, by simp⟩
  have h4 := h.below W4b
  generalize ((w.alloc (.cells #[.slice none 0 0] 34)).alloc (.cells #[.slice (some ⟨b, off, none⟩) m c] 26)).alloc (.cells #[.int .i64 32] 3) = w4 at *
  refine wpIn_rangeFunc_ownF hro h1 (gf := 176) (lb := #[.pointer (some ⟨w.heap.size + 1, 0, none⟩), .pointer (some ⟨w.heap.size + 1 + 1, 0, none⟩)]) rfl (hall _) (enters_of Try.func176 (by kernel_rfl) rfl)
    (Chunk32_stops F (n - 1) (hall _) hro (by omega) (w.heap.size + 1) (w.heap.size + 1 + 1) w.heap.size b off m c (some ⟨b, off, none⟩) (fun _ => rfl) hc (by omega) w4 hX hY)
    (fun {A B C} => Kd32.trans) (fun W2 l2 o o' hle ho h1 h2 => ⟨belowK_b (w := w) (Nat.le_refl _) W2 l2 o o' (by omega) ho h1 h2, putObj_other W2 l2 o' _ (by omega), putObj_other W2 l2 o' _ (by omega)⟩) (Below.refl _ _) (fun _ => rfl)
    (fun pre W => ((∃ v, Boxed W w.heap.size 34 v ∧ Ap PartD.cels 4 96 W (w.heap.size + 3) v (rawL l pre)) ∧ w.heap.size + 3 ≤ W.heap.size) ∧ Below w.heap.size w W)
    (fun _ _ _ => False)
    (OwnFrom.and (OwnFrom.and (Own.from (Ap.own_ (w.heap.size + 3) w.heap.size 34 (fun pre => rawL l pre)) _) (fun _ A B _ hs hg _ => Nat.le_trans hs hg.size)) (ownFrom_below (Nat.le_refl _) (by omega)))
    (fun _ _ _ _ _ hs _ _ => hs)
    ⟨⟨⟨.slice none 0 0, hbx, Ap.nil_ _ _⟩, by omega⟩, W4b⟩
    (fun x => { tmps := #[.slice (some ⟨b, off, none⟩) m c, undef, .slice none 0 0, .pointer (some ⟨w.heap.size, 0, none⟩), .slice (some ⟨b, off + 32 * x.1, none⟩) (len32 m x.1) (len32 m x.1), .slice (some ⟨b, off, none⟩) m c, .func (.func 176) #[] #[.pointer (some ⟨w.heap.size + 1, 0, none⟩), .pointer (some ⟨w.heap.size + 1 + 1, 0, none⟩)], .slice (some ⟨b, off + 32 * x.1, none⟩) (len32 m x.1) (len32 m x.1), undef, undef, undef, undef, undef, undef, undef, undef, undef, undef, undef, undef, undef], defers := [] }) ?assign ?body ?done ?stop
  case assign =>
    intro lp x W K hK
    simp only [pcArgs32]
    gi_wp2
    exact hK
  case body =>
    rintro lp pre x W ⟨⟨⟨v, hv, hap⟩, hz⟩, hB⟩ hpre
    obtain ⟨xk, hxk⟩ := x
    have hql : len32 m xk ≤ 32 := by unfold len32; split <;> omega
    have hqd : (l.drop (32 * xk)).length = m - 32 * xk := by rw [List.length_drop, Hl.out]
    have htk : (l.drop (32 * xk)).take (len32 m xk) = (l.drop (32 * xk)).take 32 := by
      unfold len32
      split
      · rfl
      · rw [List.take_of_length_le (by omega), List.take_of_length_le (by omega)]
    have hp := (h.below hB).part_ (32 * xk) (len32 m xk) (by unfold len32; split <;> omega)
    rw [htk] at hp
    have hsn := rawL_snoc l pre ⟨xk, hxk⟩
    have hwl := rawL_len l pre
    have hc1 := hv.cell
    have hf1 := hv.frozen
    have hvl := hv.lt
    have hd1 : 1 ≤ n - 1 - 1 := by omega
    obtain ⟨P, hP⟩ : ∃ P, P = rawP l xk := ⟨_, rfl⟩
    have hP0 : (l.drop (32 * xk)).take 32 = P.f0 := by rw [hP]; rfl
    have hP1 : P.f1 = false := by rw [hP]; rfl
    have hP2 : P.f2 = -1 := by rw [hP]; rfl
    have hP3 : P.f3 = false := by rw [hP]; rfl
    rw [hP0] at hp
    dsimp only at hsn
    rw [← hP] at hsn
    dsimp only
    obtain ⟨q, hq⟩ : ∃ q, q = len32 m xk := ⟨_, rfl⟩
    rw [← hq] at hp hql ⊢
    have G := Shut.mk (clone_any (some ⟨b, off + 32 * xk, none⟩) q q P.f0 W.drew (hp.below (Below.refl _ W).drew) (fun h => by cases h) (by omega))
    obtain ⟨Lw, hLw⟩ : ∃ Lw, Lw = rawL l pre := ⟨_, rfl⟩
    rw [← hLw] at hap hsn hwl
    have HSn := Shut.mk hsn
    have HWl := Shut.mk hwl
    have HP := Shut.mk (And.intro hP1 (And.intro hP2 hP3))
    have hlen : Lw.length ≤ 10000000 := by omega
    have HLen : Shut (∀ e : PartD, (Lw ++ [e]).length = Lw.length + 1) := ⟨fun e => by simp⟩
    clear hsn hwl hP0 hP1 hP2 hP3 hP htk hqd hq hp hLw
    gi_wp2
    refine region_round lp hro (by kernel_rfl) (by kernel_rfl) ?_
    have fin : ∀ (v2 : Value) (w1 w2 : World) (A1 : Option Addr) (c1 : Nat), Below W.drew.heap.size W.drew w1 → Ap PartD.cels 4 96 w2 (w.heap.size + 3) v2 (Lw ++ [P]) → Below (w.heap.size + 3) (w1.alloc (.cells #[.slice A1 q c1, .bool false, .int .i64 (-1), .bool false] 96)) w2 → KeepsOthers (w1.alloc (.cells #[.slice A1 q c1, .bool false, .int .i64 (-1), .bool false] 96)) w2 →
        KeepsOthers W (w2.setCell ⟨w.heap.size, 0, none⟩ v2) ∧ Kd32 w.heap.size (w.heap.size + 1) (w.heap.size + 1 + 1) W (w2.setCell ⟨w.heap.size, 0, none⟩ v2) ∧
        ((∃ v, Boxed (w2.setCell ⟨w.heap.size, 0, none⟩ v2) w.heap.size 34 v ∧ Ap PartD.cels 4 96 (w2.setCell ⟨w.heap.size, 0, none⟩ v2) (w.heap.size + 3) v (rawL l (pre ++ [(⟨xk, hxk⟩ : Pc32 m)]))) ∧ w.heap.size + 3 ≤ (w2.setCell ⟨w.heap.size, 0, none⟩ v2).heap.size) ∧ Below w.heap.size w (w2.setCell ⟨w.heap.size, 0, none⟩ v2) := by
      intro v2 w1 w2 A1 c1 b1 hap2 hb2 hko
      have b1' : Below W.heap.size W w1 := (Below.refl W.heap.size W).drew.trans b1
      have s1 := b1'.size
      have b2 : Below (w.heap.size + 3) W w2 := ((b1'.mono hz).trans ((Below.refl _ w1).alloc (by omega) _)).trans hb2
      have hs2 := hb2.size
      simp only [World.size_alloc] at hs2
      have hv2 : Boxed w2 w.heap.size 34 v := (b2.block _ (by omega)).trans hv
      refine ⟨(((keepsOthers_bw b1').trans (KeepsOthers.alloc _ _)).trans hko).trans (KeepsOthers.setCell _ _ _), ⟨(b2.mono (show w.heap.size ≤ w.heap.size + 3 by omega)).setCell (p := ⟨w.heap.size, 0, none⟩) (Nat.le_refl _) _, ?_, ?_⟩, ⟨⟨_, hv2.set _, ?_⟩, ?_⟩, (hB.trans (b2.mono (show w.heap.size ≤ w.heap.size + 3 by omega))).setCell (p := ⟨w.heap.size, 0, none⟩) (Nat.le_refl _) _⟩
      · exact (Below.heap_setCell w2 ⟨w.heap.size, 0, none⟩ _ _ (by simp; try omega)).trans (b2.block _ (by omega))
      · exact (Below.heap_setCell w2 ⟨w.heap.size, 0, none⟩ _ _ (by simp; try omega)).trans (b2.block _ (by omega))
      · rw [HSn.out]
        exact hap2.far (p := ⟨w.heap.size, 0, none⟩) (by show w.heap.size < _; omega) _
      · simp only [World.size_setCell]
        omega
    have app : ∀ (w1 : World) (A1 : Option Addr) (c1 : Nat), Below W.drew.heap.size W.drew w1 → Ow w1 W.drew.heap.size A1 q P.f0 → Rm A1 q c1 → ∀ j b, Gone 0 q A1 j b → W.heap.size ≤ b ∧ b < (w1.alloc (.cells #[.slice A1 q c1, .bool false, .int .i64 (-1), .bool false] 96)).heap.size := fun w1 A1 c1 _ ho _ j b hb => Gone.in_ (ho.alloc _) j b hb
    have cel : ∀ (w1 : World) (A1 : Option Addr) (c1 : Nat), Ow w1 W.drew.heap.size A1 q P.f0 → Rm A1 q c1 → ∀ (j : Nat) (d : Cel), (PartD.cels P)[j]? = some d → ∃ u : Value, [Value.slice A1 q c1, .bool false, .int .i64 (-1), .bool false][j]? = some u ∧ Cel.ow (w1.alloc (.cells #[.slice A1 q c1, .bool false, .int .i64 (-1), .bool false] 96)) (Gone 0 q A1 j) u d := by
      intro w1 A1 c1 ho hrm j d hj
      rcases j with _ | _ | _ | _ | j <;> simp [PartD.cels] at hj <;> subst hj
      · exact ⟨_, rfl, Gone.ow (ho.alloc _) hrm.2⟩
      · exact ⟨_, rfl, by rw [HP.out.1]; rfl⟩
      · exact ⟨_, rfl, by rw [HP.out.2.1]; rfl⟩
      · exact ⟨_, rfl, by rw [HP.out.2.2]; rfl⟩
    refine wpAnyIn_take (i := 1) (v := .slice (some ⟨b, off + 32 * xk, none⟩) q q) hro rfl (by kernel_rfl) (by kernel_rfl) (by kernel_rfl) (fun _ _ _ h => h) ?_ ?_
    · exact ⟨Or.inl ⟨by rfl, fun w => by go_simp⟩, fun _ => rfl⟩
    go_simp
    have hf1' := hf1
    refine wpAnyIn_ready (rs := [0, 2]) (by kernel_rfl) (by simp) (AllReadyIn.cons rfl (fun K hK => ?_) (AllReadyIn.cons rfl (fun K hK => ?_) AllReadyIn.nil))
    · go_simp
      refine hK _ _ ?_
      clear hK K
      refine wpAnyIn_ready (rs := [2]) (by kernel_rfl) (by simp) (AllReadyIn.cons rfl (fun K hK => ?_) AllReadyIn.nil)
      go_simp
      gi_wp2_with (gi_at_call 116; refine (hlift _ _ _ _ _ G.out).mono ?_; rintro e w1 ⟨⟨A1, c1, rfl, ho, hrm⟩, b1⟩)
      try clear hK K
      have hs1 := b1.size
      have hcw : w1.cell? ⟨w.heap.size, 0, none⟩ = some v := (b1.cell (p := ⟨w.heap.size, 0, none⟩) hvl).trans hc1
      have hfw : w1.frozen? ⟨w.heap.size, 0, none⟩ = false := (World.frozen?_of_block (a := ⟨w.heap.size, 0, none⟩) (b1.block _ hvl)).trans hf1
      have hvl1 : w.heap.size < w1.heap.size := by simp at hs1; omega
      have hca := cell_past (.cells #[.slice A1 q c1, .bool false, .int .i64 (-1), .bool false] 96) hcw
      have hfa := frozen_past (.cells #[.slice A1 q c1, .bool false, .int .i64 (-1), .bool false] 96) hcw hfw
      refine wpAnyIn_ready (rs := [3]) (by kernel_rfl) (by simp) (AllReadyIn.cons rfl (fun K hK => ?_) AllReadyIn.nil)
      go_simp
      refine hK _ _ ?_
      clear hK K
      refine wpAnyIn_ready (rs := [4]) (by kernel_rfl) (by simp) (AllReadyIn.cons rfl (fun K hK => ?_) AllReadyIn.nil)
      go_simp
      refine hK _ _ ?_
      clear hK K
      refine wpAnyIn_ready (rs := [5]) (by kernel_rfl) (by simp) (AllReadyIn.cons rfl (fun K hK => ?_) AllReadyIn.nil)
      refine stepIn_ap_append (cels := PartD.cels) Try.underlying34 info_Part rfl (by decide) (by decide) (fun _ => rfl) rfl _ _ rfl W _ (w.heap.size + 3) v Lw hap (ab ((Below.refl W.heap.size W).drew.trans b1) _) hz rfl hlen ⟨w1.heap.size, 0, none⟩ 1 [.slice A1 q c1, .bool false, .int .i64 (-1), .bool false] rfl rfl (cells_new rfl _ _) (by simp [Value.oneCell']) P (Gone 0 q A1) (app w1 A1 c1 b1 ho hrm) Gone.dis (cel w1 A1 c1 ho hrm) ?_
      intro v2 w2 hap2 hb2 hko2
      obtain ⟨A2, c2, rfl, _, _⟩ := hap2.lo (HLen.out P)
      refine hK _ _ ?_
      clear hK K
      have hcx := (hb2.cell (p := ⟨w.heap.size, 0, none⟩) (by simp)).trans hca
      have hfx := (World.frozen?_of_block (a := ⟨w.heap.size, 0, none⟩) (hb2.block w.heap.size (by omega))).trans hfa
      refine wpAnyIn_ready (rs := [6]) (by kernel_rfl) (by simp) (AllReadyIn.cons rfl (fun K hK => ?_) AllReadyIn.nil)
      go_simp
      refine hK _ _ ?_
      clear hK K
      refine wpAnyIn_done (by kernel_rfl) ?_ _
      exact fin _ w1 w2 A1 c1 b1 hap2 hb2 hko2
    · go_simp
      gi_wp2_with (gi_at_call 116; refine (hlift _ _ _ _ _ G.out).mono ?_; rintro e w1 ⟨⟨A1, c1, rfl, ho, hrm⟩, b1⟩)
      try clear hK K
      have hs1 := b1.size
      have hcw : w1.cell? ⟨w.heap.size, 0, none⟩ = some v := (b1.cell (p := ⟨w.heap.size, 0, none⟩) hvl).trans hc1
      have hfw : w1.frozen? ⟨w.heap.size, 0, none⟩ = false := (World.frozen?_of_block (a := ⟨w.heap.size, 0, none⟩) (b1.block _ hvl)).trans hf1
      have hvl1 : w.heap.size < w1.heap.size := by simp at hs1; omega
      have hca := cell_past (.cells #[.slice A1 q c1, .bool false, .int .i64 (-1), .bool false] 96) hcw
      have hfa := frozen_past (.cells #[.slice A1 q c1, .bool false, .int .i64 (-1), .bool false] 96) hcw hfw
      refine wpAnyIn_take (i := 3) (v := .agg #[.slice A1 q c1, .bool false, .int .i64 (-1), .bool false]) hro rfl (by kernel_rfl) (by kernel_rfl) (by kernel_rfl) (fun _ _ _ h => h) ?_ ?_
      · exact ⟨Or.inl ⟨by rfl, fun w => by go_simp⟩, fun _ => rfl⟩
      go_simp
      refine wpAnyIn_ready (rs := [0, 4]) (by kernel_rfl) (by simp) (AllReadyIn.cons rfl (fun K hK => ?_) (AllReadyIn.cons rfl (fun K hK => ?_) AllReadyIn.nil))
      · go_simp
        refine hK _ _ ?_
        clear hK K
        refine wpAnyIn_ready (rs := [4]) (by kernel_rfl) (by simp) (AllReadyIn.cons rfl (fun K hK => ?_) AllReadyIn.nil)
        go_simp
        refine hK _ _ ?_
        clear hK K
        refine wpAnyIn_ready (rs := [5]) (by kernel_rfl) (by simp) (AllReadyIn.cons rfl (fun K hK => ?_) AllReadyIn.nil)
        refine stepIn_ap_append (cels := PartD.cels) Try.underlying34 info_Part rfl (by decide) (by decide) (fun _ => rfl) rfl _ _ rfl W _ (w.heap.size + 3) v Lw hap (ab ((Below.refl W.heap.size W).drew.trans b1) _) hz rfl hlen ⟨w1.heap.size, 0, none⟩ 1 [.slice A1 q c1, .bool false, .int .i64 (-1), .bool false] rfl rfl (cells_new rfl _ _) (by simp [Value.oneCell']) P (Gone 0 q A1) (app w1 A1 c1 b1 ho hrm) Gone.dis (cel w1 A1 c1 ho hrm) ?_
        intro v2 w2 hap2 hb2 hko2
        obtain ⟨A2, c2, rfl, _, _⟩ := hap2.lo (HLen.out P)
        refine hK _ _ ?_
        clear hK K
        have hcx := (hb2.cell (p := ⟨w.heap.size, 0, none⟩) (by simp)).trans hca
        have hfx := (World.frozen?_of_block (a := ⟨w.heap.size, 0, none⟩) (hb2.block w.heap.size (by omega))).trans hfa
        refine wpAnyIn_ready (rs := [6]) (by kernel_rfl) (by simp) (AllReadyIn.cons rfl (fun K hK => ?_) AllReadyIn.nil)
        go_simp
        refine hK _ _ ?_
        clear hK K
        refine wpAnyIn_done (by kernel_rfl) ?_ _
        exact fin _ w1 w2 A1 c1 b1 hap2 hb2 hko2
      · go_simp
        refine hK _ _ ?_
        clear hK K
        refine wpAnyIn_ready (rs := [0]) (by kernel_rfl) (by simp) (AllReadyIn.cons rfl (fun K hK => ?_) AllReadyIn.nil)
        go_simp
        refine hK _ _ ?_
        clear hK K
        refine wpAnyIn_ready (rs := [5]) (by kernel_rfl) (by simp) (AllReadyIn.cons rfl (fun K hK => ?_) AllReadyIn.nil)
        refine stepIn_ap_append (cels := PartD.cels) Try.underlying34 info_Part rfl (by decide) (by decide) (fun _ => rfl) rfl _ _ rfl W _ (w.heap.size + 3) v Lw hap (ab ((Below.refl W.heap.size W).drew.trans b1) _) hz rfl hlen ⟨w1.heap.size, 0, none⟩ 1 [.slice A1 q c1, .bool false, .int .i64 (-1), .bool false] rfl rfl (cells_new rfl _ _) (by simp [Value.oneCell']) P (Gone 0 q A1) (app w1 A1 c1 b1 ho hrm) Gone.dis (cel w1 A1 c1 ho hrm) ?_
        intro v2 w2 hap2 hb2 hko2
        obtain ⟨A2, c2, rfl, _, _⟩ := hap2.lo (HLen.out P)
        refine hK _ _ ?_
        clear hK K
        have hcx := (hb2.cell (p := ⟨w.heap.size, 0, none⟩) (by simp)).trans hca
        have hfx := (World.frozen?_of_block (a := ⟨w.heap.size, 0, none⟩) (hb2.block w.heap.size (by omega))).trans hfa
        refine wpAnyIn_ready (rs := [6]) (by kernel_rfl) (by simp) (AllReadyIn.cons rfl (fun K hK => ?_) AllReadyIn.nil)
        go_simp
        refine hK _ _ ?_
        clear hK K
        refine wpAnyIn_done (by kernel_rfl) ?_ _
        exact fin _ w1 w2 A1 c1 b1 hap2 hb2 hko2
  case done =>
    rintro D ys W hD hys ⟨⟨⟨v, hv, hap⟩, hz⟩, hB⟩ hK
    obtain ⟨q, hq1, hq2, hq3⟩ := hys
    have hqk : Shut (cntL l = q) := ⟨by
      unfold cntL
      rw [Hl.out]
      by_cases h0 : 0 < q
      · have := hq3 h0; omega
      · omega⟩
    obtain ⟨r, rfl⟩ : ∃ r, q = r + 1 := ⟨q - 1, by omega⟩
    have hr0 := hq3 (by omega)
    have hrc := raw_cut l r (by rw [Hl.out]; omega) (by rw [Hl.out]; omega)
    rw [rawL_all l ys (r + 1) hq1] at hap
    have hlen : ((List.range (r + 1)).map (rawP l)).length = r + 1 := by simp
    obtain ⟨A2, c2, rfl, hrm, hlo⟩ := hap.lo hlen
    obtain ⟨g, o2, G, rfl, hFg, hgl, hgf, hGG, hcc, hup⟩ := hlo.upd (fun _ => rfl) (k := r) (e := rawP l r) (by simp)
    obtain ⟨x0, c0, hx0⟩ := hcc 0 _ rfl
    obtain ⟨x1, c1, rfl⟩ := hcc 1 _ rfl
    obtain ⟨x2, c2', hx2⟩ := hcc 2 _ rfl
    obtain ⟨x3, c3, hx3⟩ := hcc 3 _ rfl
    have hFg2 := hFg.1
    have hvl := hv.lt
    have Hup := Shut.mk hup
    have Hrc := Shut.mk hrc
    clear hup hrc hlen hlo hap hcc hq1 hq2 hq3
    have hc1 := hv.cell
    have hfz := hgf (o2 + r * 4 + 1)
    have hidx : ((r + 1 : Nat) : Int) - 1 = (r : Int) := by omega
    have hne : ¬ w.heap.size = g := by omega
    have hgD : D ≠ g := fun e => by
      obtain ⟨o, ho, hco⟩ := cells_of_cell c1
      rw [← e, hK] at ho
      cases ho
      cases hco
    gi_wp2
    have hK2 : (W.setCell ⟨g, o2 + r * 4 + 1, none⟩ (.bool true)).heap[D]? = some (.deferred (some [])) := (heapOff _ hgD).trans hK
    refine ⟨by simp, .inl ⟨_, _, rfl, run_takeDeferred hK2, ?_⟩⟩
    have hL1 := Hup.out.out (W.setCell ⟨g, o2 + r * 4 + 1, none⟩ (.bool true)) ⟨(l.drop (32 * r)).take 32, true, -1, false⟩ (by simp) (fun i => by simp only [World.frozen?_setCell]; exact hgf i) (fun b' _ hbg' _ _ => heapOff _ hbg') (fun i hi => cellOff _ (by omega)) (fun j d hj => by
      rcases j with _ | _ | _ | _ | j <;> simp [PartD.cels] at hj <;> subst hj
      · obtain ⟨A3, n3, c3, e3, hb3, hz3⟩ := hx0
        exact ⟨x0, by rw [cellOff _ (by omega)]; exact c0, A3, n3, c3, e3, hb3.keep (by simp) (fun b' hb' _ => heapOff _ (hGG 0 b' hb').2), hz3⟩
      · exact ⟨_, cellOn _ c1, rfl⟩
      · exact ⟨x2, by rw [cellOff _ (by omega)]; exact c2', hx2⟩
      · exact ⟨x3, by rw [cellOff _ (by omega)]; exact c3, hx3⟩)
    rw [Hrc.out] at hL1
    have hL2 := (hL1.grown (fun _ => Nat.succ_pos _) (grownBy_putObj' _ D (.deferred none)) (fun q e => by cases e; exact ⟨_, hK2, rfl⟩)).wider (H := rng w.heap.size ((W.setCell ⟨g, o2 + r * 4 + 1, none⟩ (.bool true)).putObj D (.deferred none)).heap.size) (fun b' hb' => ⟨by have := hb'.1; omega, by have := hb'.2; simp [World.putObj] at this ⊢; exact this⟩)
    refine ⟨_, results_tmp rfl _ _ _, ⟨_, c2, by rw [hqk.out]; rfl, by rw [hqk.out]; exact hrm, by rw [hqk.out]; exact hL2⟩, ?_⟩
    exact ((hB.setCell (p := ⟨g, o2 + r * 4 + 1, none⟩) (by show w.heap.size ≤ g; omega) _)).trans (belowK_b (w := w) (Nat.le_refl _) _ D _ _ (by omega) hK2 rfl rfl)
  case stop =>
    rintro D c pre W _ _ h _
    exact h.elim

theorem cut_any (b off m c : Nat) (l : List Int) (w : World) (h : Bs w (some ⟨b, off, none⟩) m l) (h0 : 0 < m) (hk : m ≤ 200) (hc : m ≤ c) :
    Calls Try.prog 100 #[.slice (some ⟨b, off, none⟩) m c] w fun e w' => (∃ A' c', e = .returned (.slice A' (cntL l) c') ∧ Rm A' (cntL l) c' ∧ Lo PartD.cels 4 w' (rng w.heap.size w'.heap.size) A' (cntL l) (cutL l (cntL l))) ∧ Below w.heap.size w w' :=
  (callsIn_wide (n := 4)).1 (cut_in Fence.wide 4 (fun _ => trivial) (fun _ _ _ _ _ hc => callsIn_wide.2 hc) rfl (by omega) b off m c l w h h0 hk hc)
end Go.Proofs.Ytjpnacgdefgalaa
