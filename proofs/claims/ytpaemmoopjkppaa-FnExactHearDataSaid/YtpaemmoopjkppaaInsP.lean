/- slices.Insert of one Held: the library's own text. -/
import Derived.Test.YtpaemmoopjkppaaInsC
import Derived.Shelf.RegionOpenPlain
namespace Go.Proofs.Ytpaemmoopjkppaa
open Go.RowKit

theorem size_Held (w : World) : (Go.sizeOf 84).run Try.prog w = .ok 3 w := by
  obtain ⟨i, hi, hz0, hz1, hz2⟩ := info_parts info_Held
  simp [sizeOf, typeInfo, hi, hz1]
theorem take_self3 (cs : List Value) (n : Nat) (h : cs.length = n * 3) : cs.take (n * 3) = cs := List.take_of_length_le (by omega)

set_option linter.unusedVariables false in
set_option maxRecDepth 100000 in
set_option maxHeartbeats 4000000 in
/-- at the end -/
theorem insertEnd_any (B : Nat) (v : Value) (n vb : Nat) (cs : List Value) (x0 x1 x2 : Value) (w : World) (hown : w.ownsRow B 84 3 v n cs) (hn : n ≤ 1000) (hB : B ≤ w.heap.size) (hv : Stc w vb [x0, x1, x2] 84) (h1 : ∀ u ∈ [x0, x1, x2], u.oneCell' = true) :
    Calls Try.prog 90 #[v, .int .i64 n, .slice (some ⟨vb, 0, none⟩) 1 1] w fun e w' => (∃ v', e = .returned v' ∧ w'.ownsRow B 84 3 v' (n + 1) (cs ++ [x0, x1, x2]) ∧ (v'.ownBlock = v.ownBlock ∨ v'.ownBlock = some w.heap.size)) ∧ w.grownBy w' v.ownBlock := by
  obtain ⟨i0, hi0, hz0, hz1, hz2⟩ := info_parts info_Held
  have hcell : ∀ j u, [x0, x1, x2][j]? = some u → w.cell? ((⟨vb, 0, none⟩ : Addr).add j) = some u := fun j u hu => by
    rw [Addr.add_mid, Nat.zero_add]; exact hv.cell hu
  have hown2 := hown
  rcases hown2.2 with ⟨rfl, rfl⟩ | ⟨g, cap, cur, rfl, hBg, hg, hnc, hcm, hcs, htk⟩
  · go_enter Try.func90, Try.ntmps90
    go_wp2_with (at_builtin; refine wpList_append_own_at w rfl _ _ _ rfl B 84 i0 _ 3 40 Try.underlying30 hi0 hz0 hz1 hz2 rfl (by decide) _ 0 cs rfl hown _ 1 1 [x0, x1, x2] rfl rfl hcell h1 (by simp [maxLen]) (by simp) hB ?_; intro v' w1 ho hgr hnl hat)
    go_ret
    exact ⟨⟨v', rfl, ho, hat⟩, hgr⟩
  · have hb3 : n ≤ cap := hnc
    have hc63 : cap ≤ 9223372036854775807 := by simp only [maxLen] at hcm; omega
    clear hg hcs htk
    go_enter Try.func90, Try.ntmps90
    go_wp2_with (at_builtin; refine wpList_append_own_at w rfl _ _ _ rfl B 84 i0 _ 3 40 Try.underlying30 hi0 hz0 hz1 hz2 rfl (by decide) _ n cs rfl hown _ 1 1 [x0, x1, x2] rfl rfl hcell h1 (by simp [maxLen]; omega) (by omega) hB ?_; intro v' w1 ho hgr hnl hat)
    all_goals
      go_ret
      exact ⟨⟨v', rfl, ho, hat⟩, hgr⟩

theorem own_open {w : World} {B g n cap : Nat} {t : TypeId} {cs : List Value} (hown : w.ownsRow B t 3 (.slice (some ⟨g, 0, none⟩) n cap) n cs) : B ≤ g ∧ ∃ cur : Array Value, w.heap[g]? = some (.cells cur t (0, 0)) ∧ n ≤ cap ∧ cap ≤ maxLen ∧ cur.size = cap * 3 ∧ cur.toList.take (n * 3) = cs := by
  rcases hown.2 with ⟨e, _⟩ | ⟨g', cap', cur, e, hBg, hg, r⟩
  · cases e
  · injection e with e1 e2 e3
    injection e1 with e1
    injection e1 with e1 _ _
    subst e1 e3
    exact ⟨hBg, cur, hg, r⟩

set_option linter.unusedVariables false in
set_option maxRecDepth 100000 in
set_option maxHeartbeats 8000000 in
/-- in between, where there is room -/
theorem insertShift_any (B g cap n i vb : Nat) (cs : List Value) (x0 x1 x2 : Value) (w : World) (hown : w.ownsRow B 84 3 (.slice (some ⟨g, 0, none⟩) n cap) n cs) (hi : i < n) (hroom : n + 1 ≤ cap) (hvg : vb ≠ g) (h1c : ∀ u ∈ cs, u.oneCell' = true) (hv : Stc w vb [x0, x1, x2] 84) (h1 : ∀ u ∈ [x0, x1, x2], u.oneCell' = true) :
    Calls Try.prog 90 #[.slice (some ⟨g, 0, none⟩) n cap, .int .i64 i, .slice (some ⟨vb, 0, none⟩) 1 1] w fun e w' => (∃ v', e = .returned v' ∧ w'.ownsRow B 84 3 v' (n + 1) (cs.take (i * 3) ++ [x0, x1, x2] ++ cs.drop (i * 3)) ∧ v'.ownBlock = some g) ∧ w.grownBy w' (some g) := by
  have hsz : (Try.prog.info? 84).map (·.size) = some 3 := by
    obtain ⟨i0, hi0, hz0, hz1, hz2⟩ := info_parts info_Held
    rw [hi0]; simp [hz1]
  obtain ⟨hBg, cur, hg, hnc, hcm, hcs, htk⟩ := own_open hown
  have hcl : cs.length = n * 3 := hown.1
  have hspn : Spn w g (cap * 3) 84 := ⟨cur, hg, hcs⟩
  have hcells : ∀ j u, cs[j]? = some u → w.cell? ⟨g, j, none⟩ = some u := fun j u hu => by
    have := hown.cells (g := g) rfl j u hu
    rwa [Addr.add_mid, Nat.zero_add] at this
  have hsp : ∀ j, j < (n + 1) * 3 → (w.cell? ⟨g, j, none⟩).isSome = true := fun j hj => by
    obtain ⟨x, hx⟩ := hspn.cell (i := j) (by omega)
    rw [hx]; rfl
  have hfz : ∀ j, w.frozen? ⟨g, j, none⟩ = false := hspn.frozen
  have hc63 : cap ≤ 9223372036854775807 := by simp only [maxLen] at hcm; omega
  have hvcell : ∀ j u, [x0, x1, x2][j]? = some u → w.cell? ⟨vb, j, none⟩ = some u := fun j u hu => hv.cell hu
  have hsa : w.shape? vb = some (84, 3) := by
    have := hv
    unfold Stc at this
    simp [World.shape?, this]
  have hsb : w.shape? g = some (84, cap * 3) := by simp [World.shape?, hg, hcs]
  have hov : ∀ lb cb, (callFunc 107 #[.slice (some ⟨vb, 0, none⟩) 1 1, .slice (some ⟨g, (i + 1) * 3, none⟩) lb cb]).run Try.prog w = .ok (.value (.bool false)) w := fun lb cb => by
    rw [run_callFunc_extern Try.func107 (by kernel_rfl) (by kernel_rfl) (by kernel_rfl) (e := Extern.SlicesOverlaps.overlaps #[30, 30] #[4]) (by kernel_rfl),
      Lib.run_overlaps_apart w 30 4 84 Try.underlying30 3 size_Held ⟨vb, 0, none⟩ ⟨g, (i + 1) * 3, none⟩ 1 1 lb cb hvg _ _ _ _ hsa hsb (by omega) (hv.frozen 0) (hv.frozen 3)]
    rfl
  have hdl : (cs.drop (i * 3)).length = (n - i) * 3 := by rw [List.length_drop, hcl, Nat.sub_mul]
  have hw1 : IntKind.i64.wrap ((i : Int) + 1) = (i : Int) + 1 := by rw [IntKind.wrap_i64]; omega
  have hw2 : IntKind.i64.wrap ((n : Int) + 1) = (n : Int) + 1 := by rw [IntKind.wrap_i64]; omega
  have hz2 : ¬ ((i : Int) = (n : Int)) := by omega
  have hb0 : ((i : Int) == (n : Int)) = false := by simp; omega
  have hb1 : decide ((n : Int) + 1 > (cap : Int)) = false := by simp; omega
  have hp1 : (0 : Int) ≤ (i : Int) + 1 := by omega
  have hin : i ≤ n := by omega
  have htn : ((i : Int) + 1).toNat = i + 1 := by omega
  have hb2 : ¬ (cap = i + 1) := by omega
  have hb3 : (i : Int) ≤ (n : Int) + 1 := by omega
  have hb4 : ¬ (cap = i) := by omega
  have hcp1 : ∀ ty dc sc, (Builtin.copy_ #[30, 30] ty #[.slice (some ⟨g, (i + 1) * 3, none⟩) (n - i) dc, .slice (some ⟨g, i * 3, none⟩) (n + 1 - i) sc]).run Try.prog w.drew = .ok (goInt ((n - i : Nat) : Int)) (w.drew.setCells g ((i + 1) * 3) (cs.drop (i * 3))) := fun ty dc sc => by
    have h := run_copy_cellsN (P := Try.prog) w.drew 30 30 ty 84 3 g ((i + 1) * 3) (n - i) dc ⟨g, i * 3, none⟩ (n + 1 - i) sc (cs.drop (i * 3)) Try.underlying30 hsz (by rw [hdl]; simp only [Nat.min_def]; split <;> omega)
      (fun j v hj => by rw [Addr.add_lit]; exact hcells (i * 3 + j) v (by rwa [List.getElem?_drop] at hj))
      (fun j hj => hsp _ (by omega)) (fun j hj => hfz _) (fun v hv => h1c v (List.mem_of_mem_drop hv))
    rw [show Nat.min (n + 1 - i) (n - i) = n - i by simp only [Nat.min_def]; split <;> omega] at h
    exact h
  obtain ⟨W1, hW1⟩ : ∃ W1, W1 = w.drew.setCells g ((i + 1) * 3) (cs.drop (i * 3)) := ⟨_, rfl⟩
  have hspn1 : Spn W1 g (cap * 3) 84 := by rw [hW1]; exact Spn.setCells (w := w.drew) hspn _ _
  have hcp2 : ∀ (W : World), (∀ x, W.cell? x = W1.cell? x) → (∀ x, W.frozen? x = W1.frozen? x) → ∀ ty dc, (Builtin.copy_ #[30, 30] ty #[.slice (some ⟨g, i * 3, none⟩) (n + 1 - i) dc, .slice (some ⟨vb, 0, none⟩) 1 1]).run Try.prog W = .ok (goInt 1) (W.setCells g (i * 3) [x0, x1, x2]) := fun W hWc hWf ty dc => by
    have h := run_copy_cellsN (P := Try.prog) W 30 30 ty 84 3 g (i * 3) (n + 1 - i) dc ⟨vb, 0, none⟩ 1 1 [x0, x1, x2] Try.underlying30 hsz (by simp only [Nat.min_def]; split <;> simp <;> omega)
      (fun j v hj => by
        rw [Addr.add_lit, hWc, hW1, World.cell?_setCells_out g _ _ _ _ (fun h _ => absurd h hvg), Nat.zero_add]
        exact hvcell j v hj)
      (fun j hj => by rw [hWc]; obtain ⟨x, hx⟩ := hspn1.cell (i := i * 3 + j) (by simp at hj; omega); rw [hx]; rfl) (fun j hj => by rw [hWf]; exact hspn1.frozen _) h1
    rw [show Nat.min 1 (n + 1 - i) = 1 by simp only [Nat.min_def]; split <;> omega] at h
    exact h
  rw [← hW1] at hcp1
  have hS2 := hspn1.setCells [x0, x1, x2] (i * 3)
  have hfin : ∀ k u, (cs.take (i * 3) ++ [x0, x1, x2] ++ cs.drop (i * 3))[k]? = some u → (W1.setCells g (i * 3) [x0, x1, x2]).cell? ⟨g, k, none⟩ = some u := fun k u hk => by
    have hin1 : ∀ j, j < [x0, x1, x2].length → (W1.cell? ⟨g, i * 3 + j, none⟩).isSome = true := fun j hj => by
      obtain ⟨x, hx⟩ := hspn1.cell (i := i * 3 + j) (by simp at hj; omega)
      rw [hx]; rfl
    have htl : (cs.take (i * 3)).length = i * 3 := by rw [List.length_take]; omega
    by_cases h1 : k < i * 3
    · rw [World.cell?_setCells_out g _ _ _ _ (fun _ _ => .inl (by show k < i * 3; omega)), hW1, World.cell?_setCells_out g _ _ _ _ (fun _ _ => .inl (by show k < (i + 1) * 3; omega))]
      rw [List.append_assoc, List.getElem?_append_left (by rw [htl]; exact h1), List.getElem?_take_of_lt h1] at hk
      exact hcells k u hk
    · by_cases h2 : k < i * 3 + 3
      · rw [List.append_assoc, List.getElem?_append_right (by rw [htl]; omega), htl, List.getElem?_append_left (by simp; omega)] at hk
        have := World.cell?_setCells_in g [x0, x1, x2] (i * 3) W1 hin1 (k - i * 3) (by simp; omega)
        rw [show i * 3 + (k - i * 3) = k by omega] at this
        rw [this, ← hk, List.getElem?_eq_getElem (by simp; omega)]
      · rw [List.getElem?_append_right (by simp [htl]; omega)] at hk
        have hl3 : (cs.take (i * 3) ++ [x0, x1, x2]).length = i * 3 + 3 := by simp [htl]
        rw [hl3] at hk
        have hkl := (List.getElem?_eq_some_iff.1 hk).1
        rw [World.cell?_setCells_out g _ _ _ _ (fun _ _ => .inr (by show i * 3 + 3 ≤ k; omega)), hW1]
        have := World.cell?_setCells_in g (cs.drop (i * 3)) ((i + 1) * 3) w.drew (fun j hj => hsp _ (by omega)) (k - (i * 3 + 3)) hkl
        rw [show (i + 1) * 3 + (k - (i * 3 + 3)) = k by omega] at this
        rw [this, ← hk, List.getElem?_eq_getElem hkl]
  have hown3 := owns_of (n := n + 1) hS2 hBg hroom hcm (xs := cs.take (i * 3) ++ [x0, x1, x2] ++ cs.drop (i * 3)) (by simp; omega) hfin
  have hgr : w.grownBy (W1.setCells g (i * 3) [x0, x1, x2]) (some g) := by
    rw [hW1]
    have g1 := grownBy_setCells g (cs.drop (i * 3)) ((i + 1) * 3) w.drew
    have g2 := grownBy_setCells g [x0, x1, x2] (i * 3) (w.drew.setCells g ((i + 1) * 3) (cs.drop (i * 3)))
    exact ⟨g2.os.trans g1.os, g2.tape.trans g1.tape, g2.output.trans g1.output, Nat.le_trans g1.size g2.size, fun k hk hne => (g2.block k (Nat.lt_of_lt_of_le hk g1.size) hne).trans (g1.block k hk hne)⟩
  have Hown := Shut.mk hown3
  have Hgr := Shut.mk hgr
  clear hown3 hgr hfin hS2 hspn1 hspn hown hcells hg htk hcs hsp hfz hsa hsb hdl hvcell hcl hv
  have mixed : Try.prog.follows Departure.mixedOrders = true := by kernel_rfl
  go_enter Try.func90, Try.ntmps90
  go_wp2_with (simp only [hov])
  go_region_law_o (refine step_copy_runN rfl _ _ 30 30 rfl _ _ (by simp [Act.eval, Act.put]) (by simp [Act.eval, Act.put]) (hcp1 _ _ _) ?_)
  go_wp2_with (at_builtin; refine wpList_copy_runN _ rfl _ _ 30 30 rfl _ _ rfl rfl (hcp2 _ (fun _ => rfl) (fun _ => rfl) _ _) ?_)
  go_ret
  rw [← hW1]
  exact ⟨⟨_, rfl, Hown.out, rfl⟩, Hgr.out⟩

set_option linter.unusedVariables false in
set_option maxRecDepth 100000 in
set_option maxHeartbeats 8000000 in
/-- in between, where there is no room -/
theorem insertGrow_any (B g cap n i vb : Nat) (cs : List Value) (x0 x1 x2 : Value) (w : World) (hown : w.ownsRow B 84 3 (.slice (some ⟨g, 0, none⟩) n cap) n cs) (hn : n ≤ 1000) (hB : B ≤ w.heap.size) (hi : i < n) (hroom : cap < n + 1) (hvg : vb ≠ g) (h1c : ∀ u ∈ cs, u.oneCell' = true) (hv : Stc w vb [x0, x1, x2] 84) (h1 : ∀ u ∈ [x0, x1, x2], u.oneCell' = true) :
    Calls Try.prog 90 #[.slice (some ⟨g, 0, none⟩) n cap, .int .i64 i, .slice (some ⟨vb, 0, none⟩) 1 1] w fun e w' => (∃ v', e = .returned v' ∧ w'.ownsRow B 84 3 v' (n + 1) (cs.take (i * 3) ++ [x0, x1, x2] ++ cs.drop (i * 3)) ∧ v'.ownBlock = some w.heap.size) ∧ w.grownBy w' (some g) := by
  obtain ⟨i0, hi0, hz0, hzs, hzb⟩ := info_parts info_Held
  have hsz : (Try.prog.info? 84).map (·.size) = some 3 := by rw [hi0]; simp [hzs]
  obtain ⟨hBg, cur, hg, hnc, hcm, hcs, htk⟩ := own_open hown
  have hgl : g < w.heap.size := (Array.getElem?_eq_some_iff.1 hg).1
  have hvl : vb < w.heap.size := hv.lt
  have hcl : cs.length = n * 3 := hown.1
  have hcells : ∀ j u, cs[j]? = some u → w.cell? ⟨g, j, none⟩ = some u := fun j u hu => by
    have := hown.cells (g := g) rfl j u hu
    rwa [Addr.add_mid, Nat.zero_add] at this
  have hvcell : ∀ j u, [x0, x1, x2][j]? = some u → w.cell? ⟨vb, j, none⟩ = some u := fun j u hu => hv.cell hu
  have hkk : (n : Int) + 1 - (i : Int) = ((n + 1 - i : Nat) : Int) := by omega
  have hik : i + (n + 1 - i) = n + 1 := by omega
  have hold : (Builtin.firstCells i0.size i (.slice (some ⟨g, 0, none⟩) i cap)).run Try.prog w.drew = .ok (cs.take (i * 3)).toArray w.drew := by
    rw [hzs]
    exact run_firstCells_some w.drew 3 i ⟨g, 0, none⟩ i cap (cs.take (i * 3)) (by rw [List.length_take]; omega) (fun j v hj => by
      rw [Addr.add_mid, Nat.zero_add]
      rw [List.getElem?_take] at hj
      split at hj
      · exact hcells j v hj
      · cases hj)
  obtain ⟨zc, hzc, hzcl⟩ : ∃ zc : Array Value, zc = (Value.agg #[.int .i64 0, .slice none 0 0, .bool false]).cells ∧ zc.size = 3 := ⟨_, rfl, rfl⟩
  have hrz : ∀ ty, (Builtin.append_ #[30, 3] ty #[.slice (some ⟨g, 0, none⟩) i cap, .int .i64 ((n : Int) + 1 - (i : Int))]).run Try.prog w =
      .ok (.slice (some ⟨w.heap.size, 0, none⟩) (n + 1) (grownCap w (n + 1) cap 84)) (w.drew.alloc (.cells ((cs.take (i * 3)).toArray ++ Builtin.zeroCells zc (n + 1 - i) ++ Builtin.zeroCells zc (grownCap w (n + 1) cap 84 - (n + 1))) 84)) := fun ty => by
    have h := Lib.run_append_grow_zeros (P := Try.prog) w 30 3 ty 84 i0 _ .i64 .i64 Try.underlying30 Try.underlying3 hi0 hz0 (some ⟨g, 0, none⟩) i cap (cs.take (i * 3)) hold (n + 1 - i) (by omega) (by omega) (by omega) (by omega) (by rw [hzb]; omega) (by rw [hzb, hik]; exact growslice_fits hroom (by omega))
    rw [hik, ← hzc] at h
    rw [hkk]
    exact h
  obtain ⟨G, hG⟩ : ∃ G, G = grownCap w (n + 1) cap 84 := ⟨_, rfl⟩
  have hGn : n + 1 ≤ G := by rw [hG]; exact grownCap_ge w _ _ _
  have hGm : G ≤ maxLen := by rw [hG]; exact grownCap_le_maxLen w (n + 1) cap 84 (by unfold maxLen; omega)
  have hG63 : G ≤ 9223372036854775807 := by unfold maxLen at hGm; omega
  rw [← hG] at hrz
  obtain ⟨ROW, hROW⟩ : ∃ ROW : Array Value, ROW = (cs.take (i * 3)).toArray ++ Builtin.zeroCells zc (n + 1 - i) ++ Builtin.zeroCells zc (G - (n + 1)) := ⟨_, rfl⟩
  rw [← hROW] at hrz
  have htl : (cs.take (i * 3)).length = i * 3 := by rw [List.length_take]; omega
  have hRl : ROW.size = G * 3 := by
    rw [hROW]
    simp only [Array.size_append, List.size_toArray, size_zeroCells, hzcl, htl]
    omega
  have hRget : ∀ k u, (cs.take (i * 3))[k]? = some u → ROW[k]? = some u := fun k u hk => by
    have hkl := (List.getElem?_eq_some_iff.1 hk).1
    rw [hROW, Array.append_assoc, Array.getElem?_append_left (by simpa using hkl)]
    simpa using hk
  obtain ⟨W1, hW1⟩ : ∃ W1, W1 = w.drew.alloc (.cells ROW 84) := ⟨_, rfl⟩
  rw [← hW1] at hrz
  have hspn1 : Spn W1 w.heap.size (G * 3) 84 := by rw [hW1]; exact Spn.new w.drew ROW _ hRl
  have hR1 : ∀ k u, (cs.take (i * 3))[k]? = some u → W1.cell? ⟨w.heap.size, k, none⟩ = some u := fun k u hk => by
    rw [hW1, World.cell?_alloc_at (w := w.drew) ROW _ w.heap.size k rfl]; exact hRget k u hk
  have hOb : ∀ j v, w.cell? ⟨g, j, none⟩ = some v → W1.cell? ⟨g, j, none⟩ = some v := fun j v h => by rw [hW1, World.cell?_alloc_past (w := w.drew) _ g j hgl]; exact h
  have hOv : ∀ j v, w.cell? ⟨vb, j, none⟩ = some v → W1.cell? ⟨vb, j, none⟩ = some v := fun j v h => by rw [hW1, World.cell?_alloc_past (w := w.drew) _ vb j hvl]; exact h
  have gr1 : w.grownBy W1 (some g) := by rw [hW1]; have g0 := World.grownBy_alloc w.drew (.cells ROW 84) (some g); exact ⟨g0.os, g0.tape, g0.output, g0.size, g0.block⟩
  have hcpA : ∀ (W : World), (∀ x, W.cell? x = W1.cell? x) → (∀ x, W.frozen? x = W1.frozen? x) → ∀ ty dc, (Builtin.copy_ #[30, 30] ty #[.slice (some ⟨w.heap.size, i * 3, none⟩) (n + 1 - i) dc, .slice (some ⟨vb, 0, none⟩) 1 1]).run Try.prog W = .ok (goInt 1) (W.setCells w.heap.size (i * 3) [x0, x1, x2]) := fun W hWc hWf ty dc => by
    have h := run_copy_cellsN (P := Try.prog) W 30 30 ty 84 3 w.heap.size (i * 3) (n + 1 - i) dc ⟨vb, 0, none⟩ 1 1 [x0, x1, x2] Try.underlying30 hsz (by simp only [Nat.min_def]; split <;> simp <;> omega)
      (fun j v hj => by rw [Addr.add_lit, hWc, Nat.zero_add]; exact hOv _ v (hvcell j v hj))
      (fun j hj => by rw [hWc]; obtain ⟨x, hx⟩ := hspn1.cell (i := i * 3 + j) (by simp at hj; omega); rw [hx]; rfl) (fun j hj => by rw [hWf]; exact hspn1.frozen _) h1
    rw [show Nat.min 1 (n + 1 - i) = 1 by simp only [Nat.min_def]; split <;> omega] at h
    exact h
  obtain ⟨W2, hW2⟩ : ∃ W2, W2 = W1.setCells w.heap.size (i * 3) [x0, x1, x2] := ⟨_, rfl⟩
  have hspn2 : Spn W2 w.heap.size (G * 3) 84 := by rw [hW2]; exact hspn1.setCells _ _
  have hdl : (cs.drop (i * 3)).length = (n - i) * 3 := by rw [List.length_drop, hcl, Nat.sub_mul]
  have hgN : g ≠ w.heap.size := by omega
  have hcpB : ∀ (W : World), (∀ x, W.cell? x = W2.cell? x) → (∀ x, W.frozen? x = W2.frozen? x) → ∀ ty dc sc, (Builtin.copy_ #[30, 30] ty #[.slice (some ⟨w.heap.size, (i + 1) * 3, none⟩) (n - i) dc, .slice (some ⟨g, i * 3, none⟩) (n - i) sc]).run Try.prog W = .ok (goInt ((n - i : Nat) : Int)) (W.setCells w.heap.size ((i + 1) * 3) (cs.drop (i * 3))) := fun W hWc hWf ty dc sc => by
    have h := run_copy_cellsN (P := Try.prog) W 30 30 ty 84 3 w.heap.size ((i + 1) * 3) (n - i) dc ⟨g, i * 3, none⟩ (n - i) sc (cs.drop (i * 3)) Try.underlying30 hsz (by rw [hdl]; simp only [Nat.min_def]; split <;> omega)
      (fun j v hj => by
        rw [Addr.add_lit, hWc, hW2, World.cell?_setCells_out _ _ _ _ _ (fun h _ => absurd h hgN)]
        exact hOb _ v (hcells (i * 3 + j) v (by rwa [List.getElem?_drop] at hj)))
      (fun j hj => by rw [hWc]; obtain ⟨x, hx⟩ := hspn2.cell (i := (i + 1) * 3 + j) (by omega); rw [hx]; rfl)
      (fun j hj => by rw [hWf]; exact hspn2.frozen _) (fun v hv => h1c v (List.mem_of_mem_drop hv))
    rw [show Nat.min (n - i) (n - i) = n - i from Nat.min_self _] at h
    exact h
  have gr2 : w.grownBy W2 (some g) := by
    rw [hW2]
    have g1 := grownBy_setCells w.heap.size [x0, x1, x2] (i * 3) W1
    exact ⟨g1.os.trans gr1.os, g1.tape.trans gr1.tape, g1.output.trans gr1.output, Nat.le_trans gr1.size g1.size, fun k hk hne => (g1.block k (Nat.lt_of_lt_of_le hk gr1.size) (fun e => by injection e with e; omega)).trans (gr1.block k hk hne)⟩
  have hfin : ∀ W, (∀ x, W.cell? x = W2.cell? x) → Spn W w.heap.size (G * 3) 84 → w.grownBy W (some g) → (W.setCells w.heap.size ((i + 1) * 3) (cs.drop (i * 3))).ownsRow B 84 3 (.slice (some ⟨w.heap.size, 0, none⟩) (n + 1) G) (n + 1) (cs.take (i * 3) ++ [x0, x1, x2] ++ cs.drop (i * 3)) ∧ w.grownBy (W.setCells w.heap.size ((i + 1) * 3) (cs.drop (i * 3))) (some g) := fun W hWc hWs hWg => by
    refine ⟨owns_of (hWs.setCells _ _) hB hGn hGm (by simp; omega) (fun k u hk => ?_), ?_⟩
    · by_cases h1 : k < i * 3
      · rw [World.cell?_setCells_out _ _ _ _ _ (fun _ _ => .inl (by show k < (i + 1) * 3; omega)), hWc, hW2, World.cell?_setCells_out _ _ _ _ _ (fun _ _ => .inl (by show k < i * 3; omega))]
        rw [List.append_assoc, List.getElem?_append_left (by rw [htl]; exact h1)] at hk
        exact hR1 k u hk
      · by_cases h2 : k < i * 3 + 3
        · rw [List.append_assoc, List.getElem?_append_right (by rw [htl]; omega), htl, List.getElem?_append_left (by simp; omega)] at hk
          have := World.cell?_setCells_in w.heap.size [x0, x1, x2] (i * 3) W1 (fun j hj => by obtain ⟨x, hx⟩ := hspn1.cell (i := i * 3 + j) (by simp at hj; omega); rw [hx]; rfl) (k - i * 3) (by simp; omega)
          rw [show i * 3 + (k - i * 3) = k by omega] at this
          rw [World.cell?_setCells_out _ _ _ _ _ (fun _ _ => .inl (by show k < (i + 1) * 3; omega)), hWc, hW2, this, ← hk, List.getElem?_eq_getElem (by simp; omega)]
        · have hl3 : (cs.take (i * 3) ++ [x0, x1, x2]).length = i * 3 + 3 := by simp [htl]
          rw [List.getElem?_append_right (by rw [hl3]; omega), hl3] at hk
          have hkl := (List.getElem?_eq_some_iff.1 hk).1
          have := World.cell?_setCells_in w.heap.size (cs.drop (i * 3)) ((i + 1) * 3) W (fun j hj => by obtain ⟨x, hx⟩ := hWs.cell (i := (i + 1) * 3 + j) (by omega); rw [hx]; rfl) (k - (i * 3 + 3)) hkl
          rw [show (i + 1) * 3 + (k - (i * 3 + 3)) = k by omega] at this
          rw [this, ← hk, List.getElem?_eq_getElem hkl]
    · have g1 := grownBy_setCells w.heap.size (cs.drop (i * 3)) ((i + 1) * 3) W
      exact ⟨g1.os.trans hWg.os, g1.tape.trans hWg.tape, g1.output.trans hWg.output, Nat.le_trans hWg.size g1.size, fun k hk hne => (g1.block k (Nat.lt_of_lt_of_le hk hWg.size) (fun e => by injection e with e; omega)).trans (hWg.block k hk hne)⟩
  have Hfin := Shut.mk hfin
  have Hs2 := Shut.mk hspn2
  have Hg2 := Shut.mk gr2
  clear hfin hspn2 gr2 hspn1 gr1 hR1 hRget hRl hOb hOv hcells hvcell hown hg htk hcs hkk hik hold hROW hG hdl hgl hvl
  subst hW2 hW1
  have hw1 : IntKind.i64.wrap ((i : Int) + 1) = (i : Int) + 1 := by rw [IntKind.wrap_i64]; omega
  have hw2 : IntKind.i64.wrap ((n : Int) + 1) = (n : Int) + 1 := by rw [IntKind.wrap_i64]; omega
  have hz2 : ¬ ((i : Int) = (n : Int)) := by omega
  have hb0 : ((i : Int) == (n : Int)) = false := by simp; omega
  have hb1 : decide ((n : Int) + 1 > (cap : Int)) = true := by simp; omega
  have hc63 : cap ≤ 9223372036854775807 := by omega
  have hp1 : (0 : Int) ≤ (i : Int) + 1 := by omega
  have hin : i ≤ n := by omega
  have htn : ((i : Int) + 1).toNat = i + 1 := by omega
  have hb3 : (i : Int) ≤ (n : Int) := by omega
  have hGi : ¬ (G = i) := by omega
  have hGim : ¬ (G = i + 1) := by omega
  have hci : ¬ (cap = i) := by omega
  have mixed : Try.prog.follows Departure.mixedOrders = true := by kernel_rfl
  go_enter Try.func90, Try.ntmps90
  have hE1 : ∀ x, ((w.alloc (.cells ROW 84)).drew).cell? x = (w.drew.alloc (.cells ROW 84)).cell? x := fun x => rfl
  have hE2 : ∀ x, ((w.alloc (.cells ROW 84)).drew).frozen? x = (w.drew.alloc (.cells ROW 84)).frozen? x := fun x => rfl
  have hF1 : ∀ x, (((w.alloc (.cells ROW 84)).drew.setCells w.heap.size (i * 3) [x0, x1, x2]).drew).cell? x = ((w.drew.alloc (.cells ROW 84)).setCells w.heap.size (i * 3) [x0, x1, x2]).cell? x := fun x => rfl
  have hF2 : ∀ x, (((w.alloc (.cells ROW 84)).drew.setCells w.heap.size (i * 3) [x0, x1, x2]).drew).frozen? x = ((w.drew.alloc (.cells ROW 84)).setCells w.heap.size (i * 3) [x0, x1, x2]).frozen? x := fun x => rfl
  go_wp2_with (first
    | (at_builtin; refine Lib.wpList_append_run _ rfl _ _ _ _ rfl _ _ rfl rfl _ _ (hrz _) ?_)
    | (at_builtin; refine wpList_copy_runN _ rfl _ _ 30 30 rfl _ _ rfl rfl (hcpA _ hE1 hE2 _ _) ?_)
    | (at_builtin; refine wpList_copy_runN _ rfl _ _ 30 30 rfl _ _ rfl rfl (hcpB _ (fun _ => rfl) (fun _ => rfl) _ _ _) ?_))
  go_region_law_o (refine step_copy_runN rfl _ _ 30 30 rfl (.slice (some ⟨w.heap.size, (i + 1) * 3, none⟩) (n - i) (G - (i + 1))) (.slice (some ⟨g, i * 3, none⟩) (n - i) (cap - i)) (by simp [Act.eval, Act.put]) (by simp [Act.eval, Act.put]) (hcpB _ hF1 hF2 3 (G - (i + 1)) (cap - i)) ?_)
  go_wp2
  go_ret
  have hfinal := Hfin.out (((w.alloc (.cells ROW 84)).drew.setCells w.heap.size (i * 3) [x0, x1, x2]).drew) (fun _ => rfl) Hs2.out ⟨Hg2.out.os, Hg2.out.tape, Hg2.out.output, Hg2.out.size, Hg2.out.block⟩
  exact ⟨⟨_, rfl, hfinal.1, rfl⟩, hfinal.2⟩
end Go.Proofs.Ytpaemmoopjkppaa
