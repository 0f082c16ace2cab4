/- What 2 to the power of 130, less 5, leaves of limbs, of the model. -/
import Derived.Test.YtpoiecdifhkegaaDoorMulC
namespace Go.Proofs.YtpoiecdifhkegaaDoor
open Go.RowKit

/-- words of 64 bits appended to a row of the call's own that is empty: what a copy is -/
theorem wpList_longs_copy {ops : Array Oper} {rest : List Oper} {o : Oper} {a : Act} {Q : Exit → Act → World → Prop} (hgd : o.guard = none) (s x : Operand)
    (ho : o.op = .call { callee := .builtin .append, args := #[s, x], argTypes := #[93, 93] })
    (w : World) (g b n c : Nat) (l : List Int) (hs : a.eval s = .slice (some ⟨g, 0, none⟩) 0 0) (hg : w.heap[g]? = some (.cells #[] 81 (0, 0)))
    (hx : a.eval x = .slice (some ⟨b, 0, none⟩) n c) (hl : l.length = n) (hkb : KOw .u64 w b l) (hn : n ≤ 1000000)
    (h : ∀ g' c' w', KOw .u64 w' g' l → g ≤ g' → Below g w w' → w.heap.size ≤ w'.heap.size → wpList Tryd.prog ops Q rest (a.put o.dst (.slice (some ⟨g', 0, none⟩) n c')) w') (hn0 : 0 < n) : wpList Tryd.prog ops Q (o :: rest) a w := by
  obtain ⟨i0, hi, hz0, hz1, hz2⟩ := info_parts info_u64
  have hgl : g < w.heap.size := (Array.getElem?_eq_some_iff.1 hg).1
  have hown : w.ownsRow g 81 1 (.slice (some ⟨g, 0, none⟩) 0 0) 0 [] := ⟨by simp, .inr ⟨g, 0, #[], rfl, Nat.le_refl _, hg, Nat.le_refl _, by unfold maxLen; omega, by simp, by simp⟩⟩
  have hadd : ∀ (b j : Nat), (⟨b, 0, none⟩ : Addr).add j = ⟨b, j, none⟩ := fun b j => by unfold Addr.add; split <;> simp_all
  refine wpList_append_own _ hgd s x 93 ho g 81 i0 (.int .u64 0) 1 8 Tryd.underlying93 hi hz0 hz1 hz2 rfl (by decide) _ 0 [] hs hown ⟨b, 0, none⟩ n c (l.map (Value.int .u64)) hx (by simp [hl])
    (fun j u hu => by
      have hj : j < l.length := by
        rcases Nat.lt_or_ge j l.length with h1 | h1
        · exact h1
        · rw [List.getElem?_eq_none (by simpa using h1)] at hu; cases hu
      rw [hadd, hkb.cell j hj]
      rw [List.getElem?_map, List.getElem?_eq_getElem hj] at hu
      simpa [List.getD, List.getElem?_eq_getElem hj] using hu)
    (fun u hu => by obtain ⟨y, _, rfl⟩ := List.mem_map.1 hu; rfl) (by unfold maxLen; omega) (by omega) (by omega) ?_
  intro v' w' hown' hgrow _
  rw [Nat.zero_add, List.nil_append] at hown'
  rcases hown'.2 with ⟨_, hz⟩ | ⟨g', cap, cur, rfl, hB, hg', _, _, _, _⟩
  · omega
  · refine h g' cap w' ⟨(Array.getElem?_eq_some_iff.1 hg').1, fun i hi => ?_, fun i => by simp [World.frozen?, hg']⟩ hB ⟨hgrow.os, hgrow.tape, hgrow.output, hgrow.size, fun k hk => hgrow.block k (by omega) (fun e => by simp [Value.ownBlock] at e; omega)⟩ hgrow.size
    have := hown'.cells (g := g') rfl i (.int .u64 (l.getD i 0)) (by simp [List.getD, List.getElem?_eq_getElem hi])
    rwa [hadd] at this

/-- five numbers of 26 bits -/
def Norm (l : List Int) : Prop := ∃ a b c d e : Int, l = [a, b, c, d, e] ∧ (0 ≤ a ∧ a < 67108864) ∧ (0 ≤ b ∧ b < 67108864) ∧ (0 ≤ c ∧ c < 67108864) ∧ (0 ≤ d ∧ d < 67108864) ∧ (0 ≤ e ∧ e < 67108864)
def leastStep (L : List Int) (k : Nat) : List Int := (L.set (k + 1) (L.getD (k + 1) 0 + L.getD k 0 / 67108864)).set k (L.getD k 0 % 67108864)
def leastTo (N : List Int) : Nat → List Int
  | 0 => N.set 0 (N.getD 0 0 + 5)
  | k + 1 => leastStep (leastTo N k) k
theorem leastTo_bd (N : List Int) (h : Norm N) (k : Nat) (hk : k ≤ 4) : ∃ a b c d e : Int, leastTo N k = [a, b, c, d, e] ∧ (0 ≤ a ∧ a < 134217728) ∧ (0 ≤ b ∧ b < 134217728) ∧ (0 ≤ c ∧ c < 134217728) ∧ (0 ≤ d ∧ d < 134217728) ∧ (0 ≤ e ∧ e < 134217728) := by
  obtain ⟨a, b, c, d, e, rfl, ha, hb, hc, hd, he⟩ := h
  have ek : k = 0 ∨ k = 1 ∨ k = 2 ∨ k = 3 ∨ k = 4 := by omega
  rcases ek with rfl | rfl | rfl | rfl | rfl
  · exact ⟨a + 5, b, c, d, e, rfl, by omega⟩
  · exact ⟨(a + 5) % 67108864, b + (a + 5) / 67108864, c, d, e, rfl, by omega⟩
  · exact ⟨(a + 5) % 67108864, (b + (a + 5) / 67108864) % 67108864, c + (b + (a + 5) / 67108864) / 67108864, d, e, rfl, by omega⟩
  · exact ⟨(a + 5) % 67108864, (b + (a + 5) / 67108864) % 67108864, (c + (b + (a + 5) / 67108864) / 67108864) % 67108864, d + (c + (b + (a + 5) / 67108864) / 67108864) / 67108864, e, rfl, by omega⟩
  · exact ⟨(a + 5) % 67108864, (b + (a + 5) / 67108864) % 67108864, (c + (b + (a + 5) / 67108864) / 67108864) % 67108864, (d + (c + (b + (a + 5) / 67108864) / 67108864) / 67108864) % 67108864, e + (d + (c + (b + (a + 5) / 67108864) / 67108864) / 67108864) / 67108864, rfl, by omega⟩
theorem least_end (N : List Int) (h : Norm N) : (0 < (leastTo N 4).getD 4 0 / 67108864 → (leastTo N 4).set 4 ((leastTo N 4).getD 4 0 % 67108864) = limbs (val5 N % pp)) ∧ (¬ 0 < (leastTo N 4).getD 4 0 / 67108864 → N = limbs (val5 N % pp)) := by
  obtain ⟨a, b, c, d, e, rfl, ha, hb, hc, hd, he⟩ := h
  exact ⟨least_yes a b c d e ha hb hc hd he, least_no a b c d e ha hb hc hd he⟩
theorem norm_len {N : List Int} (h : Norm N) : N.length = 5 := by obtain ⟨a, b, c, d, e, rfl, _⟩ := h; rfl

set_option maxRecDepth 100000 in
set_option maxHeartbeats 4000000 in
theorem l3Least_any (g c : Nat) (H N : List Int) (w : World) (h : KOw .u64 w g H) (hF : Five H) (hN : carL (carL H) = N) (hn : Norm N) :
    Calls Tryd.prog 72 #[.slice (some ⟨g, 0, none⟩) 5 c] w fun e w' => (∃ g' c', e = .returned (.slice (some ⟨g', 0, none⟩) 5 c') ∧ (g' = g ∨ w.heap.size ≤ g') ∧ KOw .u64 w' g' (limbs (val5 N % pp))) ∧ But g w.heap.size w w' := by
  have hcar := l3Carry_any g c H w h hF
  rw [hN] at hcar
  have Hl := Shut.mk (norm_len hn)
  have Hb := Shut.mk (leastTo_bd N hn)
  have He := Shut.mk (least_end N hn)
  have H0 : Shut (leastTo N 0 = N.set 0 (N.getD 0 0 + 5)) := ⟨rfl⟩
  have Hst : Shut (∀ k, leastTo N (k + 1) = leastStep (leastTo N k) k) := ⟨fun _ => rfl⟩
  have hglt := h.lt
  generalize limbs (val5 N % pp) = F at *
  obtain ⟨n0, n1, n2, n3, n4, rfl, d0, d1, d2, d3, d4⟩ := hn
  clear h hN
  go_enter Tryd.func72, Tryd.ntmps72
  go_wp2_with fail
  refine hcar.mono ?_
  rintro e w1 ⟨rfl, hv, hb1⟩
  clear hcar
  go_wp2_with (at_builtin; refine wpList_longs_copy rfl _ _ rfl _ w1.heap.size g 5 c [n0, n1, n2, n3, n4] rfl (heap_alloc_new w1 _) rfl Hl.out (hv.alloc _) (by omega) ?_ (by omega); intro g2 c2 w2 k2 hg2 hb2 hs2; have q0 := k2.cell 0 (by simp); have f0 := k2.frozen 0; simp only [List.getD_cons_zero] at q0)
  have k3 := k2.set_ 0 (by simp) (n0 + 5)
  rw [show [n0, n1, n2, n3, n4].set 0 (n0 + 5) = leastTo [n0, n1, n2, n3, n4] 0 from rfl] at k3
  have hs1 := hb1.size
  rw [World.size_alloc] at hs2
  have kv2 : KOw .u64 w2 g [n0, n1, n2, n3, n4] := (hv.alloc (.cells #[] 81)).below hb2 (by omega)
  have B2 : But g w.heap.size w w2 := (hb1.trans ((But.of_below (ab (Below.refl _ _) (.cells #[] 81))).mono (by omega))).trans ((But.of_below hb2).mono (by omega))
  have hg2l := k2.lt
  clear hb2 hv k2 q0 f0 hb1
  go_loopw [4] (fun i wr => ∃ k : Nat, k ≤ 4 ∧ i = .int .i64 (k : Int) ∧ KOw .u64 wr g2 (leastTo [n0, n1, n2, n3, n4] k) ∧ But g2 (w2.heap.size) w2 wr) (fun i _ => 4 - (intOf i).toNat)
  case atStart => exact ⟨0, by omega, rfl, k3, (But.refl _ _ _).setCell _ _⟩
  case round =>
    clear k3
    obtain ⟨k, hk, rfl, hv, hbut⟩ := hrel
    obtain ⟨p0, p1, p2, p3, p4, hp, b0, b1, b2, b3, b4⟩ := Hb.out k (by omega)
    by_cases hlk : k < 4
    · have hs := Hst.out k
      rw [hp] at hv hs
      have Hs := Shut.mk hs
      clear hs hp Hst Hb He
      have c0 := hv.cell 0 (by simp)
      have c1 := hv.cell 1 (by simp)
      have c2 := hv.cell 2 (by simp)
      have c3 := hv.cell 3 (by simp)
      have c4 := hv.cell 4 (by simp)
      have f0 := hv.frozen 0
      have f1 := hv.frozen 1
      have f2 := hv.frozen 2
      have f3 := hv.frozen 3
      have f4 := hv.frozen 4
      simp only [List.getD_cons_zero, List.getD_cons_succ] at c0 c1 c2 c3 c4
      have e : k = 0 ∨ k = 1 ∨ k = 2 ∨ k = 3 := by omega
      rcases e with rfl | rfl | rfl | rfl
      · go_wp2
        go_region
        all_goals
          go_wp2
          simp (disch := omega) only [and26]
          refine ⟨⟨_, by omega, ?_, KOw.of_eq Hs.out (KOw.drew ?_), ((hbut.setCell _ _).setCell _ _).drewN 1⟩, by simp [intOf]⟩
          · rfl
          · simp [leastStep]
            exact (hv.set_ 1 (by simp) _).set_ 0 (by simp) _
      · go_wp2
        go_region
        all_goals
          go_wp2
          simp (disch := omega) only [and26]
          refine ⟨⟨_, by omega, ?_, KOw.of_eq Hs.out (KOw.drew ?_), ((hbut.setCell _ _).setCell _ _).drewN 1⟩, by simp [intOf]⟩
          · rfl
          · simp [leastStep]
            exact (hv.set_ 2 (by simp) _).set_ 1 (by simp) _
      · go_wp2
        go_region
        all_goals
          go_wp2
          simp (disch := omega) only [and26]
          refine ⟨⟨_, by omega, ?_, KOw.of_eq Hs.out (KOw.drew ?_), ((hbut.setCell _ _).setCell _ _).drewN 1⟩, by simp [intOf]⟩
          · rfl
          · simp [leastStep]
            exact (hv.set_ 3 (by simp) _).set_ 2 (by simp) _
      · go_wp2
        go_region
        all_goals
          go_wp2
          simp (disch := omega) only [and26]
          refine ⟨⟨_, by omega, ?_, KOw.of_eq Hs.out (KOw.drew ?_), ((hbut.setCell _ _).setCell _ _).drewN 1⟩, by simp [intOf]⟩
          · rfl
          · simp [leastStep]
            exact (hv.set_ 4 (by simp) _).set_ 3 (by simp) _
    · obtain rfl : k = 4 := by omega
      have he := He.out
      rw [hp] at hv he
      simp only [List.getD_cons_zero, List.getD_cons_succ, List.set_cons_zero, List.set_cons_succ] at he
      have c4 := hv.cell 4 (by simp)
      have f4 := hv.frozen 4
      simp only [List.getD_cons_zero, List.getD_cons_succ] at c4
      have kv3 : KOw .u64 wr g [n0, n1, n2, n3, n4] := kv2.keep (hbut.block g kv2.lt (by omega)) hbut.size
      have hsz := hbut.size
      have B3 : But g w.heap.size w wr := B2.trans (But.of_below (hbut.below (by omega) (by omega)))
      have He2 := Shut.mk he
      clear he hp Hst Hb He H0 hbut kv2 B2
      by_cases h5 : 0 < p4 / 67108864
      · have a4 : bits .and .u64 p4 67108863 = p4 % 67108864 := and26 p4 (by omega) (by omega)
        go_wp2
        go_ret
        refine ⟨⟨_, _, rfl, .inr (by omega), KOw.of_eq (He2.out.1 h5).symm ?_⟩, B3.trans ((But.of_below ((Below.refl g2 wr).setCell (Nat.le_refl g2) _)).mono (by omega))⟩
        exact hv.set_ 4 (by simp) _
      · have h6 : p4 / 67108864 ≤ 0 := by omega
        go_wp2
        go_ret
        exact ⟨⟨_, ⟨_, rfl⟩, .inl rfl, KOw.of_eq (He2.out.2 (by omega)).symm kv3⟩, B3⟩
end Go.Proofs.YtpoiecdifhkegaaDoor
