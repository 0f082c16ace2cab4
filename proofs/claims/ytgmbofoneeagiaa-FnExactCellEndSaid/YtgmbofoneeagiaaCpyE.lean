/- An end copied by the model. -/
import Derived.Test.YtgmbofoneeagiaaCpyS
import Derived.Deep.RegionHeld3
namespace Go.Proofs.Ytgmbofoneeagiaa
open Go.RowKit

theorem copyEnd3 {S T U : Thing} (oS : S.Ok) (oT : T.Ok) {W wi wj wk : World} (h1 : S wi (rng W.heap.size wi.heap.size)) (b1 : Below W.heap.size W wi) (h2 : T wj (rng wi.heap.size wj.heap.size)) (b2 : Below wi.heap.size wi wj) (h3 : U wk (rng wj.heap.size wk.heap.size)) (b3 : Below wj.heap.size wj wk) :
    S wk (rng W.heap.size wi.heap.size) ∧ T wk (rng wi.heap.size wj.heap.size) ∧ U wk (rng wj.heap.size wk.heap.size) ∧ W.heap.size ≤ wi.heap.size ∧ wi.heap.size ≤ wj.heap.size ∧ wj.heap.size ≤ wk.heap.size :=
  ⟨oS.below (oS.below h1 b2) b3, oT.below h2 b3, h3, b1.size, b2.size, b3.size⟩

theorem farE (w : World) {b g : Nat} (h : b ≠ g) (i : Nat) (v0 v1 v2 v3 v4 v5 v6 v7 : Value) : ((((((((w.setCell ⟨g, 0, none⟩ v0).setCell ⟨g, 1, none⟩ v1).setCell ⟨g, 2, none⟩ v2).setCell ⟨g, 3, none⟩ v3).setCell ⟨g, 4, none⟩ v4).setCell ⟨g, 5, none⟩ v5).setCell ⟨g, 6, none⟩ v6).setCell ⟨g, 7, none⟩ v7).cell? ⟨b, i, none⟩ = w.cell? ⟨b, i, none⟩ := by
  have q : ∀ (j : Nat) (W : World) (v : Value), (W.setCell ⟨g, j, none⟩ v).cell? ⟨b, i, none⟩ = W.cell? ⟨b, i, none⟩ := fun j W v => World.cell?_setCell_other _ _ _ _ (by intro e; injection e with e1; exact h e1.symm)
  rw [q, q, q, q, q, q, q, q]
theorem belE {w W : World} {B g : Nat} (h : Below B w W) (hB : B ≤ g) (v0 v1 v2 v3 v4 v5 v6 v7 : Value) : Below B w ((((((((W.setCell ⟨g, 0, none⟩ v0).setCell ⟨g, 1, none⟩ v1).setCell ⟨g, 2, none⟩ v2).setCell ⟨g, 3, none⟩ v3).setCell ⟨g, 4, none⟩ v4).setCell ⟨g, 5, none⟩ v5).setCell ⟨g, 6, none⟩ v6).setCell ⟨g, 7, none⟩ v7) :=
  (((((((h.setCell (p := ⟨g, 0, none⟩) hB _).setCell (p := ⟨g, 1, none⟩) hB _).setCell (p := ⟨g, 2, none⟩) hB _).setCell (p := ⟨g, 3, none⟩) hB _).setCell (p := ⟨g, 4, none⟩) hB _).setCell (p := ⟨g, 5, none⟩) hB _).setCell (p := ⟨g, 6, none⟩) hB _).setCell (p := ⟨g, 7, none⟩) hB _
theorem stcE {W : World} {g : Nat} {u0 u1 u2 u3 u4 u5 u6 u7 : Value} {t : TypeId} (h : Stc W g [u0, u1, u2, u3, u4, u5, u6, u7] t) (v0 v1 v2 v3 v4 v5 v6 v7 : Value) : Stc ((((((((W.setCell ⟨g, 0, none⟩ v0).setCell ⟨g, 1, none⟩ v1).setCell ⟨g, 2, none⟩ v2).setCell ⟨g, 3, none⟩ v3).setCell ⟨g, 4, none⟩ v4).setCell ⟨g, 5, none⟩ v5).setCell ⟨g, 6, none⟩ v6).setCell ⟨g, 7, none⟩ v7) g [v0, v1, v2, v3, v4, v5, v6, v7] t :=
  (((((((h.set_ (i := 0) v0).set_ (i := 1) v1).set_ (i := 2) v2).set_ (i := 3) v3).set_ (i := 4) v4).set_ (i := 5) v5).set_ (i := 6) v6).set_ (i := 7) v7
theorem tuE (W : World) (g : Nat) (v0 v1 v2 v3 v4 v5 v6 v7 : Value) : Tu (fun b => b = g) W ((((((((W.setCell ⟨g, 0, none⟩ v0).setCell ⟨g, 1, none⟩ v1).setCell ⟨g, 2, none⟩ v2).setCell ⟨g, 3, none⟩ v3).setCell ⟨g, 4, none⟩ v4).setCell ⟨g, 5, none⟩ v5).setCell ⟨g, 6, none⟩ v6).setCell ⟨g, 7, none⟩ v7) :=
  (((((((((Tu.refl (fun b => b = g) W).set_ (p := ⟨g, 0, none⟩) rfl v0).set_ (p := ⟨g, 1, none⟩) rfl v1).set_ (p := ⟨g, 2, none⟩) rfl v2).set_ (p := ⟨g, 3, none⟩) rfl v3).set_ (p := ⟨g, 4, none⟩) rfl v4).set_ (p := ⟨g, 5, none⟩) rfl v5).set_ (p := ⟨g, 6, none⟩) rfl v6).set_ (p := ⟨g, 7, none⟩) rfl v7)
/-- an end of the call's own: its things -/
def EndT (A0 : Option Addr) (n0 : Nat) (els : List PartD) (A1 : Option Addr) (n1 : Nat) (hs : List HeldD) (A2 : Option Addr) (n2 : Nat) (l : List Int) (v : Value) (got : List (List Int)) : Thing := Thing.sep (tP A0 n0 els) (Thing.sep (Thing.sep (tH A1 n1 hs) (tR A2 n2 l)) (tG v got))

set_option linter.unusedVariables false in
set_option maxRecDepth 100000 in
set_option maxHeartbeats 4000000 in
theorem l9Copy_any (g : Nat) (slot base next bad : Int) (A0 : Option Addr) (n0 c0 : Nat) (els : List PartD) (A1 : Option Addr) (n1 c1 : Nat) (hs : List HeldD) (A2 : Option Addr) (n2 c2 : Nat) (l : List Int) (A3 : Option Addr) (n3 c3 : Nat) (got : List (List Int)) (w : World)
    (hS : Stc w g [.int .i64 slot, .int .i64 base, .slice A0 n0 c0, .int .i64 next, .slice A1 n1 c1, .slice A2 n2 c2, .slice A3 n3 c3, .int .i64 bad] 119) (h0 : Lst PartD.cels 4 w A0 n0 els) (h1 : Lst HeldD.cels 3 w A1 n1 hs) (h2 : Bs w A2 n2 l) (hz2 : A2 = none → c2 = 0) (h3 : Lst bytC 1 w A3 n3 got) (hn0 : n0 ≤ 1048576) (hb0 : ∀ e ∈ els, e.f0.length ≤ 1048576) (hn1 : n1 ≤ 1048576) (hb1 : ∀ e ∈ hs, e.f1.length ≤ 1048576) (hn2 : n2 ≤ 1048576) (hn3 : n3 ≤ 1048576) (hb3 : ∀ e ∈ got, e.length ≤ 1048576) :
    Calls Try.prog 167 #[.pointer (some ⟨g, 0, none⟩)] w fun e w' => (∃ A0' c0' A1' c1' A2' c2' A3' c3', e = .returned (.agg #[.int .i64 slot, .int .i64 base, .slice A0' n0 c0', .int .i64 next, .slice A1' n1 c1', .slice A2' n2 c2', .slice A3' n3 c3', .int .i64 bad]) ∧ Rm A0' n0 c0' ∧ Rm A1' n1 c1' ∧ Rm A2' n2 c2' ∧ EndT A0' n0 els A1' n1 hs A2' n2 l (.slice A3' n3 c3') got w' (rng w.heap.size w'.heap.size)) ∧ Below w.heap.size w w' := by
  have hg := hS.lt
  have hl0 := h0.len
  have hl3 := h3.len
  have S1 := Stc.new w 119 [.int .i64 0, .int .i64 0, .slice none 0 0, .int .i64 0, .slice none 0 0, .slice none 0 0, .slice none 0 0, .int .i64 0] _ rfl
  have B0 := ab (Below.refl _ w) (.cells #[.int .i64 0, .int .i64 0, .slice none 0 0, .int .i64 0, .slice none 0 0, .slice none 0 0, .slice none 0 0, .int .i64 0] 119)
  have S0 := hS.alloc (.cells #[.int .i64 0, .int .i64 0, .slice none 0 0, .int .i64 0, .slice none 0 0, .slice none 0 0, .slice none 0 0, .int .i64 0] 119)
  have hW : w.heap.size < (w.alloc (.cells #[.int .i64 0, .int .i64 0, .slice none 0 0, .int .i64 0, .slice none 0 0, .slice none 0 0, .slice none 0 0, .int .i64 0] 119)).heap.size := by simp
  go_enter Try.func167, Try.ntmps167
  go_upto_region 1 with fail
  generalize hW0 : w.alloc (.cells #[.int .i64 0, .int .i64 0, .slice none 0 0, .int .i64 0, .slice none 0 0, .slice none 0 0, .slice none 0 0, .int .i64 0] 119) = W0 at *
  clear hW0
  have hgW : g < W0.heap.size := by omega
  have G1 : Shut (∀ W : World, (W.cell? ⟨g, 0, none⟩ = some (.int .i64 slot) ∧ W.cell? ⟨g, 6, none⟩ = some (.slice A3 n3 c3) ∧ W.cell? ⟨g, 7, none⟩ = some (.int .i64 bad) ∧ Below w.heap.size W0 W) → Stc W w.heap.size [.int .i64 0, .int .i64 0, .slice none 0 0, .int .i64 0, .slice none 0 0, .slice none 0 0, .slice none 0 0, .int .i64 0] 119 → Calls Try.prog 120 #[.pointer (some ⟨g, 1, none⟩)] W fun e w' => (∃ A c, e = .returned (.agg #[.int .i64 base, .slice A n0 c]) ∧ Rm A n0 c ∧ tP A n0 els w' (rng W.heap.size w'.heap.size)) ∧ Below W.heap.size W w' ∧ (w'.cell? ⟨g, 0, none⟩ = some (.int .i64 slot) ∧ w'.cell? ⟨g, 6, none⟩ = some (.slice A3 n3 c3) ∧ w'.cell? ⟨g, 7, none⟩ = some (.int .i64 bad) ∧ Below w.heap.size W0 w') ∧ Stc w' w.heap.size [.int .i64 0, .int .i64 0, .slice none 0 0, .int .i64 0, .slice none 0 0, .slice none 0 0, .slice none 0 0, .int .i64 0] 119) := by
    refine ⟨fun W ⟨z0, z1, z2, z3⟩ rb => ?_⟩
    have BW := B0.trans z3
    have zW := z3.size
    have SG := S0.below z3
    have hc := fun (i : Nat) => (z3.cell (p := ⟨g, i, none⟩) hg)
    refine (l8SenderAt_any g 1 base A0 n0 c0 els W (by omega) ((hc 1).trans (S0.cell (i := 1) rfl)) ((hc 2).trans (S0.cell (i := 2) rfl)) (h0.below BW) hn0 hb0).mono ?_
    rintro e w' ⟨⟨v, rfl, hap⟩, hb'⟩
    obtain ⟨A, c, rfl, hrm, hlo⟩ := hap.lo hl0
    refine ⟨⟨A, c, rfl, hrm, hlo⟩, hb', ?_⟩
    have hd := fun (i : Nat) => hb'.cell (p := ⟨g, i, none⟩) (Nat.lt_of_lt_of_le hgW zW)
    exact ⟨⟨(hd 0).trans z0, (hd 6).trans z1, (hd 7).trans z2, z3.trans (hb'.mono (by omega))⟩, rb.below hb' (Nat.lt_of_lt_of_le hW zW)⟩
  have G2 : Shut (∀ W : World, (W.cell? ⟨g, 0, none⟩ = some (.int .i64 slot) ∧ W.cell? ⟨g, 6, none⟩ = some (.slice A3 n3 c3) ∧ W.cell? ⟨g, 7, none⟩ = some (.int .i64 bad) ∧ Below w.heap.size W0 W) → Stc W w.heap.size [.int .i64 0, .int .i64 0, .slice none 0 0, .int .i64 0, .slice none 0 0, .slice none 0 0, .slice none 0 0, .int .i64 0] 119 → Calls Try.prog 151 #[.pointer (some ⟨g, 3, none⟩)] W fun e w' => (∃ A c A' c', e = .returned (.agg #[.int .i64 next, .slice A n1 c, .slice A' n2 c']) ∧ Rm A n1 c ∧ Rm A' n2 c' ∧ (Thing.sep (tH A n1 hs) (tR A' n2 l)) w' (rng W.heap.size w'.heap.size)) ∧ Below W.heap.size W w' ∧ (w'.cell? ⟨g, 0, none⟩ = some (.int .i64 slot) ∧ w'.cell? ⟨g, 6, none⟩ = some (.slice A3 n3 c3) ∧ w'.cell? ⟨g, 7, none⟩ = some (.int .i64 bad) ∧ Below w.heap.size W0 w') ∧ Stc w' w.heap.size [.int .i64 0, .int .i64 0, .slice none 0 0, .int .i64 0, .slice none 0 0, .slice none 0 0, .slice none 0 0, .int .i64 0] 119) := by
    refine ⟨fun W ⟨z0, z1, z2, z3⟩ rb => ?_⟩
    have BW := B0.trans z3
    have zW := z3.size
    have SG := S0.below z3
    have hc := fun (i : Nat) => (z3.cell (p := ⟨g, i, none⟩) hg)
    refine (l8ReceiverAt_any g 3 next A1 n1 c1 hs A2 n2 c2 l W (by omega) ((hc 3).trans (S0.cell (i := 3) rfl)) ((hc 4).trans (S0.cell (i := 4) rfl)) ((hc 5).trans (S0.cell (i := 5) rfl)) (h1.below BW) (h2.below BW) hz2 hn1 hb1 hn2).mono ?_
    rintro e w' ⟨h, hb'⟩
    refine ⟨h, hb', ?_⟩
    have hd := fun (i : Nat) => hb'.cell (p := ⟨g, i, none⟩) (Nat.lt_of_lt_of_le hgW zW)
    exact ⟨⟨(hd 0).trans z0, (hd 6).trans z1, (hd 7).trans z2, z3.trans (hb'.mono (by omega))⟩, rb.below hb' (Nat.lt_of_lt_of_le hW zW)⟩
  have G3 : Shut (∀ W : World, (W.cell? ⟨g, 0, none⟩ = some (.int .i64 slot) ∧ W.cell? ⟨g, 6, none⟩ = some (.slice A3 n3 c3) ∧ W.cell? ⟨g, 7, none⟩ = some (.int .i64 bad) ∧ Below w.heap.size W0 W) → Stc W w.heap.size [.int .i64 0, .int .i64 0, .slice none 0 0, .int .i64 0, .slice none 0 0, .slice none 0 0, .slice none 0 0, .int .i64 0] 119 → Calls Try.prog 195 #[.slice A3 n3 c3] W fun e w' => (∃ A c, e = .returned (.slice A n3 c) ∧ tG (.slice A n3 c) got w' (rng W.heap.size w'.heap.size)) ∧ Below W.heap.size W w' ∧ (w'.cell? ⟨g, 0, none⟩ = some (.int .i64 slot) ∧ w'.cell? ⟨g, 6, none⟩ = some (.slice A3 n3 c3) ∧ w'.cell? ⟨g, 7, none⟩ = some (.int .i64 bad) ∧ Below w.heap.size W0 w') ∧ Stc w' w.heap.size [.int .i64 0, .int .i64 0, .slice none 0 0, .int .i64 0, .slice none 0 0, .slice none 0 0, .slice none 0 0, .int .i64 0] 119) := by
    refine ⟨fun W ⟨z0, z1, z2, z3⟩ rb => ?_⟩
    have BW := B0.trans z3
    have zW := z3.size
    have SG := S0.below z3
    have hc := fun (i : Nat) => (z3.cell (p := ⟨g, i, none⟩) hg)
    refine (l9Lists_any A3 n3 c3 got W (h3.below BW) hn3 hb3).mono ?_
    rintro e w' ⟨⟨v, rfl, hap⟩, hb'⟩
    obtain ⟨A, c, rfl, hrm, hlo⟩ := hap.lo hl3
    refine ⟨⟨A, c, rfl, hap.as_⟩, hb', ?_⟩
    have hd := fun (i : Nat) => hb'.cell (p := ⟨g, i, none⟩) (Nat.lt_of_lt_of_le hgW zW)
    exact ⟨⟨(hd 0).trans z0, (hd 6).trans z1, (hd 7).trans z2, z3.trans (hb'.mono (by omega))⟩, rb.below hb' (Nat.lt_of_lt_of_le hW zW)⟩
  have x0 := S0.cell (i := 0) rfl
  have x1 := S0.cell (i := 6) rfl
  have x2 := S0.cell (i := 7) rfl
  have hWW := (Below.refl w.heap.size W0).drew
  have hne : g ≠ w.heap.size := by omega
  have SZ : Stc W0.drew w.heap.size [.int .i64 0, .int .i64 0, .slice none 0 0, .int .i64 0, .slice none 0 0, .slice none 0 0, .slice none 0 0, .int .i64 0] 119 := S1
  have hB : w.heap.size + 1 ≤ W0.drew.heap.size := hW
  clear h0 h1 h2 h3 S0 S1 hS
  refine wp_region_noPanic ?_
  refine wp_region_held_drew (S := fun W => W.cell? ⟨g, 0, none⟩ = some (.int .i64 slot) ∧ W.cell? ⟨g, 6, none⟩ = some (.slice A3 n3 c3) ∧ W.cell? ⟨g, 7, none⟩ = some (.int .i64 bad) ∧ Below w.heap.size W0 W) (by kernel_rfl) ?_ (fun hHeld => ?_)
  · exact ⟨x0, x1, x2, hWW⟩
  refine wpAnyH_take (i := 0) (oi := _) (v := .pointer (some ⟨g, 0, none⟩)) rfl (by kernel_rfl) (by kernel_rfl) (by kernel_rfl) (fun _ _ _ h => h) (Or.inl ⟨by rfl, by intro W hSw; obtain ⟨z0, z1, z2, z3⟩ := hSw; go_simp⟩) (by assumption) ?_
  refine wpAnyH_take (i := 1) (oi := _) (v := .pointer (some ⟨g, 0, none⟩)) rfl (by kernel_rfl) (by kernel_rfl) (by kernel_rfl) (fun _ _ _ h => h) (Or.inl ⟨by rfl, by intro W hSw; obtain ⟨z0, z1, z2, z3⟩ := hSw; go_simp⟩) (by assumption) ?_
  refine wpAnyH_take (i := 2) (oi := _) (v := .pointer (some ⟨g, 0, none⟩)) rfl (by kernel_rfl) (by kernel_rfl) (by kernel_rfl) (fun _ _ _ h => h) (Or.inl ⟨by rfl, by intro W hSw; obtain ⟨z0, z1, z2, z3⟩ := hSw; go_simp⟩) (by assumption) ?_
  refine wpAnyH_take (i := 3) (oi := _) (v := .int .i64 slot) rfl (by kernel_rfl) (by kernel_rfl) (by kernel_rfl) (fun _ _ _ h => h) (Or.inl ⟨by rfl, by intro W hSw; obtain ⟨z0, z1, z2, z3⟩ := hSw; go_simp⟩) (by assumption) ?_
  refine wpAnyH_take (i := 4) (oi := _) (v := .pointer (some ⟨g, 0, none⟩)) rfl (by kernel_rfl) (by kernel_rfl) (by kernel_rfl) (fun _ _ _ h => h) (Or.inl ⟨by rfl, by intro W hSw; obtain ⟨z0, z1, z2, z3⟩ := hSw; go_simp⟩) (by assumption) ?_
  refine wpAnyH_take (i := 5) (oi := _) (v := .pointer (some ⟨g, 0, none⟩)) rfl (by kernel_rfl) (by kernel_rfl) (by kernel_rfl) (fun _ _ _ h => h) (Or.inl ⟨by rfl, by intro W hSw; obtain ⟨z0, z1, z2, z3⟩ := hSw; go_simp⟩) (by assumption) ?_
  refine wpAnyH_take (i := 6) (oi := _) (v := .pointer (some ⟨g, 1, none⟩)) rfl (by kernel_rfl) (by kernel_rfl) (by kernel_rfl) (fun _ _ _ h => h) (Or.inl ⟨by rfl, by intro W hSw; obtain ⟨z0, z1, z2, z3⟩ := hSw; go_simp⟩) (by assumption) ?_
  refine wpAnyH_take (i := 8) (oi := _) (v := .pointer (some ⟨g, 0, none⟩)) rfl (by kernel_rfl) (by kernel_rfl) (by kernel_rfl) (fun _ _ _ h => h) (Or.inl ⟨by rfl, by intro W hSw; obtain ⟨z0, z1, z2, z3⟩ := hSw; go_simp⟩) (by assumption) ?_
  refine wpAnyH_take (i := 9) (oi := _) (v := .pointer (some ⟨g, 0, none⟩)) rfl (by kernel_rfl) (by kernel_rfl) (by kernel_rfl) (fun _ _ _ h => h) (Or.inl ⟨by rfl, by intro W hSw; obtain ⟨z0, z1, z2, z3⟩ := hSw; go_simp⟩) (by assumption) ?_
  refine wpAnyH_take (i := 10) (oi := _) (v := .pointer (some ⟨g, 3, none⟩)) rfl (by kernel_rfl) (by kernel_rfl) (by kernel_rfl) (fun _ _ _ h => h) (Or.inl ⟨by rfl, by intro W hSw; obtain ⟨z0, z1, z2, z3⟩ := hSw; go_simp⟩) (by assumption) ?_
  refine wpAnyH_take (i := 12) (oi := _) (v := .pointer (some ⟨g, 0, none⟩)) rfl (by kernel_rfl) (by kernel_rfl) (by kernel_rfl) (fun _ _ _ h => h) (Or.inl ⟨by rfl, by intro W hSw; obtain ⟨z0, z1, z2, z3⟩ := hSw; go_simp⟩) (by assumption) ?_
  refine wpAnyH_take (i := 13) (oi := _) (v := .pointer (some ⟨g, 0, none⟩)) rfl (by kernel_rfl) (by kernel_rfl) (by kernel_rfl) (fun _ _ _ h => h) (Or.inl ⟨by rfl, by intro W hSw; obtain ⟨z0, z1, z2, z3⟩ := hSw; go_simp⟩) (by assumption) ?_
  refine wpAnyH_take (i := 14) (oi := _) (v := .pointer (some ⟨g, 6, none⟩)) rfl (by kernel_rfl) (by kernel_rfl) (by kernel_rfl) (fun _ _ _ h => h) (Or.inl ⟨by rfl, by intro W hSw; obtain ⟨z0, z1, z2, z3⟩ := hSw; go_simp⟩) (by assumption) ?_
  refine wpAnyH_take (i := 15) (oi := _) (v := .slice A3 n3 c3) rfl (by kernel_rfl) (by kernel_rfl) (by kernel_rfl) (fun _ _ _ h => h) (Or.inl ⟨by rfl, by intro W hSw; obtain ⟨z0, z1, z2, z3⟩ := hSw; go_simp⟩) (by assumption) ?_
  refine wpAnyH_take (i := 17) (oi := _) (v := .pointer (some ⟨g, 0, none⟩)) rfl (by kernel_rfl) (by kernel_rfl) (by kernel_rfl) (fun _ _ _ h => h) (Or.inl ⟨by rfl, by intro W hSw; obtain ⟨z0, z1, z2, z3⟩ := hSw; go_simp⟩) (by assumption) ?_
  refine wpAnyH_take (i := 18) (oi := _) (v := .pointer (some ⟨g, 0, none⟩)) rfl (by kernel_rfl) (by kernel_rfl) (by kernel_rfl) (fun _ _ _ h => h) (Or.inl ⟨by rfl, by intro W hSw; obtain ⟨z0, z1, z2, z3⟩ := hSw; go_simp⟩) (by assumption) ?_
  refine wpAnyH_take (i := 19) (oi := _) (v := .pointer (some ⟨g, 7, none⟩)) rfl (by kernel_rfl) (by kernel_rfl) (by kernel_rfl) (fun _ _ _ h => h) (Or.inl ⟨by rfl, by intro W hSw; obtain ⟨z0, z1, z2, z3⟩ := hSw; go_simp⟩) (by assumption) ?_
  refine wpAnyH_take (i := 20) (oi := _) (v := .int .i64 bad) rfl (by kernel_rfl) (by kernel_rfl) (by kernel_rfl) (fun _ _ _ h => h) (Or.inl ⟨by rfl, by intro W hSw; obtain ⟨z0, z1, z2, z3⟩ := hSw; go_simp⟩) (by assumption) ?_
  refine wpAnyH_ready (rs := [7]) (by kernel_rfl) (by simp) (AllReadyH.cons (o := _) rfl (fun K hK => ?_) AllReadyH.nil)
  rw [if_pos (by rfl)]
  go_simp
  refine (G1.out _ hHeld SZ).mono ?_
  rintro e w1 ⟨⟨A0', c0', rfl, m0, R1⟩, b1, hs1, rb1⟩
  refine hK.out _ _ hs1 (fun _ => ?_)
  clear hK K
  refine wpAnyH_ready (rs := [11]) (by kernel_rfl) (by simp) (AllReadyH.cons (o := _) rfl (fun K hK => ?_) AllReadyH.nil)
  rw [if_pos (by rfl)]
  go_simp
  refine (G2.out _ hs1 rb1).mono ?_
  rintro e w2 ⟨⟨A1', c1', A2', c2', rfl, m1, m2, R2⟩, b2, hs2, rb2⟩
  refine hK.out _ _ hs2 (fun _ => ?_)
  clear hK K
  refine wpAnyH_ready (rs := [16]) (by kernel_rfl) (by simp) (AllReadyH.cons (o := _) rfl (fun K hK => ?_) AllReadyH.nil)
  rw [if_pos (by rfl)]
  go_simp
  refine (G3.out _ hs2 rb2).mono ?_
  rintro e w3 ⟨⟨A3', c3', rfl, R3⟩, b3, hs3, rb3⟩
  refine hK.out _ _ hs3 (fun _ => ?_)
  clear hK K
  refine wpAnyH_take (i := 21) (oi := _) (v := .agg #[.int .i64 slot, .int .i64 base, .slice A0' n0 c0', .int .i64 next, .slice A1' n1 c1', .slice A2' n2 c2', .slice A3' n3 c3', .int .i64 bad]) rfl (by kernel_rfl) (by kernel_rfl) (by kernel_rfl) (fun _ _ _ h => h) (Or.inl ⟨by rfl, by intro W hSw; obtain ⟨z0, z1, z2, z3⟩ := hSw; go_simp⟩) (by assumption) ?_
  refine wpAnyH_ready (rs := [22]) (by kernel_rfl) (by simp) (AllReadyH.cons (o := _) rfl (fun K hK => ?_) AllReadyH.nil)
  rw [if_pos (by rfl)]
  have e0 := rb3.cell (i := 0) rfl
  have e1 := rb3.cell (i := 1) rfl
  have e2 := rb3.cell (i := 2) rfl
  have e3 := rb3.cell (i := 3) rfl
  have e4 := rb3.cell (i := 4) rfl
  have e5 := rb3.cell (i := 5) rfl
  have e6 := rb3.cell (i := 6) rfl
  have e7 := rb3.cell (i := 7) rfl
  have ef := rb3.frozen
  go_simp
  obtain ⟨z0, z1, z2, z3⟩ := hs3
  refine hK.out _ _ ⟨(farE _ hne 0 _ _ _ _ _ _ _ _).trans z0, (farE _ hne 6 _ _ _ _ _ _ _ _).trans z1, (farE _ hne 7 _ _ _ _ _ _ _ _).trans z2, belE z3 (Nat.le_refl _) _ _ _ _ _ _ _ _⟩ (fun _ => ?_)
  clear hK K
  refine wpAnyH_done (by kernel_rfl) (NoPanic.normal ?_) _
  try simp only [List.getElem_toArray, List.getElem_cons_succ, List.getElem_cons_zero, Act.put, List.setIfInBounds_toArray, List.set_cons_zero, List.set_cons_succ]
  have OK1 := okP A0' n0 els
  have OK2 := (okH A1' n1 hs).sep (okR A2' n2 l)
  have OK3 := okG (.slice A3' n3 c3') got
  obtain ⟨q1, q2, q3, s0, s1, s2⟩ := copyEnd3 OK1 OK2 R1 b1 R2 b2 R3 b3
  have RR := sep3 (lo := w.heap.size + 1) (hi := w3.heap.size) q1 q2 q3 (by omega) (by omega) (by omega) (by omega) (by omega) (by omega) (by omega) (by omega) (by omega)
  have SF := stcE rb3 (.int .i64 slot) (.int .i64 base) (.slice A0' n0 c0') (.int .i64 next) (.slice A1' n1 c1') (.slice A2' n2 c2') (.slice A3' n3 c3') (.int .i64 bad)
  have y0 := SF.cell (i := 0) rfl
  have y1 := SF.cell (i := 1) rfl
  have y2 := SF.cell (i := 2) rfl
  have y3 := SF.cell (i := 3) rfl
  have y4 := SF.cell (i := 4) rfl
  have y5 := SF.cell (i := 5) rfl
  have y6 := SF.cell (i := 6) rfl
  have y7 := SF.cell (i := 7) rfl
  go_wp2
  refine bodyPost_ret (v := .agg #[.int .i64 slot, .int .i64 base, .slice A0' n0 c0', .int .i64 next, .slice A1' n1 c1', .slice A2' n2 c2', .slice A3' n3 c3', .int .i64 bad]) (by simp [results, Try.results167, go_sem, y0, y1, y2, y3, y4, y5, y6, y7]) rfl ?_
  have TF := tuE w3 w.heap.size (.int .i64 slot) (.int .i64 base) (.slice A0' n0 c0') (.int .i64 next) (.slice A1' n1 c1') (.slice A2' n2 c2') (.slice A3' n3 c3') (.int .i64 bad)
  have OK := OK1.sep (OK2.sep OK3)
  refine ⟨⟨A0', c0', A1', c1', A2', c2', A3', c3', rfl, m0, m1, m2, ?_⟩, B0.trans (belE z3 (Nat.le_refl _) _ _ _ _ _ _ _ _)⟩
  try simp only [World.size_setCell]
  exact OK.widen (OK.tu RR TF (fun b hF e => by unfold rng at hF; omega)) (by omega) (Nat.le_refl _)

end Go.Proofs.Ytgmbofoneeagiaa
