/- What came, put to its place by the model. -/
import Derived.Test.YtpaemmoopjkppaaApsX
import Derived.Test.YtpaemmoopjkppaaHwnP
import Derived.Test.YtpaemmoopjkppaaHdtF
import Derived.Test.YtpaemmoopjkppaaPutP
namespace Go.Proofs.Ytpaemmoopjkppaa
open Go.RowKit

theorem insH_lt (x : HeldD) (l : List HeldD) {k : Nat} (hk : k < plcH x.f0 l) : (insH x l)[k]? = l[k]? := by
  have := plcH_le x.f0 l
  rw [insH_eq, List.getElem?_append_left (by rw [List.length_take]; omega), List.getElem?_take_of_lt hk]
theorem insH_at (x : HeldD) (l : List HeldD) : (insH x l)[plcH x.f0 l]? = some x := by
  have := plcH_le x.f0 l
  rw [insH_eq, List.getElem?_append_right (by rw [List.length_take]; omega), List.length_take, Nat.min_eq_left this, Nat.sub_self]
  rfl
theorem insH_gt (x : HeldD) (l : List HeldD) {k : Nat} (hk : plcH x.f0 l ≤ k) : (insH x l)[k + 1]? = l[k]? := by
  have := plcH_le x.f0 l
  rw [insH_eq, List.getElem?_append_right (by rw [List.length_take]; omega), List.length_take, Nat.min_eq_left this, show k + 1 - plcH x.f0 l = (k - plcH x.f0 l) + 1 by omega, List.getElem?_cons_succ, List.getElem?_drop]
  congr 1
  omega
theorem plcH_not (s : Int) {l : List HeldD} {k : Nat} {e : HeldD} (he : l[k]? = some e) (h : ¬ s < e.f0) (hk : k ≤ plcH s l) : k < plcH s l := by
  rcases Nat.lt_or_ge k (plcH s l) with h1 | h1
  · exact h1
  · have hkp : k = plcH s l := by omega
    rw [hkp] at he
    exact absurd (plcH_at he) h
theorem plcH_yes (s : Int) {l : List HeldD} {k : Nat} {e : HeldD} (he : l[k]? = some e) (h : s < e.f0) (hk : k ≤ plcH s l) : k = plcH s l := by
  rcases Nat.lt_or_ge k (plcH s l) with h1 | h1
  · exact absurd h (plcH_before he h1)
  · omega
theorem take_snocM {E : Type} {l : List E} {k : Nat} {e : E} (h : l[k]? = some e) : l.take (k + 1) = l.take k ++ [e] := by rw [List.take_add_one, h]; rfl

/-- the elements of a list with the sets that their runs lie in -/
theorem Lo.openH {w : World} {F : Nat → Prop} {A : Option Addr} {n : Nat} {els : List HeldD} (h : Lo HeldD.cels 3 w F A n els) : ∃ G : Nat → Nat → Prop, (∀ i b, G i b → F b) ∧ (∀ i i' b, G i b → G i' b → i = i') ∧
    ∀ i e, els[i]? = some e → ∃ g off B m c, A = some ⟨g, off, none⟩ ∧ F g ∧ g < w.heap.size ∧ (∀ i b, G i b → b ≠ g) ∧ w.cell? ⟨g, off + i * 3, none⟩ = some (.int .i64 e.f0) ∧ w.cell? ⟨g, off + i * 3 + 1, none⟩ = some (.slice B m c) ∧ w.cell? ⟨g, off + i * 3 + 2, none⟩ = some (.bool e.f2) ∧ Bo w (G i) B m e.f1 ∧ (B = none → c = 0) := by
  rcases Nat.eq_zero_or_pos n with h0 | h0
  · refine ⟨fun _ _ => False, fun _ _ h => h.elim, fun _ _ _ h => h.elim, fun i e he => ?_⟩
    have := (List.getElem?_eq_some_iff.1 he).1
    rw [h.len] at this; omega
  · obtain ⟨g, off, G, rfl, hF, hlt, hf, hG, hD, hc⟩ := h.at_ h0
    refine ⟨fun i b => G i 1 b, fun i b hb => (hG i 1 b hb).1, fun i i' b h1 h2 => (hD _ _ _ _ _ h1 h2).1, fun i e he => ?_⟩
    obtain ⟨x0, h00, h01⟩ := hc i e he 0 _ rfl
    obtain ⟨x1, h10, h11⟩ := hc i e he 1 _ rfl
    obtain ⟨x2, h20, h21⟩ := hc i e he 2 _ rfl
    obtain ⟨B, m, c, rfl, hb, hz⟩ := h11
    exact ⟨g, off, B, m, c, rfl, hF, hlt, fun i b hb => (hG i 1 b hb).2, by rw [← show x0 = _ from h01]; exact h00, h10, by rw [← show x2 = _ from h21]; exact h20, hb, hz⟩

theorem Below.elseH {B : Nat} {w W W' : World} {v : Value} {F : Nat → Prop} (hb : Below B w W) (t : Tu F W W') (e : Else v W W') (hv : ∀ b, v.ownBlock = some b → B ≤ b) (hB : B ≤ W.heap.size) : Below B w W' :=
  ⟨t.os.trans hb.os, t.tape.trans hb.tape, t.output.trans hb.output, Nat.le_trans hb.size t.size, fun k hk => (e k (by omega) (fun h => by have := hv k h; omega)).trans (hb.block k hk)⟩
theorem Stc.elseH {W W' : World} {v : Value} {b : Nat} {L : List Value} {t : TypeId} (h : Stc W b L t) (e : Else v W W') (hv : v.ownBlock ≠ some b) : Stc W' b L t := (e b h.lt hv).trans h

theorem As.made0 {E : Type} {cels : E → List Cel} {sz : Nat} {t : TypeId} (w : World) (F : Nat → Prop) (hF : F w.heap.size) : As cels sz t (w.alloc (.cells #[] t)) F (.slice (some ⟨w.heap.size, 0, none⟩) 0 0) ([] : List E) :=
  ⟨[], World.ownsRow_made w #[] 0 (Nat.zero_le _) (by simp [maxLen]) (by simp), (fun b e => by injection e with e; exact e ▸ hF), fun _ _ _ => False, fun _ _ _ h => h.elim, fun _ _ _ _ _ h => h.elim, fun i e h => by simp at h⟩

/-- where what is held lies, once k were gone through -/
def holdSet (s0 : Nat) (G : Nat → Nat → Prop) (X : Nat → Prop) (k : Nat) (D : Bool) (b : Nat) : Prop := (∃ i, i < k ∧ G i b) ∨ (D = true ∧ X b) ∨ s0 < b

set_option linter.unusedVariables false in
set_option maxRecDepth 100000 in
set_option maxHeartbeats 8000000 in
theorem l8Hold_any (A : Option Addr) (n c : Nat) (els : List HeldD) (x : HeldD) (B : Option Addr) (m d : Nat) (F X : Nat → Prop) (w : World) (h : Lo HeldD.cels 3 w F A n els) (hx : Bo w X B m x.f1) (hz : B = none → d = 0) (hFl : ∀ b, F b → b < w.heap.size) (hXl : ∀ b, X b → b < w.heap.size) (hFX : ∀ b, X b → ¬ F b) (hn : n ≤ 1000) :
    Calls Try.prog 83 #[.slice A n c, .agg #[.int .i64 x.f0, .slice B m d, .bool x.f2]] w fun e w' => (∃ A' c', e = .returned (.slice A' (n + 1) c') ∧ Rm A' (n + 1) c' ∧ Lo HeldD.cels 3 w' (fun b => F b ∨ X b ∨ (w.heap.size < b ∧ b < w'.heap.size)) A' (n + 1) (insH x els)) ∧ Below w.heap.size w w' := by
  have Hl := Shut.mk h.len
  obtain ⟨G, hG, hGd, hel⟩ := h.openH
  have Hil := Shut.mk (insH_len x els)
  have Hpl := Shut.mk (plcH_le x.f0 els)
  clear h
  obtain ⟨P, hP⟩ : ∃ P, P = plcH x.f0 els := ⟨_, rfl⟩
  have hPn : P ≤ n := by rw [hP, ← Hl.out]; exact Hpl.out
  have S0 := Stc.new w 84 [.int .i64 x.f0, .slice B m d, .bool x.f2] _ rfl
  have B0 := ab (Below.refl _ w) (.cells #[.int .i64 x.f0, .slice B m d, .bool x.f2] 84)
  have HP := Shut.mk hP
  have hGl : ∀ i b, G i b → b < w.heap.size := fun i b hb => hFl b (hG i b hb)
  have hGX : ∀ i b, G i b → ¬ X b := fun i b hb hX => hFX b hX (hG i b hb)
  clear hP
  go_enter Try.func83, Try.ntmps83
  go_wp2
  go_loopw [5, 6, 11] (fun v dn i wr => ∃ (k : Nat) (D : Bool), k ≤ n ∧ i = .int .i64 k ∧ dn = .bool D ∧ (D = true → P < k) ∧ (D = false → k ≤ P) ∧ As HeldD.cels 3 84 wr (holdSet w.heap.size G X k D) v ((insH x els).take (if D = true then k + 1 else k)) ∧ (∀ b, v.ownBlock = some b → w.heap.size < b) ∧ Stc wr w.heap.size [.int .i64 x.f0, .slice B m d, .bool x.f2] 84 ∧ Below w.heap.size w wr) (fun _ _ i _ => n - (intOf i).toNat)
  case atStart => exact ⟨0, false, Nat.zero_le _, rfl, rfl, (fun h => by cases h), (fun _ => Nat.zero_le _), by simpa using As.made0 (w.alloc (.cells #[.int .i64 x.f0, .slice B m d, .bool x.f2] 84)) (holdSet w.heap.size G X 0 false) (Or.inr (Or.inr (by simp))), (fun b h => by injection h with h; subst h; simp), S0.alloc _, ab B0 _⟩
  case round =>
    obtain ⟨k, D, hk, rfl, rfl, hD1, hD2, has, hvb, hS, hbel⟩ := hrel
    have hwr := hbel.size
    have hwl := hS.lt
    have v0 := hS.cell (i := 0) rfl
    have v1 := hS.cell (i := 1) rfl
    have v2 := hS.cell (i := 2) rfl
    have hb' := bcell hbel
    by_cases hlt : k < n
    · have he : els[k]? = some (els[k]'(by rw [Hl.out]; exact hlt)) := List.getElem?_eq_getElem _
      generalize els[k]'(by rw [Hl.out]; exact hlt) = e at he
      obtain ⟨g, off, Be, me, ce, rfl, hFg, hgl, hGg, g0, g1, g2, hbo, hz'⟩ := hel k e he
      have He := Shut.mk he
      clear he hel
      have Hk := Shut.mk (insH_lt x els (k := k))
      cases D
      · have hkP := hD2 rfl
        have has : As HeldD.cels 3 84 wr (holdSet w.heap.size G X k false) u5 ((insH x els).take k) := has
        by_cases hq : x.f0 < e.f0
        · have hkP2 : Shut (k = P) := ⟨by rw [HP.out]; exact plcH_yes _ He.out hq (by rw [← HP.out]; exact hkP)⟩
          have t6 : decide (x.f0 < e.f0) = true := by simpa using hq
          go_wp2_with fail
          go_quiet (fail)
          replace has := has.tu (H := fun _ => False) ((Tu.refl _ _).drewN nq) (fun _ _ h => h)
          replace hS := hS.drewN nq
          replace hbel := ad hbel nq
          clear hb' v0 v1 v2
          generalize wr.drewN nq = w5 at *
          have v0 := hS.cell (i := 0) rfl
          have v1 := hS.cell (i := 1) rfl
          have v2 := hS.cell (i := 2) rfl
          have hb' := bcell hbel
          go_wp2_with (first | (at_builtin; refine wpList_as_append (cels := HeldD.cels) Try.underlying30 info_Held rfl (by decide) (by decide) (fun _ => rfl) rfl _ _ rfl (w6.alloc (.cells #[.int .i64 e.f0, .slice Be me ce, .bool e.f2] 84)) (holdSet w.heap.size G X k true) (G k) (holdSet w.heap.size G X (k + 1) true) v6 (((insH x els).take k) ++ [x]) (As.below has6 (ab (Below.refl w6.heap.size w6) _) (Nat.le_refl _)) (by first | (rw [List.length_take]; omega) | (rw [List.length_append, List.length_take]; simp; omega)) rfl _ _ [.int .i64 e.f0, .slice Be me ce, .bool e.f2] rfl rfl (cells_new (by simp) _ _) (by simp [Value.oneCell']) e (fun j b => j = 1 ∧ (G k) b) (fun j b h => h.2) (fun j j' b h1 h2 => by rw [h1.1, h2.1]) (fun b hg h => by rcases h with ⟨i, hi, hg2⟩ | ⟨_, hX⟩ | h; have := hGd i k b hg2 hg; omega; exact hGX k b hg hX; have := hGl k b hg; omega) (fun b hg => by have := hGl k b hg; have := hb6.size; simp; omega) (fun b h => by rcases h with ⟨i, hi, hg⟩ | h | h; exact .inl ⟨i, by omega, hg⟩; exact .inr (.inl h); exact .inr (.inr h)) (fun b h => .inl ⟨k, by omega, h⟩) (.inr (.inr (by have := hb6.size; simp; omega))) ?hnew ?_; (case hnew => (intro j dd hj; rcases j with _ | _ | _ | j <;> simp [HeldD.cels] at hj <;> subst hj; exact ⟨_, rfl, rfl⟩; exact ⟨_, rfl, Be, me, ce, rfl, (hbo.wider (fun b h => ⟨rfl, h⟩)).below (ab hb6 (.cells #[.int .i64 e.f0, .slice Be me ce, .bool e.f2] 84)) (Nat.le_refl _), hz'⟩; exact ⟨_, rfl, rfl⟩)); intro v7 w7 has7 tu7 lay7 else7; have hvb7 : ∀ b, Value.ownBlock v7 = some b → w.heap.size < b := (fun b hb => by rcases lay7 with h | h; exact hvb6 b (h.symm.trans hb); rw [h] at hb; injection hb with hb; rw [World.size_alloc] at hb; have := hb6.size; omega); have hb7 := Below.elseH (ab hb6 (.cells #[.int .i64 e.f0, .slice Be me ce, .bool e.f2] 84)) tu7 else7 (fun b h => Nat.le_of_lt (hvb6 b h)) (by have := hb6.size; simp; omega); have hS7 := Stc.elseH (hS6.alloc (.cells #[.int .i64 e.f0, .slice Be me ce, .bool e.f2] 84)) else7 (fun h => by have := hvb6 _ h; omega); have q7 := bcell hb7) | (at_builtin; refine wpList_as_append (cels := HeldD.cels) Try.underlying30 info_Held rfl (by decide) (by decide) (fun _ => rfl) rfl _ _ rfl (w5.alloc (.cells #[.int .i64 x.f0, .slice B m d, .bool x.f2] 84)) (holdSet w.heap.size G X k false) X (holdSet w.heap.size G X k true) u5 ((insH x els).take k) (As.below has (ab (Below.refl w5.heap.size w5) _) (Nat.le_refl _)) (by first | (rw [List.length_take]; omega) | (rw [List.length_append, List.length_take]; simp; omega)) rfl _ _ [.int .i64 x.f0, .slice B m d, .bool x.f2] rfl rfl (cells_new (by simp) _ _) (by simp [Value.oneCell']) x (fun j b => j = 1 ∧ X b) (fun j b h => h.2) (fun j j' b h1 h2 => by rw [h1.1, h2.1]) (fun b hX h => by rcases h with ⟨i, _, hg⟩ | ⟨h, _⟩ | h; exact hGX i b hg hX; cases h; have := hXl b hX; omega) (fun b hX => by have := hXl b hX; have := hbel.size; simp; omega) (fun b h => by rcases h with h | ⟨h, _⟩ | h; exact .inl h; cases h; exact .inr (.inr h)) (fun b h => .inr (.inl ⟨rfl, h⟩)) (.inr (.inr (by have := hbel.size; simp; omega))) ?hnew ?_; (case hnew => (intro j dd hj; rcases j with _ | _ | _ | j <;> simp [HeldD.cels] at hj <;> subst hj; exact ⟨_, rfl, rfl⟩; exact ⟨_, rfl, B, m, d, rfl, (hx.wider (fun b h => ⟨rfl, h⟩)).below (ab hbel (.cells #[.int .i64 x.f0, .slice B m d, .bool x.f2] 84)) (Nat.le_refl _), hz⟩; exact ⟨_, rfl, rfl⟩)); intro v6 w6 has6 tu6 lay6 else6; have hvb6 : ∀ b, Value.ownBlock v6 = some b → w.heap.size < b := (fun b hb => by rcases lay6 with h | h; exact hvb b (h.symm.trans hb); rw [h] at hb; injection hb with hb; rw [World.size_alloc] at hb; have := hbel.size; omega); have hb6 := Below.elseH (ab hbel (.cells #[.int .i64 x.f0, .slice B m d, .bool x.f2] 84)) tu6 else6 (fun b h => Nat.le_of_lt (hvb b h)) (by have := hbel.size; simp; omega); have hS6 := Stc.elseH (hS.alloc (.cells #[.int .i64 x.f0, .slice B m d, .bool x.f2] 84)) else6 (fun h => by have := hvb _ h; omega); have q6 := bcell hb6))
          go_roundw
          case rel =>
            refine ⟨k + 1, true, by omega, by go_num, rfl, (fun _ => by have := hkP2.out; omega), (fun h => by cases h), ?_, hvb7, hS7, hb7⟩
            have e1 : (insH x els).take (k + 1) = (insH x els).take k ++ [x] := take_snocM (by have := insH_at x els; rw [← HP.out, ← hkP2.out] at this; exact this)
            have e2 : (insH x els).take (k + 1 + 1) = (insH x els).take (k + 1) ++ [e] := take_snocM (by rw [insH_gt x els (by rw [← HP.out]; have := hkP2.out; omega)]; exact He.out)
            rw [if_pos rfl, e2, e1]
            exact has7
          case measure => simp [intOf]; omega
        · have hkP2 : k < P := by rw [HP.out]; exact plcH_not _ He.out hq (by rw [← HP.out]; exact hkP)
          have t6 : decide (x.f0 < e.f0) = false := by simpa using hq
          go_wp2_with fail
          go_quiet (fail)
          replace has := has.tu (H := fun _ => False) ((Tu.refl _ _).drewN nq) (fun _ _ h => h)
          replace hS := hS.drewN nq
          replace hbel := ad hbel nq
          clear hb' v0 v1 v2
          generalize wr.drewN nq = w5 at *
          have v0 := hS.cell (i := 0) rfl
          have v1 := hS.cell (i := 1) rfl
          have v2 := hS.cell (i := 2) rfl
          have hb' := bcell hbel
          go_wp2_with (at_builtin; refine wpList_as_append (cels := HeldD.cels) Try.underlying30 info_Held rfl (by decide) (by decide) (fun _ => rfl) rfl _ _ rfl (w5.alloc (.cells #[.int .i64 e.f0, .slice Be me ce, .bool e.f2] 84)) (holdSet w.heap.size G X k false) (G k) (holdSet w.heap.size G X (k + 1) false) u5 ((insH x els).take k) (As.below has (ab (Below.refl w5.heap.size w5) _) (Nat.le_refl _)) (by first | (rw [List.length_take]; omega) | (rw [List.length_append, List.length_take]; simp; omega)) rfl _ _ [.int .i64 e.f0, .slice Be me ce, .bool e.f2] rfl rfl (cells_new (by simp) _ _) (by simp [Value.oneCell']) e (fun j b => j = 1 ∧ (G k) b) (fun j b h => h.2) (fun j j' b h1 h2 => by rw [h1.1, h2.1]) (fun b hg h => by rcases h with ⟨i, hi, hg2⟩ | ⟨_, hX⟩ | h; have := hGd i k b hg2 hg; omega; exact hGX k b hg hX; have := hGl k b hg; omega) (fun b hg => by have := hGl k b hg; have := hbel.size; simp; omega) (fun b h => by rcases h with ⟨i, hi, hg⟩ | h | h; exact .inl ⟨i, by omega, hg⟩; exact .inr (.inl h); exact .inr (.inr h)) (fun b h => .inl ⟨k, by omega, h⟩) (.inr (.inr (by have := hbel.size; simp; omega))) ?hnew ?_; (case hnew => (intro j dd hj; rcases j with _ | _ | _ | j <;> simp [HeldD.cels] at hj <;> subst hj; exact ⟨_, rfl, rfl⟩; exact ⟨_, rfl, Be, me, ce, rfl, (hbo.wider (fun b h => ⟨rfl, h⟩)).below (ab hbel (.cells #[.int .i64 e.f0, .slice Be me ce, .bool e.f2] 84)) (Nat.le_refl _), hz'⟩; exact ⟨_, rfl, rfl⟩)); intro v7 w7 has7 tu7 lay7 else7; have hvb7 : ∀ b, Value.ownBlock v7 = some b → w.heap.size < b := (fun b hb => by rcases lay7 with h | h; exact hvb b (h.symm.trans hb); rw [h] at hb; injection hb with hb; rw [World.size_alloc] at hb; have := hbel.size; omega); have hb7 := Below.elseH (ab hbel (.cells #[.int .i64 e.f0, .slice Be me ce, .bool e.f2] 84)) tu7 else7 (fun b h => Nat.le_of_lt (hvb b h)) (by have := hbel.size; simp; omega); have hS7 := Stc.elseH (hS.alloc (.cells #[.int .i64 e.f0, .slice Be me ce, .bool e.f2] 84)) else7 (fun h => by have := hvb _ h; omega); have q7 := bcell hb7)
          go_roundw
          case rel =>
            refine ⟨k + 1, false, by omega, by go_num, rfl, (fun h => by cases h), (fun _ => by omega), ?_, hvb7, hS7, hb7⟩
            have e1 : (insH x els).take (k + 1) = (insH x els).take k ++ [e] := take_snocM (by rw [insH_lt x els (by rw [← HP.out]; exact hkP2)]; exact He.out)
            rw [if_neg (by simp), e1]
            exact has7
          case measure => simp [intOf]; omega
      · have hkP := hD1 rfl
        have has : As HeldD.cels 3 84 wr (holdSet w.heap.size G X k true) u5 ((insH x els).take (k + 1)) := has
        go_wp2_with fail
        go_quiet (fail)
        replace has := has.tu (H := fun _ => False) ((Tu.refl _ _).drewN nq) (fun _ _ h => h)
        replace hS := hS.drewN nq
        replace hbel := ad hbel nq
        clear hb' v0 v1 v2
        generalize wr.drewN nq = w5 at *
        have v0 := hS.cell (i := 0) rfl
        have v1 := hS.cell (i := 1) rfl
        have v2 := hS.cell (i := 2) rfl
        have hb' := bcell hbel
        go_wp2_with (at_builtin; refine wpList_as_append (cels := HeldD.cels) Try.underlying30 info_Held rfl (by decide) (by decide) (fun _ => rfl) rfl _ _ rfl (w5.alloc (.cells #[.int .i64 e.f0, .slice Be me ce, .bool e.f2] 84)) (holdSet w.heap.size G X k true) (G k) (holdSet w.heap.size G X (k + 1) true) u5 ((insH x els).take (k + 1)) (As.below has (ab (Below.refl w5.heap.size w5) _) (Nat.le_refl _)) (by first | (rw [List.length_take]; omega) | (rw [List.length_append, List.length_take]; simp; omega)) rfl _ _ [.int .i64 e.f0, .slice Be me ce, .bool e.f2] rfl rfl (cells_new (by simp) _ _) (by simp [Value.oneCell']) e (fun j b => j = 1 ∧ (G k) b) (fun j b h => h.2) (fun j j' b h1 h2 => by rw [h1.1, h2.1]) (fun b hg h => by rcases h with ⟨i, hi, hg2⟩ | ⟨_, hX⟩ | h; have := hGd i k b hg2 hg; omega; exact hGX k b hg hX; have := hGl k b hg; omega) (fun b hg => by have := hGl k b hg; have := hbel.size; simp; omega) (fun b h => by rcases h with ⟨i, hi, hg⟩ | h | h; exact .inl ⟨i, by omega, hg⟩; exact .inr (.inl h); exact .inr (.inr h)) (fun b h => .inl ⟨k, by omega, h⟩) (.inr (.inr (by have := hbel.size; simp; omega))) ?hnew ?_; (case hnew => (intro j dd hj; rcases j with _ | _ | _ | j <;> simp [HeldD.cels] at hj <;> subst hj; exact ⟨_, rfl, rfl⟩; exact ⟨_, rfl, Be, me, ce, rfl, (hbo.wider (fun b h => ⟨rfl, h⟩)).below (ab hbel (.cells #[.int .i64 e.f0, .slice Be me ce, .bool e.f2] 84)) (Nat.le_refl _), hz'⟩; exact ⟨_, rfl, rfl⟩)); intro v7 w7 has7 tu7 lay7 else7; have hvb7 : ∀ b, Value.ownBlock v7 = some b → w.heap.size < b := (fun b hb => by rcases lay7 with h | h; exact hvb b (h.symm.trans hb); rw [h] at hb; injection hb with hb; rw [World.size_alloc] at hb; have := hbel.size; omega); have hb7 := Below.elseH (ab hbel (.cells #[.int .i64 e.f0, .slice Be me ce, .bool e.f2] 84)) tu7 else7 (fun b h => Nat.le_of_lt (hvb b h)) (by have := hbel.size; simp; omega); have hS7 := Stc.elseH (hS.alloc (.cells #[.int .i64 e.f0, .slice Be me ce, .bool e.f2] 84)) else7 (fun h => by have := hvb _ h; omega); have q7 := bcell hb7)
        go_roundw
        case rel =>
          refine ⟨k + 1, true, by omega, by go_num, rfl, (fun _ => by omega), (fun h => by cases h), ?_, hvb7, hS7, hb7⟩
          have e1 : (insH x els).take (k + 1 + 1) = (insH x els).take (k + 1) ++ [e] := take_snocM (by rw [insH_gt x els (by rw [← HP.out]; omega)]; exact He.out)
          rw [if_pos rfl, e1]
          exact has7
        case measure => simp [intOf]; omega
    · obtain rfl : k = n := by omega
      have hfin : ∀ (W : World) (v : Value), As HeldD.cels 3 84 W (holdSet w.heap.size G X k true) v (insH x els) → ∃ A' c', v = .slice A' (k + 1) c' ∧ Rm A' (k + 1) c' ∧ Lo HeldD.cels 3 W (fun b => F b ∨ X b ∨ (w.heap.size < b ∧ b < W.heap.size)) A' (k + 1) (insH x els) := fun W v hA => by
        obtain ⟨A', c', e, r, hlo⟩ := hA.trim.lo (n := k + 1) (by rw [Hil.out, Hl.out])
        refine ⟨A', c', e, r, hlo.wider fun b hb => ?_⟩
        rcases hb with ⟨⟨i, _, hg⟩ | ⟨_, hX⟩ | h, hl⟩
        · exact .inl (hG i b hg)
        · exact .inr (.inl hX)
        · exact .inr (.inr ⟨h, hl⟩)
      have Hfin := Shut.mk hfin
      clear hfin hel
      cases D
      · have hkP : P = k := by have := hD2 rfl; omega
        have has : As HeldD.cels 3 84 wr (holdSet w.heap.size G X k false) u5 ((insH x els).take k) := has
        have HkP := Shut.mk hkP
        clear hkP
        go_wp2_with (at_builtin; refine wpList_as_append (cels := HeldD.cels) Try.underlying30 info_Held rfl (by decide) (by decide) (fun _ => rfl) rfl _ _ rfl (wr.alloc (.cells #[.int .i64 x.f0, .slice B m d, .bool x.f2] 84)) (holdSet w.heap.size G X k false) X (holdSet w.heap.size G X k true) u5 ((insH x els).take k) (As.below has (ab (Below.refl wr.heap.size wr) _) (Nat.le_refl _)) (by first | (rw [List.length_take]; omega) | (rw [List.length_append, List.length_take]; simp; omega)) rfl _ _ [.int .i64 x.f0, .slice B m d, .bool x.f2] rfl rfl (cells_new (by simp) _ _) (by simp [Value.oneCell']) x (fun j b => j = 1 ∧ X b) (fun j b h => h.2) (fun j j' b h1 h2 => by rw [h1.1, h2.1]) (fun b hX h => by rcases h with ⟨i, _, hg⟩ | ⟨h, _⟩ | h; exact hGX i b hg hX; cases h; have := hXl b hX; omega) (fun b hX => by have := hXl b hX; have := hbel.size; simp; omega) (fun b h => by rcases h with h | ⟨h, _⟩ | h; exact .inl h; cases h; exact .inr (.inr h)) (fun b h => .inr (.inl ⟨rfl, h⟩)) (.inr (.inr (by have := hbel.size; simp; omega))) ?hnew ?_; (case hnew => (intro j dd hj; rcases j with _ | _ | _ | j <;> simp [HeldD.cels] at hj <;> subst hj; exact ⟨_, rfl, rfl⟩; exact ⟨_, rfl, B, m, d, rfl, (hx.wider (fun b h => ⟨rfl, h⟩)).below (ab hbel (.cells #[.int .i64 x.f0, .slice B m d, .bool x.f2] 84)) (Nat.le_refl _), hz⟩; exact ⟨_, rfl, rfl⟩)); intro v6 w6 has6 tu6 lay6 else6; have hvb6 : ∀ b, Value.ownBlock v6 = some b → w.heap.size < b := (fun b hb => by rcases lay6 with h | h; exact hvb b (h.symm.trans hb); rw [h] at hb; injection hb with hb; rw [World.size_alloc] at hb; have := hbel.size; omega); have hb6 := Below.elseH (ab hbel (.cells #[.int .i64 x.f0, .slice B m d, .bool x.f2] 84)) tu6 else6 (fun b h => Nat.le_of_lt (hvb b h)) (by have := hbel.size; simp; omega); have hS6 := Stc.elseH (hS.alloc (.cells #[.int .i64 x.f0, .slice B m d, .bool x.f2] 84)) else6 (fun h => by have := hvb _ h; omega); have q6 := bcell hb6)
        have e1 : (insH x els).take (k + 1) = (insH x els).take k ++ [x] := take_snocM (by have := insH_at x els; rw [← HP.out, HkP.out] at this; exact this)
        have e2 : (insH x els).take (k + 1) = insH x els := List.take_of_length_le (by rw [Hil.out, Hl.out]; omega)
        rw [← e1, e2] at has6
        obtain ⟨A', c', rfl, r, hlo⟩ := Hfin.out _ _ has6
        go_ret
        exact ⟨⟨_, _, rfl, r, hlo⟩, hb6⟩
      · have has : As HeldD.cels 3 84 wr (holdSet w.heap.size G X k true) u5 ((insH x els).take (k + 1)) := has
        have e2 : (insH x els).take (k + 1) = insH x els := List.take_of_length_le (by rw [Hil.out, Hl.out]; omega)
        rw [e2] at has
        obtain ⟨A', c', rfl, r, hlo⟩ := Hfin.out _ _ has
        go_wp2
        go_ret
        exact ⟨⟨_, _, rfl, r, hlo⟩, hbel⟩
end Go.Proofs.Ytpaemmoopjkppaa
