/- A list of the call's own in blocks of a set, to be appended to: what is put behind it may lie elsewhere. -/
import Derived.Test.YtgmbofoneeagiaaApM
import Derived.Test.YtgmbofoneeagiaaBytC
namespace Go.Proofs.Ytgmbofoneeagiaa
open Go.RowKit

/-- v is a list els of the call's own, in blocks of the set F, to be appended to -/
structure As {E : Type} (cels : E → List Cel) (sz : Nat) (t : TypeId) (w : World) (F : Nat → Prop) (v : Value) (els : List E) : Prop where
  own : ∃ xs, w.ownsRow 0 t sz v els.length xs ∧ (∀ b, v.ownBlock = some b → F b) ∧ ∃ G : Nat → Nat → Nat → Prop, (∀ i j b, G i j b → F b ∧ v.ownBlock ≠ some b) ∧ (∀ i j i' j' b, G i j b → G i' j' b → i = i' ∧ j = j') ∧
    ∀ i e, els[i]? = some e → ∀ j d, (cels e)[j]? = some d → ∃ x, xs[i * sz + j]? = some x ∧ d.ow w (G i j) x

section
variable {E : Type} {cels : E → List Cel} {sz : Nat} {t : TypeId} {w w' : World} {F H : Nat → Prop} {v : Value} {els : List E}
theorem As.nil_ (w : World) (F : Nat → Prop) : As cels sz t w F (.slice none 0 0) ([] : List E) :=
  ⟨[], World.ownsRow_nil _ _ _ _, (fun b e => by cases e), fun _ _ _ => False, fun _ _ _ h => h.elim, fun _ _ _ _ _ h => h.elim, fun i e h => by simp at h⟩
theorem As.keep (h : As cels sz t w F v els) (hs : w.heap.size ≤ w'.heap.size) (hk : ∀ b, F b → b < w.heap.size → w'.heap[b]? = w.heap[b]?) : As cels sz t w' F v els := by
  obtain ⟨xs, ho, hv, G, hG, hD, hc⟩ := h.own
  refine ⟨xs, ⟨ho.1, ?_⟩, hv, G, hG, hD, fun i e hi j d hj => ?_⟩
  · rcases ho.2 with h0 | ⟨g, cap, cur, e, hB, hg, rest⟩
    · exact .inl h0
    · exact .inr ⟨g, cap, cur, e, hB, (hk g (hv g (by rw [e]; rfl)) (Array.getElem?_eq_some_iff.1 hg).1).trans hg, rest⟩
  · obtain ⟨x, hx, hr⟩ := hc i e hi j d hj
    exact ⟨x, hx, hr.keep hs fun b hb hl => hk b (hG i j b hb).1 hl⟩
theorem As.wider (h : As cels sz t w F v els) (hs : ∀ b, F b → H b) : As cels sz t w H v els := by
  obtain ⟨xs, ho, hv, G, hG, r⟩ := h.own
  exact ⟨xs, ho, fun b e => hs b (hv b e), G, fun i j b hb => ⟨hs b (hG i j b hb).1, (hG i j b hb).2⟩, r⟩
theorem As.below {C : Nat} (h : As cels sz t w F v els) (hb : Below C w w') (hC : w.heap.size ≤ C) : As cels sz t w' F v els := h.keep hb.size fun b _ hl => hb.block b (by omega)
theorem As.tu (h : As cels sz t w F v els) (k : Tu H w w') (hd : ∀ b, F b → ¬ H b) : As cels sz t w' F v els := h.keep k.size fun b hF hl => k.block b hl (hd b hF)
theorem Ap.as_ {B : Nat} (h : Ap cels sz t w B v els) : As cels sz t w (rng B w.heap.size) v els := by
  obtain ⟨xs, ho, G, hG, r⟩ := h.own
  refine ⟨xs, ⟨ho.1, ?_⟩, fun b e => ho.lt b e, G, fun i j b hb => ⟨⟨(hG i j b hb).1, (hG i j b hb).2.1⟩, (hG i j b hb).2.2⟩, r⟩
  rcases ho.2 with h0 | ⟨g, cap, cur, e, _, rest⟩
  · exact .inl h0
  · exact .inr ⟨g, cap, cur, e, Nat.zero_le _, rest⟩
/-- what it is as a slice -/
theorem As.lo (h : As cels sz t w F v els) {n : Nat} (hn : els.length = n) : ∃ A c, v = .slice A n c ∧ Rm A n c ∧ Lo cels sz w F A n els := by
  subst hn
  obtain ⟨xs, ho, hv, G, hG, hD, hc⟩ := h.own
  rcases ho.2 with ⟨rfl, h0⟩ | ⟨g, cap, cur, rfl, hB, hg, h1, h2, _, _⟩
  · rw [h0]
    refine ⟨none, 0, rfl, ⟨Nat.le_refl _, fun _ => rfl⟩, ?_⟩
    rw [List.length_eq_zero_iff.1 h0]
    exact Lo.nil_ _ _ _
  · refine ⟨_, _, rfl, ⟨h1, fun h => by cases h⟩, rfl, fun _ => ⟨g, 0, G, rfl, hv g rfl, (Array.getElem?_eq_some_iff.1 hg).1, fun i => by simp [World.frozen?, hg], fun i j b hb => ⟨(hG i j b hb).1, fun e => (hG i j b hb).2 (by rw [e]; rfl)⟩, hD, fun i e hi j d hj => ?_⟩⟩
    obtain ⟨x, hx, hr⟩ := hc i e hi j d hj
    refine ⟨x, ?_, hr⟩
    have := ho.cells (g := g) rfl (i * sz + j) x hx
    rw [Addr.add_mid] at this
    rw [Nat.add_assoc]
    exact this
end

/-- one element more: its runs lie in blocks of H -/
theorem run_as_append {E : Type} {cels : E → List Cel} {sz by_ : Nat} {t et : TypeId} {z : Value} (hu : Try.prog.underlying t = some (.slice et)) (hi : (Try.prog.info? et).map (fun i => (i.zero, i.size, i.bytes)) = some (some z, sz, by_)) (hz : z.cells.size = sz) (hsz : 0 < sz) (hby : by_ ≤ 1000) (hl : ∀ e : E, (cels e).length = sz)
    (w : World) (F H F' : Nat → Prop) (v : Value) (els : List E) (h : As cels sz et w F v els) (hn : els.length ≤ 10000000) (ty : TypeId)
    (ad : Addr) (c : Nat) (xs : List Value) (hxl : xs.length = sz) (hcell : ∀ j u, xs[j]? = some u → w.cell? (ad.add j) = some u) (h1 : ∀ u ∈ xs, u.oneCell' = true)
    (e : E) (Gn : Nat → Nat → Prop) (hGn : ∀ j b, Gn j b → H b) (hGd : ∀ j j' b, Gn j b → Gn j' b → j = j') (hHF : ∀ b, H b → ¬ F b) (hHl : ∀ b, H b → b < w.heap.size) (hF1 : ∀ b, F b → F' b) (hF2 : ∀ b, H b → F' b) (hF3 : F' w.heap.size)
    (hnew : ∀ (j : Nat) (d : Cel), (cels e)[j]? = some d → ∃ u : Value, xs[j]? = some u ∧ Cel.ow w (Gn j) u d) :
    ∃ v' w', (Builtin.append_ #[t, t] ty #[v, .slice (some ad) 1 c]).run Try.prog w = .ok v' w' ∧ As cels sz et w' F' v' (els ++ [e]) ∧ Tu F w w' ∧ Lay w v v' ∧ Else v w w' := by
  obtain ⟨i0, hi0, hz0, hz1, hz2⟩ := info_parts hi
  obtain ⟨ys, hown, hv, G, hG, hD, hc⟩ := h.own
  obtain ⟨v', w', hr, hown', hgrow, _, hat⟩ := run_append_own_at (P := Try.prog) w 0 t ty et i0 z sz by_ hu hi0 hz0 hz1 hz2 hz hsz v els.length ys hown ad 1 c xs (by omega) hcell h1 (by unfold maxLen; omega) (by
    have := Nat.mul_le_mul (show els.length + 1 ≤ 10000001 by omega) hby
    omega) (by omega)
  have hyl : ys.length = els.length * sz := hown.1
  have hvl : ∀ b, v.ownBlock = some b → b < w.heap.size := fun b hb => (hown.lt b hb).2
  have hs2 := hgrow.size
  have hk2 : ∀ b, b < w.heap.size → v.ownBlock ≠ some b → w'.heap[b]? = w.heap[b]? := fun b hl hne => hgrow.block b hl (fun e => hne e.symm)
  have hvH : ∀ b, H b → v.ownBlock ≠ some b := fun b hb e => hHF b hb (hv b e)
  refine ⟨v', w', hr, ⟨ys ++ xs, by simpa using hown', fun b e' => ?_, fun i j b => (i < els.length ∧ G i j b ∧ b < w.heap.size) ∨ (i = els.length ∧ Gn j b), fun i j b hb' => ?_, fun i j i' j' b h1 h2 => ?_, fun i el hi j d hj => ?_⟩, ⟨hgrow.os, hgrow.tape, hgrow.output, hgrow.size, fun k hk hx => hgrow.block k hk (fun e => hx (hv k e.symm))⟩, hat, fun g hg hne => hgrow.block g hg (fun e => hne e.symm)⟩
  · rcases hat with h1 | h1
    · exact hF1 b (hv b (h1.symm.trans e'))
    · rw [h1] at e'; injection e' with e'; exact e' ▸ hF3
  · have hne : ∀ b, b < w.heap.size → v.ownBlock ≠ some b → v'.ownBlock ≠ some b := fun b hl hn e' => by
      rcases hat with h1 | h1
      · exact hn (h1.symm.trans e')
      · rw [h1] at e'; injection e' with e'; omega
    rcases hb' with ⟨_, hb', hbl⟩ | ⟨_, hb'⟩
    · obtain ⟨q1, q2⟩ := hG i j b hb'
      exact ⟨hF1 b q1, hne b hbl q2⟩
    · have q1 := hGn j b hb'
      exact ⟨hF2 b q1, hne b (hHl b q1) (hvH b q1)⟩
  · rcases h1 with ⟨q1, h1, _⟩ | ⟨q1, h1⟩ <;> rcases h2 with ⟨q2, h2, _⟩ | ⟨q2, h2⟩
    · exact hD i j i' j' b h1 h2
    · exact absurd (hG i j b h1).1 (hHF b (hGn j' b h2))
    · exact absurd (hG i' j' b h2).1 (hHF b (hGn j b h1))
    · exact ⟨by omega, hGd j j' b h1 h2⟩
  · by_cases hil : i < els.length
    · rw [List.getElem?_append_left hil] at hi
      obtain ⟨x, hx, hr⟩ := hc i el hi j d hj
      have hj' : j < sz := by
        rw [← hl el]
        exact (List.getElem?_eq_some_iff.1 hj).1
      have hm : i * sz + j < els.length * sz := by
        have := Nat.mul_le_mul_right sz hil
        rw [Nat.succ_mul] at this
        omega
      refine ⟨x, by rw [List.getElem?_append_left (by rw [hyl]; exact hm)]; exact hx, ?_⟩
      cases d with
      | v y => exact hr
      | b l =>
        obtain ⟨A, m, c2, e2, hb2, hz2⟩ := hr
        refine ⟨A, m, c2, e2, ⟨hb2.len, hb2.byte, fun hn => ?_⟩, hz2⟩
        obtain ⟨b, e3, hGb, hlt, hcc, hff⟩ := hb2.at_ hn
        have hk := hk2 b hlt (hG i j b hGb).2
        exact ⟨b, e3, .inl ⟨hil, hGb, hlt⟩, Nat.lt_of_lt_of_le hlt hs2, fun q hq => (World.cell?_of_block (a := ⟨b, q, none⟩) hk).trans (hcc q hq), fun q => (World.frozen?_of_block (a := ⟨b, q, none⟩) hk).trans (hff q)⟩
    · have hie : i = els.length := by
        have := (List.getElem?_eq_some_iff.1 hi).1
        simp at this
        omega
      subst hie
      simp at hi
      subst hi
      obtain ⟨x, hx, hr⟩ := hnew j d hj
      refine ⟨x, by rw [List.getElem?_append_right (by rw [hyl]; omega), hyl, Nat.add_sub_cancel_left]; exact hx, (hr.keep hs2 fun b hb' hlb => hk2 b hlb (hvH b (hGn j b hb'))).wider fun b hb' => .inr ⟨rfl, hb'⟩⟩
theorem wpList_as_append {E : Type} {cels : E → List Cel} {sz by_ : Nat} {t et : TypeId} {z : Value} (hu : Try.prog.underlying t = some (.slice et)) (hi : (Try.prog.info? et).map (fun i => (i.zero, i.size, i.bytes)) = some (some z, sz, by_)) (hz : z.cells.size = sz) (hsz : 0 < sz) (hby : by_ ≤ 1000) (hl : ∀ e : E, (cels e).length = sz)
    {ops : Array Oper} {rest : List Oper} {o : Oper} {a : Act} {Q : Exit → Act → World → Prop} (hgd : o.guard = none) (s x : Operand)
    (ho : o.op = .call { callee := .builtin .append, args := #[s, x], argTypes := #[t, t] })
    (w : World) (F H F' : Nat → Prop) (v : Value) (els : List E) (h : As cels sz et w F v els) (hn : els.length ≤ 10000000) (hs : a.eval s = v)
    (ad : Addr) (c : Nat) (xs : List Value) (hx : a.eval x = .slice (some ad) 1 c) (hxl : xs.length = sz) (hcell : ∀ j u, xs[j]? = some u → w.cell? (ad.add j) = some u) (h1 : ∀ u ∈ xs, u.oneCell' = true)
    (e : E) (Gn : Nat → Nat → Prop) (hGn : ∀ j b, Gn j b → H b) (hGd : ∀ j j' b, Gn j b → Gn j' b → j = j') (hHF : ∀ b, H b → ¬ F b) (hHl : ∀ b, H b → b < w.heap.size) (hF1 : ∀ b, F b → F' b) (hF2 : ∀ b, H b → F' b) (hF3 : F' w.heap.size)
    (hnew : ∀ (j : Nat) (d : Cel), (cels e)[j]? = some d → ∃ u : Value, xs[j]? = some u ∧ Cel.ow w (Gn j) u d)
    (k : ∀ v' w', As cels sz et w' F' v' (els ++ [e]) → Tu F w w' → Lay w v v' → Else v w w' → wpList Try.prog ops Q rest (a.put o.dst v') w') : wpList Try.prog ops Q (o :: rest) a w := by
  refine wpList_plain hgd fun K hK => ?_
  obtain ⟨v', w', hr, q1, q2, q3, q4⟩ := run_as_append hu hi hz hsz hby hl w F H F' v els h hn o.type ad c xs hxl hcell h1 e Gn hGn hGd hHF hHl hF1 hF2 hF3 hnew
  unfold Oper.wp execOp
  simp only [ho, resolve, invoke, builtin, Sem.run_bind, Sem.run_pure, Result.andThen_ok, List.map_toArray, List.map_cons, List.map_nil, hs, hx, hr]
  exact hK _ _ (k v' w' q1 q2 q3 q4)
theorem step_as_append {E : Type} {cels : E → List Cel} {sz by_ : Nat} {t et : TypeId} {z : Value} (hu : Try.prog.underlying t = some (.slice et)) (hi : (Try.prog.info? et).map (fun i => (i.zero, i.size, i.bytes)) = some (some z, sz, by_)) (hz : z.cells.size = sz) (hsz : 0 < sz) (hby : by_ ≤ 1000) (hl : ∀ e : E, (cels e).length = sz)
    {ops : Array Oper} {o : Oper} {a : Act} {K : Act → World → Prop} {Q : Exit → Act → World → Prop} {Z : Prop} (hgd : o.guard = none) (s x : Operand)
    (ho : o.op = .call { callee := .builtin .append, args := #[s, x], argTypes := #[t, t] })
    (w : World) (F H F' : Nat → Prop) (v : Value) (els : List E) (h : As cels sz et w F v els) (hn : els.length ≤ 10000000) (hs : a.eval s = v)
    (ad : Addr) (c : Nat) (xs : List Value) (hx : a.eval x = .slice (some ad) 1 c) (hxl : xs.length = sz) (hcell : ∀ j u, xs[j]? = some u → w.cell? (ad.add j) = some u) (h1 : ∀ u ∈ xs, u.oneCell' = true)
    (e : E) (Gn : Nat → Nat → Prop) (hGn : ∀ j b, Gn j b → H b) (hGd : ∀ j j' b, Gn j b → Gn j' b → j = j') (hHF : ∀ b, H b → ¬ F b) (hHl : ∀ b, H b → b < w.heap.size) (hF1 : ∀ b, F b → F' b) (hF2 : ∀ b, H b → F' b) (hF3 : F' w.heap.size)
    (hnew : ∀ (j : Nat) (d : Cel), (cels e)[j]? = some d → ∃ u : Value, xs[j]? = some u ∧ Cel.ow w (Gn j) u d)
    (k : ∀ v' w', As cels sz et w' F' v' (els ++ [e]) → Tu F w w' → Lay w v v' → Else v w w' → K (a.put o.dst v') w') : if Region.wanted o (yielded ops a.tmps) = true then Oper.wp Try.prog o a w K Q else Z := by
  have hw : Region.wanted o (yielded ops a.tmps) = true := by simp [Region.wanted, hgd]
  rw [if_pos hw]
  obtain ⟨v', w', hr, q1, q2, q3, q4⟩ := run_as_append hu hi hz hsz hby hl w F H F' v els h hn o.type ad c xs hxl hcell h1 e Gn hGn hGd hHF hHl hF1 hF2 hF3 hnew
  unfold Oper.wp execOp
  simp only [ho, resolve, invoke, builtin, Sem.run_bind, Sem.run_pure, Result.andThen_ok, List.map_toArray, List.map_cons, List.map_nil, hs, hx, hr]
  exact k v' w' q1 q2 q3 q4

/-- such a list as a thing -/
def tA {E : Type} (cels : E → List Cel) (sz : Nat) (t : TypeId) (v : Value) (els : List E) : Thing := fun w F => As cels sz t w F v els
theorem okA {E : Type} (cels : E → List Cel) (sz : Nat) (t : TypeId) (v : Value) (els : List E) : (tA cels sz t v els).Ok := ⟨fun h hs hk => As.keep h hs hk, fun h hF => As.wider h hF⟩
def tG (v : Value) (els : List (List Int)) : Thing := tA bytC 1 22 v els
theorem okG (v : Value) (els : List (List Int)) : (tG v els).Ok := okA _ _ _ _ _
/-- three things, each in a range of its own, whatever their order -/
theorem sep3 {S T U : Thing} {w : World} {a1 b1 a2 b2 a3 b3 lo hi : Nat} (s : S w (rng a1 b1)) (t : T w (rng a2 b2)) (u : U w (rng a3 b3)) (h12 : b1 ≤ a2 ∨ b2 ≤ a1) (h13 : b1 ≤ a3 ∨ b3 ≤ a1) (h23 : b2 ≤ a3 ∨ b3 ≤ a2) (h1 : lo ≤ a1) (h1' : b1 ≤ hi) (h2 : lo ≤ a2) (h2' : b2 ≤ hi) (h3 : lo ≤ a3) (h3' : b3 ≤ hi) : Thing.sep S (Thing.sep T U) w (rng lo hi) :=
  ⟨rng a1 b1, fun b => rng a2 b2 b ∨ rng a3 b3 b, fun b hb => by unfold rng at *; omega, fun b hb => by unfold rng at *; omega, fun b hb hb' => by unfold rng at *; omega, s,
    rng a2 b2, rng a3 b3, fun b hb => .inl hb, fun b hb => .inr hb, fun b hb hb' => by unfold rng at *; omega, t, u⟩
end Go.Proofs.Ytgmbofoneeagiaa
