import Derived.Test.YtpaemmoopjkppaaApC
import Derived.Test.YtpaemmoopjkppaaLstX

/-! ApX -/
/- A list of the call's own that is appended to, while some blocks X are turned that lie among its own (XApC's Ap, with a set to avoid). -/
namespace Go.Proofs.Ytpaemmoopjkppaa
open Go.RowKit

/-- v is a list els of the call's own, in blocks from B on, to be appended to -/
structure Apx {E : Type} (cels : E → List Cel) (sz : Nat) (t : TypeId) (w : World) (B : Nat) (X : Nat → Prop) (v : Value) (els : List E) : Prop where
  own : ∃ xs, w.ownsRow B t sz v els.length xs ∧ (∀ b, X b → v.ownBlock ≠ some b) ∧ ∃ G : Nat → Nat → Nat → Prop, (∀ i j b, G i j b → B ≤ b ∧ b < w.heap.size ∧ v.ownBlock ≠ some b ∧ ¬ X b) ∧ (∀ i j i' j' b, G i j b → G i' j' b → i = i' ∧ j = j') ∧
    ∀ i e, els[i]? = some e → ∀ j d, (cels e)[j]? = some d → ∃ x, xs[i * sz + j]? = some x ∧ d.ow w (G i j) x

section
variable {E : Type} {cels : E → List Cel} {sz : Nat} {t : TypeId} {w w' : World} {B : Nat} {X : Nat → Prop} {v : Value} {els : List E}
theorem Apx.nil_ (w : World) (B : Nat) (X : Nat → Prop) : Apx cels sz t w B X (.slice none 0 0) ([] : List E) :=
  ⟨[], World.ownsRow_nil _ _ _ _, (fun _ _ h => by cases h), fun _ _ _ => False, fun _ _ _ h => h.elim, fun _ _ _ _ _ h => h.elim, fun i e h => by simp at h⟩
theorem Apx.keep (h : Apx cels sz t w B X v els) (hs : w.heap.size ≤ w'.heap.size) (hk : ∀ b, B ≤ b → ¬ X b → b < w.heap.size → w'.heap[b]? = w.heap[b]?) : Apx cels sz t w' B X v els := by
  obtain ⟨xs, ho, hX, G, hG, hD, hc⟩ := h.own
  refine ⟨xs, ⟨ho.1, ?_⟩, hX, G, fun i j b hb => ⟨(hG i j b hb).1, Nat.lt_of_lt_of_le (hG i j b hb).2.1 hs, (hG i j b hb).2.2⟩, hD, fun i e hi j d hj => ?_⟩
  · rcases ho.2 with h0 | ⟨g, cap, cur, e, hB, hg, rest⟩
    · exact .inl h0
    · exact .inr ⟨g, cap, cur, e, hB, (hk g hB (fun hx => hX g hx (by rw [e]; rfl)) (Array.getElem?_eq_some_iff.1 hg).1).trans hg, rest⟩
  · obtain ⟨x, hx, hr⟩ := hc i e hi j d hj
    exact ⟨x, hx, hr.keep hs fun b hb hl => hk b (hG i j b hb).1 (hG i j b hb).2.2.2 hl⟩
theorem Apx.below {C : Nat} (h : Apx cels sz t w B X v els) (hb : Below C w w') (hC : w.heap.size ≤ C) : Apx cels sz t w' B X v els := h.keep hb.size fun b _ _ hl => hb.block b (by omega)
theorem Apx.alloc (h : Apx cels sz t w B X v els) (o : Obj) : Apx cels sz t (w.alloc o) B X v els := h.below ((Below.refl w.heap.size w).alloc (Nat.le_refl _) o) (Nat.le_refl _)
theorem Apx.far (h : Apx cels sz t w B X v els) {p : Addr} (hp : X p.block) (u : Value) : Apx cels sz t (w.setCell p u) B X v els :=
  h.keep (by rw [World.size_setCell]; exact Nat.le_refl _) fun b _ hx _ => Below.heap_setCell w p u b (fun e => hx (e ▸ hp))
theorem Apx.drewN (h : Apx cels sz t w B X v els) (q : Nat) : Apx cels sz t (w.drewN q) B X v els := h.keep (Nat.le_refl _) fun _ _ _ _ => rfl
theorem Apx.mono {C : Nat} (h : Apx cels sz t w B X v els) (hC : C ≤ B) : Apx cels sz t w C X v els := by
  obtain ⟨xs, ho, hX, G, hG, r⟩ := h.own
  refine ⟨xs, ⟨ho.1, ?_⟩, hX, G, fun i j b hb => ⟨by have := (hG i j b hb).1; omega, (hG i j b hb).2⟩, r⟩
  rcases ho.2 with h0 | ⟨g, cap, cur, e, hB, rest⟩
  · exact .inl h0
  · exact .inr ⟨g, cap, cur, e, by omega, rest⟩
theorem Apx.ap (h : Apx cels sz t w B X v els) : Ap cels sz t w B v els := by
  obtain ⟨xs, ho, hX, G, hG, r⟩ := h.own
  exact ⟨xs, ho, G, fun i j b hb => ⟨(hG i j b hb).1, (hG i j b hb).2.1, (hG i j b hb).2.2.1⟩, r⟩
theorem Ap.apx (h : Ap cels sz t w B v els) (hX : ∀ b, X b → w.heap.size ≤ b) : Apx cels sz t w B X v els := by
  obtain ⟨xs, ho, G, hG, r⟩ := h.own
  refine ⟨xs, ho, fun b hx e => ?_, G, fun i j b hb => ⟨(hG i j b hb).1, (hG i j b hb).2.1, (hG i j b hb).2.2, fun hx => ?_⟩, r⟩
  · have := (ho.lt b e).2; have := hX b hx; omega
  · have := (hG i j b hb).2.1; have := hX b hx; omega
/-- one element more, behind an append -/
theorem Apx.push {w1 w2 : World} {v' : Value} {ys xs : List Value} {G : Nat → Nat → Nat → Prop} (ho0 : w.ownsRow B t sz v els.length ys)
    (hX : ∀ b, X b → v.ownBlock ≠ some b) (hXl : ∀ b, X b → b < w.heap.size) (hG : ∀ i j b, G i j b → B ≤ b ∧ b < w.heap.size ∧ v.ownBlock ≠ some b ∧ ¬ X b) (hD : ∀ i j i' j' b, G i j b → G i' j' b → i = i' ∧ j = j')
    (hc : ∀ i e, els[i]? = some e → ∀ (j : Nat) (d : Cel), (cels e)[j]? = some d → ∃ x : Value, ys[i * sz + j]? = some x ∧ Cel.ow w (G i j) x d)
    (hb : Below w.heap.size w w1) (hB : B ≤ w.heap.size) (hl : ∀ e, (cels e).length = sz)
    (hown : w2.ownsRow B t sz v' (els.length + 1) (ys ++ xs)) (hgrow : w1.grownBy w2 v.ownBlock) (hlay : v'.ownBlock = v.ownBlock ∨ v'.ownBlock = some w1.heap.size)
    (e : E) (Gn : Nat → Nat → Prop) (hGn : ∀ j b, Gn j b → w.heap.size ≤ b ∧ b < w1.heap.size) (hGd : ∀ j j' b, Gn j b → Gn j' b → j = j')
    (hnew : ∀ (j : Nat) (d : Cel), (cels e)[j]? = some d → ∃ x : Value, xs[j]? = some x ∧ Cel.ow w1 (Gn j) x d) : Apx cels sz t w2 B X v' (els ++ [e]) := by
  have hvl : ∀ b, v.ownBlock = some b → b < w.heap.size := fun b hb => (ho0.lt b hb).2
  have hsz := hb.size
  have hs2 := hgrow.size
  have hyl : ys.length = els.length * sz := ho0.1
  have hk2 : ∀ b, b < w1.heap.size → v.ownBlock ≠ some b → w2.heap[b]? = w1.heap[b]? := fun b hl hne => hgrow.block b hl (fun e => hne e.symm)
  refine ⟨ys ++ xs, ?_, ?_, fun i j b => (i < els.length ∧ G i j b) ∨ (i = els.length ∧ Gn j b), fun i j b hb' => ?_, fun i j i' j' b h1 h2 => ?_, fun i el hi j d hj => ?_⟩
  · simpa using hown
  · intro b hx e'
    rcases hlay with h1 | h1
    · exact hX b hx (h1.symm.trans e')
    · rw [h1] at e'; injection e' with e'; have := hXl b hx; omega
  · have hne : ∀ b, b < w1.heap.size → v.ownBlock ≠ some b → v'.ownBlock ≠ some b := fun b hl hn e' => by
      rcases hlay with h1 | h1
      · exact hn (h1.symm.trans e')
      · rw [h1] at e'; injection e' with e'; omega
    rcases hb' with ⟨_, hb'⟩ | ⟨_, hb'⟩
    · obtain ⟨q1, q2, q3, q4⟩ := hG i j b hb'
      exact ⟨q1, by omega, hne b (by omega) q3, q4⟩
    · obtain ⟨q1, q2⟩ := hGn j b hb'
      exact ⟨by omega, by omega, hne b q2 (fun e' => by have := hvl b e'; omega), fun hx => by have := hXl b hx; omega⟩
  · rcases h1 with ⟨q1, h1⟩ | ⟨q1, h1⟩ <;> rcases h2 with ⟨q2, h2⟩ | ⟨q2, h2⟩
    · exact hD i j i' j' b h1 h2
    · have := (hG i j b h1).2.1; have := (hGn j' b h2).1; omega
    · have := (hG i' j' b h2).2.1; have := (hGn j b h1).1; omega
    · exact ⟨by omega, hGd j j' b h1 h2⟩
  · by_cases hil : i < els.length
    · rw [List.getElem?_append_left hil] at hi
      obtain ⟨x, hx, hr⟩ := hc i el hi j d hj
      have hj' : j < sz := by
        rw [← hl el]
        exact (List.getElem?_eq_some_iff.1 hj).1
      have hm : i * sz + j < els.length * sz := by
        have := Nat.mul_le_mul_right sz hil
        rw [Nat.succ_mul] at this
        omega
      refine ⟨x, by rw [List.getElem?_append_left (by rw [hyl]; exact hm)]; exact hx, (hr.keep (by omega) fun b hb' hlb => ?_).wider fun b hb' => .inl ⟨hil, hb'⟩⟩
      rw [hk2 b (by omega) (hG i j b hb').2.2.1]
      exact hb.block b hlb
    · have hie : i = els.length := by
        have := (List.getElem?_eq_some_iff.1 hi).1
        simp at this
        omega
      subst hie
      simp at hi
      subst hi
      obtain ⟨x, hx, hr⟩ := hnew j d hj
      refine ⟨x, by rw [List.getElem?_append_right (by rw [hyl]; omega), hyl, Nat.add_sub_cancel_left]; exact hx, (hr.keep hs2 fun b hb' hlb => hk2 b hlb fun e' => ?_).wider fun b hb' => .inr ⟨rfl, hb'⟩⟩
      have := hvl b e'
      have := (hGn j b hb').1
      omega
end

/-- what an append of one element leaves -/
theorem run_apx_append {E : Type} {cels : E → List Cel} {sz by_ : Nat} {t et : TypeId} {z : Value} (hu : Try.prog.underlying t = some (.slice et)) (hi : (Try.prog.info? et).map (fun i => (i.zero, i.size, i.bytes)) = some (some z, sz, by_)) (hz : z.cells.size = sz) (hsz : 0 < sz) (hby : by_ ≤ 1000) (hl : ∀ e : E, (cels e).length = sz)
    (w0 w : World) (B : Nat) (X : Nat → Prop) (hXl : ∀ b, X b → b < w0.heap.size) (v : Value) (els : List E) (h : Apx cels sz et w0 B X v els) (hb : Below w0.heap.size w0 w) (hB : B ≤ w0.heap.size) (hn : els.length ≤ 10000000) (ty : TypeId)
    (ad : Addr) (c : Nat) (xs : List Value) (hxl : xs.length = sz) (hcell : ∀ j u, xs[j]? = some u → w.cell? (ad.add j) = some u) (h1 : ∀ u ∈ xs, u.oneCell' = true)
    (e : E) (Gn : Nat → Nat → Prop) (hGn : ∀ j b, Gn j b → w0.heap.size ≤ b ∧ b < w.heap.size) (hGd : ∀ j j' b, Gn j b → Gn j' b → j = j')
    (hnew : ∀ (j : Nat) (d : Cel), (cels e)[j]? = some d → ∃ u : Value, xs[j]? = some u ∧ Cel.ow w (Gn j) u d) :
    ∃ v' w', (Builtin.append_ #[t, t] ty #[v, .slice (some ad) 1 c]).run Try.prog w = .ok v' w' ∧ Apx cels sz et w' B X v' (els ++ [e]) ∧ Below B w w' ∧ Lay w v v' ∧ Else v w w' := by
  obtain ⟨i0, hi0, hz0, hz1, hz2⟩ := info_parts hi
  obtain ⟨ys, hown, hX, G, hG, hD, hc⟩ := h.own
  have hsize := hb.size
  have hown1 : w.ownsRow B et sz v els.length ys := by
    refine ⟨hown.1, ?_⟩
    rcases hown.2 with h0 | ⟨g, cap, cur, e, hBg, hg, rest⟩
    · exact .inl h0
    · exact .inr ⟨g, cap, cur, e, hBg, (hb.block g (Array.getElem?_eq_some_iff.1 hg).1).trans hg, rest⟩
  obtain ⟨v', w', hr, hown', hgrow, _, hat⟩ := run_append_own_at (P := Try.prog) w B t ty et i0 z sz by_ hu hi0 hz0 hz1 hz2 hz hsz v els.length ys hown1 ad 1 c xs (by omega) hcell h1 (by unfold maxLen; omega) (by
    have := Nat.mul_le_mul (show els.length + 1 ≤ 10000001 by omega) hby
    omega) (by omega)
  refine ⟨v', w', hr, Apx.push hown hX hXl hG hD hc hb hB hl hown' hgrow hat e Gn hGn hGd hnew, ⟨hgrow.os, hgrow.tape, hgrow.output, hgrow.size, fun k hk => hgrow.block k (by omega) (fun e => ?_)⟩, hat, fun g hg hne => hgrow.block g hg (fun e => hne e.symm)⟩
  have := (hown.lt k e.symm).1
  omega
theorem wpList_apx_append {E : Type} {cels : E → List Cel} {sz by_ : Nat} {t et : TypeId} {z : Value} (hu : Try.prog.underlying t = some (.slice et)) (hi : (Try.prog.info? et).map (fun i => (i.zero, i.size, i.bytes)) = some (some z, sz, by_)) (hz : z.cells.size = sz) (hsz : 0 < sz) (hby : by_ ≤ 1000) (hl : ∀ e : E, (cels e).length = sz)
    {ops : Array Oper} {rest : List Oper} {o : Oper} {a : Act} {Q : Exit → Act → World → Prop} (hgd : o.guard = none) (s x : Operand)
    (ho : o.op = .call { callee := .builtin .append, args := #[s, x], argTypes := #[t, t] })
    (w0 w : World) (B : Nat) (X : Nat → Prop) (hXl : ∀ b, X b → b < w0.heap.size) (v : Value) (els : List E) (h : Apx cels sz et w0 B X v els) (hb : Below w0.heap.size w0 w) (hB : B ≤ w0.heap.size) (hs : a.eval s = v) (hn : els.length ≤ 10000000)
    (ad : Addr) (c : Nat) (xs : List Value) (hx : a.eval x = .slice (some ad) 1 c) (hxl : xs.length = sz) (hcell : ∀ j u, xs[j]? = some u → w.cell? (ad.add j) = some u) (h1 : ∀ u ∈ xs, u.oneCell' = true)
    (e : E) (Gn : Nat → Nat → Prop) (hGn : ∀ j b, Gn j b → w0.heap.size ≤ b ∧ b < w.heap.size) (hGd : ∀ j j' b, Gn j b → Gn j' b → j = j')
    (hnew : ∀ (j : Nat) (d : Cel), (cels e)[j]? = some d → ∃ u : Value, xs[j]? = some u ∧ Cel.ow w (Gn j) u d)
    (k : ∀ v' w', Apx cels sz et w' B X v' (els ++ [e]) → Below B w w' → Lay w v v' → Else v w w' → wpList Try.prog ops Q rest (a.put o.dst v') w') : wpList Try.prog ops Q (o :: rest) a w := by
  refine wpList_plain hgd fun K hK => ?_
  obtain ⟨v', w', hr, q1, q2, q3, q4⟩ := run_apx_append hu hi hz hsz hby hl w0 w B X hXl v els h hb hB hn o.type ad c xs hxl hcell h1 e Gn hGn hGd hnew
  unfold Oper.wp execOp
  simp only [ho, resolve, invoke, builtin, Sem.run_bind, Sem.run_pure, Result.andThen_ok, List.map_toArray, List.map_cons, List.map_nil, hs, hx, hr]
  exact hK _ _ (k v' w' q1 q2 q3 q4)
theorem step_apx_append {E : Type} {cels : E → List Cel} {sz by_ : Nat} {t et : TypeId} {z : Value} (hu : Try.prog.underlying t = some (.slice et)) (hi : (Try.prog.info? et).map (fun i => (i.zero, i.size, i.bytes)) = some (some z, sz, by_)) (hz : z.cells.size = sz) (hsz : 0 < sz) (hby : by_ ≤ 1000) (hl : ∀ e : E, (cels e).length = sz)
    {ops : Array Oper} {o : Oper} {a : Act} {K : Act → World → Prop} {Q : Exit → Act → World → Prop} {Z : Prop} (hgd : o.guard = none) (s x : Operand)
    (ho : o.op = .call { callee := .builtin .append, args := #[s, x], argTypes := #[t, t] })
    (w0 w : World) (B : Nat) (X : Nat → Prop) (hXl : ∀ b, X b → b < w0.heap.size) (v : Value) (els : List E) (h : Apx cels sz et w0 B X v els) (hb : Below w0.heap.size w0 w) (hB : B ≤ w0.heap.size) (hs : a.eval s = v) (hn : els.length ≤ 10000000)
    (ad : Addr) (c : Nat) (xs : List Value) (hx : a.eval x = .slice (some ad) 1 c) (hxl : xs.length = sz) (hcell : ∀ j u, xs[j]? = some u → w.cell? (ad.add j) = some u) (h1 : ∀ u ∈ xs, u.oneCell' = true)
    (e : E) (Gn : Nat → Nat → Prop) (hGn : ∀ j b, Gn j b → w0.heap.size ≤ b ∧ b < w.heap.size) (hGd : ∀ j j' b, Gn j b → Gn j' b → j = j')
    (hnew : ∀ (j : Nat) (d : Cel), (cels e)[j]? = some d → ∃ u : Value, xs[j]? = some u ∧ Cel.ow w (Gn j) u d)
    (k : ∀ v' w', Apx cels sz et w' B X v' (els ++ [e]) → Below B w w' → Lay w v v' → Else v w w' → K (a.put o.dst v') w') : if Region.wanted o (yielded ops a.tmps) = true then Oper.wp Try.prog o a w K Q else Z := by
  have hw : Region.wanted o (yielded ops a.tmps) = true := by simp [Region.wanted, hgd]
  rw [if_pos hw]
  obtain ⟨v', w', hr, q1, q2, q3, q4⟩ := run_apx_append hu hi hz hsz hby hl w0 w B X hXl v els h hb hB hn o.type ad c xs hxl hcell h1 e Gn hGn hGd hnew
  unfold Oper.wp execOp
  simp only [ho, resolve, invoke, builtin, Sem.run_bind, Sem.run_pure, Result.andThen_ok, List.map_toArray, List.map_cons, List.map_nil, hs, hx, hr]
  exact k v' w' q1 q2 q3 q4
end Go.Proofs.Ytpaemmoopjkppaa

/-! ApM -/
/- Many elements put behind a list of the call's own. -/
namespace Go.Proofs.Ytpaemmoopjkppaa
open Go.RowKit

/-- the cells of a list of the call's own -/
theorem Lo.cellsL {E : Type} {cels : E → List Cel} {sz : Nat} {w : World} {F : Nat → Prop} {A : Option Addr} {n : Nat} {els : List E} (h : Lo cels sz w F A n els) (hn : 0 < n) (hl : ∀ e, (cels e).length = sz) (h1 : ∀ (e : E) (j : Nat) (y : Value), (cels e)[j]? = some (Cel.v y) → y.oneCell' = true) :
    ∃ g off, ∃ G : Nat → Nat → Nat → Prop, A = some ⟨g, off, none⟩ ∧ F g ∧ g < w.heap.size ∧ (∀ i j b, G i j b → F b ∧ b ≠ g) ∧ (∀ i j i' j' b, G i j b → G i' j' b → i = i' ∧ j = j') ∧
      ∃ xs : List Value, xs.length = n * sz ∧ (∀ m u, xs[m]? = some u → w.cell? ⟨g, off + m, none⟩ = some u) ∧ (∀ u ∈ xs, u.oneCell' = true) ∧
      ∀ i e, els[i]? = some e → ∀ j d, (cels e)[j]? = some d → ∃ x, xs[i * sz + j]? = some x ∧ d.ow w (G i j) x := by
  obtain ⟨g, off, G, rfl, hF, hlt, hf, hG, hD, hc⟩ := h.at_ hn
  have hlen := h.len
  have key : ∀ i j, i < n → j < sz → ∃ e d x, els[i]? = some e ∧ (cels e)[j]? = some d ∧ w.cell? ⟨g, off + i * sz + j, none⟩ = some x ∧ d.ow w (G i j) x := by
    intro i j hi hj
    have he : els[i]? = some (els[i]'(by omega)) := List.getElem?_eq_getElem _
    have hj' : j < (cels (els[i]'(by omega))).length := by rw [hl]; exact hj
    have hd : (cels (els[i]'(by omega)))[j]? = some ((cels (els[i]'(by omega)))[j]) := List.getElem?_eq_getElem hj'
    obtain ⟨x, hx, ho⟩ := hc i _ he j _ hd
    exact ⟨_, _, x, he, hd, hx, ho⟩
  refine ⟨g, off, G, rfl, hF, hlt, hG, hD, (List.range (n * sz)).map fun m => (w.cell? ⟨g, off + m, none⟩).getD undef, by simp, fun m u hu => ?_, fun u hu => ?_, fun i e hi j d hj => ?_⟩
  · have hm : m < n * sz := by
      have := (List.getElem?_eq_some_iff.1 hu).1
      simpa using this
    have hsz : 0 < sz := by
      rcases Nat.eq_zero_or_pos sz with h0 | h0
      · rw [h0] at hm; omega
      · exact h0
    obtain ⟨e, d, x, _, _, hx, _⟩ := key (m / sz) (m % sz) (Nat.div_lt_of_lt_mul (by rw [Nat.mul_comm]; exact hm)) (Nat.mod_lt _ hsz)
    have hdm : off + m / sz * sz + m % sz = off + m := by rw [Nat.add_assoc, Nat.mul_comm, Nat.div_add_mod]
    rw [hdm] at hx
    rw [List.getElem?_map, List.getElem?_range hm] at hu
    simp only [Option.map_some, hx, Option.getD_some, Option.some.injEq] at hu
    rw [← hu]
    exact hx
  · obtain ⟨m, hm, rfl⟩ := List.mem_map.1 hu
    have hm := List.mem_range.1 hm
    have hsz : 0 < sz := by
      rcases Nat.eq_zero_or_pos sz with h0 | h0
      · rw [h0] at hm; omega
      · exact h0
    obtain ⟨e, d, x, he, hd, hx, ho⟩ := key (m / sz) (m % sz) (Nat.div_lt_of_lt_mul (by rw [Nat.mul_comm]; exact hm)) (Nat.mod_lt _ hsz)
    have hdm : off + m / sz * sz + m % sz = off + m := by rw [Nat.add_assoc, Nat.mul_comm, Nat.div_add_mod]
    rw [hdm] at hx
    simp only [hx, Option.getD_some]
    cases d with
    | v y => rw [show x = y from ho]; exact h1 e _ y hd
    | b l => obtain ⟨A, n, c, rfl, _⟩ := ho; rfl
  · obtain ⟨x, hx, ho⟩ := hc i e hi j d hj
    refine ⟨x, ?_, ho⟩
    have hi' : i < n := by have := (List.getElem?_eq_some_iff.1 hi).1; omega
    have hj' : j < sz := by rw [← hl e]; exact (List.getElem?_eq_some_iff.1 hj).1
    have hm : i * sz + j < n * sz := by
      have := Nat.mul_le_mul_right sz hi'
      rw [Nat.succ_mul] at this
      omega
    rw [List.getElem?_map, List.getElem?_range hm]
    rw [Nat.add_assoc] at hx
    simp only [Option.map_some, hx, Option.getD_some]

/-- many more, behind an append: their runs lie below all that is there -/
theorem run_ap_many {E : Type} {cels : E → List Cel} {sz by_ : Nat} {t et : TypeId} {z : Value} (hu : Try.prog.underlying t = some (.slice et)) (hi : (Try.prog.info? et).map (fun i => (i.zero, i.size, i.bytes)) = some (some z, sz, by_)) (hz : z.cells.size = sz) (hsz : 0 < sz) (hby : by_ ≤ 1000) (hl : ∀ e : E, (cels e).length = sz) (hone : ∀ (e : E) (j : Nat) (y : Value), (cels e)[j]? = some (Cel.v y) → y.oneCell' = true)
    (w : World) (B B' : Nat) (v : Value) (els : List E) (h : Ap cels sz et w B v els) (hB : B ≤ w.heap.size) (hB' : B' ≤ B) (hn : els.length ≤ 10000000) (ty : TypeId)
    (F : Nat → Prop) (A : Option Addr) (k c : Nat) (more : List E) (hm : Lo cels sz w F A k more) (hk : 0 < k) (hk2 : k ≤ 10000000) (hF : ∀ b, F b → B' ≤ b ∧ b < B) (X : Nat → Prop) (hX : ∀ b, X b → b < B ∧ ¬ F b) :
    ∃ v' w', (Builtin.append_ #[t, t] ty #[v, .slice A k c]).run Try.prog w = .ok v' w' ∧ Apx cels sz et w' B' X v' (els ++ more) ∧ Below B w w' ∧ Lay w v v' ∧ Else v w w' := by
  obtain ⟨i0, hi0, hz0, hz1, hz2⟩ := info_parts hi
  obtain ⟨ys, hown, G, hG, hD, hc⟩ := h.own
  obtain ⟨g, off, Gm, rfl, hFg, hgl, hGm, hDm, xs, hxl, hxc, hx1, hxo⟩ := hm.cellsL hk hl hone
  have hlen := hm.len
  obtain ⟨v', w', hr, hown', hgrow, _, hat⟩ := run_append_own_at (P := Try.prog) w B t ty et i0 z sz by_ hu hi0 hz0 hz1 hz2 hz hsz v els.length ys hown ⟨g, off, none⟩ k c xs hxl
    (fun j u hj => by rw [Addr.add_lit]; exact hxc j u hj) hx1 (by unfold maxLen; omega) (by
    have := Nat.mul_le_mul (show els.length + k ≤ 20000000 by omega) hby
    omega) (by omega)
  have hyl : ys.length = els.length * sz := hown.1
  have hvl : ∀ b, v.ownBlock = some b → B ≤ b ∧ b < w.heap.size := fun b hb => hown.lt b hb
  have hk2 : ∀ b, b < w.heap.size → v.ownBlock ≠ some b → w'.heap[b]? = w.heap[b]? := fun b hl hne => hgrow.block b hl (fun e => hne e.symm)
  have hs2 := hgrow.size
  have hnm : ∀ b, F b → v.ownBlock ≠ some b := fun b hb e => by have := hvl b e; have := hF b hb; omega
  refine ⟨v', w', hr, ⟨ys ++ xs, ?_, fun b hx e => ?_, fun i j b => (i < els.length ∧ G i j b) ∨ (els.length ≤ i ∧ Gm (i - els.length) j b), fun i j b hb' => ?_, fun i j i' j' b h1 h2 => ?_, fun i el hi j d hj => ?_⟩, ⟨hgrow.os, hgrow.tape, hgrow.output, hgrow.size, fun q hq => hgrow.block q (by omega) (fun e => by have := hvl q e.symm; omega)⟩, hat, fun g hg hne => hgrow.block g hg (fun e => hne e.symm)⟩
  · have ho : w'.ownsRow B' et sz v' (els.length + k) (ys ++ xs) := by
      refine ⟨hown'.1, ?_⟩
      rcases hown'.2 with h0 | ⟨g, cap, cur, e, hBg, rest⟩
      · exact .inl h0
      · exact .inr ⟨g, cap, cur, e, by omega, rest⟩
    rw [List.length_append, hlen]
    exact ho
  · have h7 := hX b hx
    rcases hat with h1 | h1
    · have := hvl b (h1.symm.trans e); omega
    · rw [h1] at e; injection e with e; omega
  · have hne : ∀ b, b < w.heap.size → v.ownBlock ≠ some b → v'.ownBlock ≠ some b := fun b hl hn e' => by
      rcases hat with h1 | h1
      · exact hn (h1.symm.trans e')
      · rw [h1] at e'; injection e' with e'; omega
    rcases hb' with ⟨_, hb'⟩ | ⟨_, hb'⟩
    · obtain ⟨q1, q2, q3⟩ := hG i j b hb'
      exact ⟨by omega, by omega, hne b (by omega) q3, fun hx => by have := (hX b hx).1; omega⟩
    · obtain ⟨q1, q2⟩ := hGm _ j b hb'
      have := hF b q1
      exact ⟨by omega, by omega, hne b (by omega) (hnm b q1), fun hx => (hX b hx).2 q1⟩
  · rcases h1 with ⟨q1, h1⟩ | ⟨q1, h1⟩ <;> rcases h2 with ⟨q2, h2⟩ | ⟨q2, h2⟩
    · exact hD i j i' j' b h1 h2
    · have := (hG i j b h1).1; have := hF b (hGm _ j' b h2).1; omega
    · have := (hG i' j' b h2).1; have := hF b (hGm _ j b h1).1; omega
    · have := hDm _ j _ j' b h1 h2; exact ⟨by omega, this.2⟩
  · by_cases hil : i < els.length
    · rw [List.getElem?_append_left hil] at hi
      obtain ⟨x, hx, hr⟩ := hc i el hi j d hj
      have hj' : j < sz := by
        rw [← hl el]
        exact (List.getElem?_eq_some_iff.1 hj).1
      have hm : i * sz + j < els.length * sz := by
        have := Nat.mul_le_mul_right sz hil
        rw [Nat.succ_mul] at this
        omega
      refine ⟨x, by rw [List.getElem?_append_left (by rw [hyl]; exact hm)]; exact hx, (hr.keep hs2 fun b hb' hlb => ?_).wider fun b hb' => .inl ⟨hil, hb'⟩⟩
      exact hk2 b hlb (hG i j b hb').2.2
    · rw [List.getElem?_append_right (by omega)] at hi
      obtain ⟨x, hx, hr⟩ := hxo _ el hi j d hj
      have hle : els.length * sz ≤ i * sz := Nat.mul_le_mul_right sz (by omega)
      have hsub : i * sz + j - els.length * sz = (i - els.length) * sz + j := by rw [Nat.sub_mul]; omega
      refine ⟨x, by rw [List.getElem?_append_right (by rw [hyl]; omega), hyl, hsub]; exact hx, (hr.keep hs2 fun b hb' hlb => ?_).wider fun b hb' => .inr ⟨by omega, hb'⟩⟩
      exact hk2 b hlb (hnm b (hGm _ j b hb').1)
theorem step_ap_many {E : Type} {cels : E → List Cel} {sz by_ : Nat} {t et : TypeId} {z : Value} (hu : Try.prog.underlying t = some (.slice et)) (hi : (Try.prog.info? et).map (fun i => (i.zero, i.size, i.bytes)) = some (some z, sz, by_)) (hz : z.cells.size = sz) (hsz : 0 < sz) (hby : by_ ≤ 1000) (hl : ∀ e : E, (cels e).length = sz) (hone : ∀ (e : E) (j : Nat) (y : Value), (cels e)[j]? = some (Cel.v y) → y.oneCell' = true)
    {ops : Array Oper} {o : Oper} {a : Act} {K : Act → World → Prop} {Q : Exit → Act → World → Prop} {Z : Prop} (hgd : o.guard = none) (s x : Operand)
    (ho : o.op = .call { callee := .builtin .append, args := #[s, x], argTypes := #[t, t] })
    (w : World) (B B' : Nat) (v : Value) (els : List E) (h : Ap cels sz et w B v els) (hB : B ≤ w.heap.size) (hB' : B' ≤ B) (hn : els.length ≤ 10000000)
    (F : Nat → Prop) (A : Option Addr) (k c : Nat) (more : List E) (hm : Lo cels sz w F A k more) (hk : 0 < k) (hk2 : k ≤ 10000000) (hF : ∀ b, F b → B' ≤ b ∧ b < B) (X : Nat → Prop) (hX : ∀ b, X b → b < B ∧ ¬ F b)
    (hs : a.eval s = v) (hx : a.eval x = .slice A k c)
    (kk : ∀ v' w', Apx cels sz et w' B' X v' (els ++ more) → Below B w w' → Lay w v v' → Else v w w' → K (a.put o.dst v') w') : if Region.wanted o (yielded ops a.tmps) = true then Oper.wp Try.prog o a w K Q else Z := by
  have hw : Region.wanted o (yielded ops a.tmps) = true := by simp [Region.wanted, hgd]
  rw [if_pos hw]
  obtain ⟨v', w', hr, q1, q2, q3, q4⟩ := run_ap_many hu hi hz hsz hby hl hone w B B' v els h hB hB' hn o.type F A k c more hm hk hk2 hF X hX
  unfold Oper.wp execOp
  simp only [ho, resolve, invoke, builtin, Sem.run_bind, Sem.run_pure, Result.andThen_ok, List.map_toArray, List.map_cons, List.map_nil, hs, hx, hr]
  exact kk v' w' q1 q2 q3 q4
theorem wpList_ap_many {E : Type} {cels : E → List Cel} {sz by_ : Nat} {t et : TypeId} {z : Value} (hu : Try.prog.underlying t = some (.slice et)) (hi : (Try.prog.info? et).map (fun i => (i.zero, i.size, i.bytes)) = some (some z, sz, by_)) (hz : z.cells.size = sz) (hsz : 0 < sz) (hby : by_ ≤ 1000) (hl : ∀ e : E, (cels e).length = sz) (hone : ∀ (e : E) (j : Nat) (y : Value), (cels e)[j]? = some (Cel.v y) → y.oneCell' = true)
    {ops : Array Oper} {rest : List Oper} {o : Oper} {a : Act} {Q : Exit → Act → World → Prop} (hgd : o.guard = none) (s x : Operand)
    (ho : o.op = .call { callee := .builtin .append, args := #[s, x], argTypes := #[t, t] })
    (w : World) (B B' : Nat) (v : Value) (els : List E) (h : Ap cels sz et w B v els) (hB : B ≤ w.heap.size) (hB' : B' ≤ B) (hn : els.length ≤ 10000000)
    (F : Nat → Prop) (A : Option Addr) (k c : Nat) (more : List E) (hm : Lo cels sz w F A k more) (hk : 0 < k) (hk2 : k ≤ 10000000) (hF : ∀ b, F b → B' ≤ b ∧ b < B) (X : Nat → Prop) (hX : ∀ b, X b → b < B ∧ ¬ F b)
    (hs : a.eval s = v) (hx : a.eval x = .slice A k c)
    (kk : ∀ v' w', Apx cels sz et w' B' X v' (els ++ more) → Below B w w' → Lay w v v' → Else v w w' → wpList Try.prog ops Q rest (a.put o.dst v') w') : wpList Try.prog ops Q (o :: rest) a w := by
  refine wpList_plain hgd fun K hK => ?_
  obtain ⟨v', w', hr, q1, q2, q3, q4⟩ := run_ap_many hu hi hz hsz hby hl hone w B B' v els h hB hB' hn o.type F A k c more hm hk hk2 hF X hX
  unfold Oper.wp execOp
  simp only [ho, resolve, invoke, builtin, Sem.run_bind, Sem.run_pure, Result.andThen_ok, List.map_toArray, List.map_cons, List.map_nil, hs, hx, hr]
  exact hK _ _ (kk v' w' q1 q2 q3 q4)
theorem onePart (e : PartD) (j : Nat) (y : Value) (h : (PartD.cels e)[j]? = some (Cel.v y)) : y.oneCell' = true := by
  rcases j with _ | _ | _ | _ | j <;> simp [PartD.cels] at h <;> subst h <;> rfl
theorem oneHeld (e : HeldD) (j : Nat) (y : Value) (h : (HeldD.cels e)[j]? = some (Cel.v y)) : y.oneCell' = true := by
  rcases j with _ | _ | _ | j <;> simp [HeldD.cels] at h <;> subst h <;> rfl
end Go.Proofs.Ytpaemmoopjkppaa

/-! BytC -/
/- The laws' helpers for lists of runs of bytes. -/
namespace Go.Proofs.Ytpaemmoopjkppaa
open Go.RowKit

/-- what an element is: a run of bytes -/
def bytC (l : List Int) : List Cel := [.b l]
def tB := tL bytC 1
theorem okB (A : Option Addr) (n : Nat) (els : List (List Int)) : (tB A n els).Ok := okL _ _ A n els
def mkB (k : Int) (l : List Int) : List Int := marks k l.length

theorem Lst.getByt {w : World} {A : Option Addr} {n : Nat} {els : List (List Int)} (h : Lst bytC 1 w A n els) {k : Nat} (hk : k < n) :
    ∃ b off e B m c, A = some ⟨b, off, none⟩ ∧ b < w.heap.size ∧ Shut (els[k]? = some e) ∧ w.cell? ⟨b, off + k, none⟩ = some (.slice B m c) ∧ Bs w B m e ∧ Shut (B = none → c = 0) := by
  obtain ⟨b, off, rfl, hbs, hc⟩ := h.at_ (by omega)
  have he : els[k]? = some (els[k]'(by rw [h.len]; exact hk)) := List.getElem?_eq_getElem _
  obtain ⟨x0, h0, B, m, c, rfl, hb, hz⟩ := hc k _ he 0 _ rfl
  exact ⟨b, off, _, B, m, c, rfl, hbs, ⟨he⟩, by simpa using h0, hb, ⟨hz⟩⟩

theorem info_Byt : (Try.prog.info? 23).map (fun i => (i.zero, i.size, i.bytes)) = some (some (.slice none 0 0), 1, 24) := by kernel_rfl

theorem run_make_Byt (n : Nat) (hn : n ≤ 1048576) (w : World) : ∃ cs : Array Value, cs.size = n * 1 ∧
    (Instr.makeSlice 33 (.int .i64 (n : Int)) (.int .i64 (n : Int))).run Try.prog w = .ok (.slice (some ⟨w.heap.size, 0, none⟩) n n) (w.alloc (.cells cs 23)) := by
  obtain ⟨i, hi, hz0, hz1, hz2⟩ := info_parts info_Byt
  have hr := run_make (P := Try.prog) w 33 23 i _ Try.underlying33 hi hz0 .i64 .i64 n n (by omega) (by omega) (by rw [hz2]; omega) (by omega)
  simp only [Int.toNat_natCast] at hr
  exact ⟨_, by rw [made_size, hz1], hr⟩

set_option maxHeartbeats 1000000 in
theorem toByteSS_any (A : Option Addr) (n c : Nat) (els : List (List Int)) (w : World) (h : Lst bytC 1 w A n els) (hn : n ≤ 1048576) (hb : ∀ e ∈ els, e.length ≤ 1048576) :
    Calls Try.prog 100 #[.slice A n c] w fun e w' => (e = .returned (.slice (some ⟨w.heap.size, 0, none⟩) n n) ∧ Lo bytC 1 w' (fun b => w.heap.size ≤ b ∧ b < w'.heap.size) (some ⟨w.heap.size, 0, none⟩) n els) ∧ Below w.heap.size w w' := by
  obtain ⟨cs, hcs, hmk⟩ := run_make_Byt n hn w
  go_enter Try.func100, Try.ntmps100
  go_wp2
  clear hmk
  go_loopw [4] (fun i wr => ∃ k : Nat, k ≤ n ∧ i = .int .i64 k ∧ Spn wr w.heap.size (n * 1) 23 ∧ Lo bytC 1 wr (fun b => w.heap.size ≤ b ∧ b < wr.heap.size) (some ⟨w.heap.size, 0, none⟩) k (els.take k) ∧ Below w.heap.size w wr) (fun i _ => n - (intOf i).toNat)
  case atStart =>
    exact ⟨0, Nat.zero_le _, rfl, Spn.new w cs _ hcs, Lo.nil_ _ _ _, ab (Below.refl _ _) _⟩
  case round =>
    obtain ⟨k, hk, rfl, hspn, hro, hbel⟩ := hrel
    by_cases hlt : k < n
    · obtain ⟨b, off, e, B, m, c', rfl, hbs, he, h0, hB, hz⟩ := h.getByt hlt
      have hb' := bcell hbel
      have hem : e ∈ els := List.mem_of_getElem? he.out
      have hml := hB.len
      have hby := hB.byte
      have hm : m ≤ 1048576 := by have := hb e hem; omega
      have htp := fun W hh => toByteS_any B m c' e W hh (by omega)
      clear h
      go_wp2_with fail
      refine (htp _ (hB.below hbel)).mono ?_
      rintro e1 w1 ⟨rfl, k1, b1⟩
      have ho : Ow w1 wr.heap.size _ m e := k1.own hby hml
      have hs1 := hspn.lt
      have hspn1 := hspn.below b1 hs1
      have z1 := b1.size
      obtain ⟨y0, c0⟩ := hspn1.cell (i := k) (by omega)
      have fz := hspn1.frozen
      clear h0 hb' htp hml hby
      go_wp2
      go_roundw
      case rel =>
        have hp := (hro.push1 (e := e) b1 ⟨Nat.le_refl _, hs1⟩ (fun b hb => hb.2) fz (hspn1.there (by omega)) (fun _ => rfl) [.slice (some ⟨wr.heap.size, 0, none⟩) m m] rfl 0 _ m _ ho (fun j d hj => by
          rcases j with _ | j <;> simp [bytC] at hj <;> subst hj
          exact ⟨_, rfl, .inr ⟨rfl, rfl, m, rfl, fun h => by cases h⟩⟩)).wider (H := fun b => w.heap.size ≤ b ∧ b < w1.heap.size) (fun b hb => by rcases hb with hb | hb <;> omega)
        refine ⟨k + 1, by omega, by go_num, (hspn1.set_ _ _), ?_, ((hbel.trans (b1.mono (by omega))).setCell (Nat.le_refl _) _)⟩
        rw [List.take_add_one, he.out]
        simp only [World.setCells, Nat.zero_add, Nat.mul_one] at hp
        simp only [World.size_setCell]
        exact hp
      case measure => simp [intOf]; omega
    · obtain rfl : k = n := by omega
      go_wp2
      go_ret
      rw [List.take_of_length_le (by rw [h.len]; exact Nat.le_refl _)] at hro
      exact ⟨⟨rfl, hro⟩, hbel⟩

set_option linter.unusedVariables false in
set_option maxHeartbeats 1000000 in
theorem szByteSS_any (A : Option Addr) (n c : Nat) (els : List (List Int)) (x : Int) (w : World) (h : Lst bytC 1 w A n els) (h0 : 0 ≤ x) (h1 : x ≤ 1048576) (hn : n ≤ 9223372036854775807) (hb : ∀ e ∈ els, e.length ≤ 9223372036854775807) :
    Calls Try.prog 95 #[.slice A n c, .int .i64 x] w fun e w' => e = .returned (.int .i64 (leftE List.length x n els)) ∧ Below w.heap.size w w' := by
  unfold leftE
  by_cases hx : x - (n : Int) < 0
  · have e0 : leftC x (n + sumE List.length els) = -1 := by unfold leftC; rw [if_pos (by omega)]
    rw [e0]
    clear e0
    go_enter Try.func95, Try.ntmps95
    go_wp2
    go_ret
    exact ⟨rfl, Below.refl _ _⟩
  · go_enter Try.func95, Try.ntmps95
    go_wp2
    go_loopw [1, 5] (fun r i wr => ∃ k : Nat, k ≤ n ∧ i = .int .i64 k ∧ Below w.heap.size w wr ∧ ∃ y : Int, r = .int .i64 y ∧ 0 ≤ y ∧ y ≤ 1048576 ∧ y = x - (n : Int) - (sumE List.length (els.take k) : Int)) (fun r i _ => n - (intOf i).toNat)
    case atStart =>
      exact ⟨0, Nat.zero_le _, rfl, Below.refl _ _, _, rfl, by omega, by omega, by simp [sumE]⟩
    case round =>
      obtain ⟨k, hk, rfl, hbel, y, rfl, hy0, hy1, hy⟩ := hrel
      by_cases hlt : k < n
      · obtain ⟨b, off, e, B, m, c', rfl, hbs, he, h0, hB, hz⟩ := h.getByt hlt
        have hb' := bcell hbel
        have hem : e ∈ els := List.mem_of_getElem? he.out
        have hml := hB.len
        have hm : m ≤ 9223372036854775807 := by have := hb e hem; omega
        have hs := sumE_take_succ List.length he.out
        have hs2 := sumE_take_le List.length els (k + 1)
        have htp := fun W => szByteS_any B m c' y W hy0 hy1 hm
        have hs' : sumE List.length (els.take (k + 1)) = sumE List.length (els.take k) + m := by rw [hs, hml]
        clear hs hml
        by_cases hq : y - (m : Int) < 0
        · rw [if_pos hq] at htp
          have e0 : Shut (leftC x (n + sumE List.length els) = -1) := ⟨by unfold leftC; rw [if_pos (by omega)]⟩
          clear hs' hs2 h hy hq
          go_wp2_with fail
          refine (htp _).mono ?_
          rintro e1 w1 ⟨rfl, rfl⟩
          go_wp2
          go_ret
          exact ⟨by rw [e0.out]; rfl, hbel⟩
        · rw [if_neg hq] at htp
          have e0 : Shut (y - (m : Int) = x - (n : Int) - (sumE List.length (els.take (k + 1)) : Int)) := ⟨by omega⟩
          clear hs' hs2 h hy
          go_wp2_with fail
          refine (htp _).mono ?_
          rintro e1 w1 ⟨rfl, rfl⟩
          go_wp2
          go_roundw
          case rel =>
            exact ⟨k + 1, by omega, by go_num, hbel, _, rfl, by omega, by omega, e0.out⟩
          case measure => simp [intOf]; omega
      · obtain rfl : k = n := by omega
        have e0 : Shut (leftC x (k + sumE List.length els) = y) := ⟨by
          rw [List.take_of_length_le (by rw [h.len]; exact Nat.le_refl _)] at hy
          unfold leftC
          rw [if_neg (by omega), hy]
          omega⟩
        clear hy
        go_wp2
        go_ret
        exact ⟨by rw [e0.out]; rfl, hbel⟩

set_option maxHeartbeats 1000000 in
theorem eqByteSS_any (A A' : Option Addr) (n c c' : Nat) (els : List (List Int)) (w : World) (h : Lst bytC 1 w A n els) (h' : Lst bytC 1 w A' n els) (hn : n ≤ 140737488351232) (hb : ∀ e ∈ els, e.length ≤ 140737488351232) :
    Calls Try.prog 50 #[.slice A n c, .slice A' n c'] w fun e w' => e = .returned (.bool true) ∧ Below w.heap.size w w' := by
  go_enter Try.func50, Try.ntmps50
  go_wp2
  go_loopw [5] (fun i wr => ∃ k : Nat, k ≤ n ∧ i = .int .i64 k ∧ Below w.heap.size w wr) (fun i _ => n - (intOf i).toNat)
  case atStart =>
    exact ⟨0, Nat.zero_le _, rfl, Below.refl _ _⟩
  case round =>
    obtain ⟨k, hk, rfl, hbel⟩ := hrel
    by_cases hlt : k < n
    · obtain ⟨b, off, e, B, m, d, rfl, hbs, he, h0, hB, hz⟩ := h.getByt hlt
      obtain ⟨b', off', e', B', m', d', rfl, hbs', he', h0', hB', hz'⟩ := h'.getByt hlt
      have hee : e' = e := by have h1 := he.out; have h2 := he'.out; rw [h1] at h2; injection h2 with h2; exact h2.symm
      subst hee
      have hml := hB.len
      have hml' := hB'.len
      obtain rfl : m' = m := by omega
      have hm : m' ≤ 140737488351232 := by have := hb e' (List.mem_of_getElem? he.out); omega
      have hb' := bcell hbel
      have htp : Shut (∀ W, W.cell? ⟨b, off + k, none⟩ = some (.slice B m' d) ∧ W.cell? ⟨b', off' + k, none⟩ = some (.slice B' m' d') ∧ Below w.heap.size w W → Calls Try.prog 52 #[.slice B m' d, .slice B' m' d'] W fun e w' => e = .returned (.bool true) ∧ w'.cell? ⟨b, off + k, none⟩ = some (.slice B m' d) ∧ w'.cell? ⟨b', off' + k, none⟩ = some (.slice B' m' d') ∧ Below w.heap.size w w') :=
        ⟨fun W ⟨y0, y1, y2⟩ => by
          have e1 := eqByteS_any B B' m' d m' d' e' e' W (hB.below y2) (hB'.below y2) hm hm
          simp only [decide_true] at e1
          refine e1.mono ?_
          rintro e w' ⟨h1, q1, rfl⟩
          exact ⟨h1, y0, y1, ad y2 _⟩⟩
      have q0 := (hb'.1 b _ hbs).trans h0
      have q1 := (hb'.1 b' _ hbs').trans h0'
      have hD := ad hbel 1
      clear h h' hml hml' h0 h0' hB hB' hz hz' he he' hm hb'
      go_wp2_with fail
      go_region_held3 (fun W => W.cell? ⟨b, off + k, none⟩ = some (.slice B m' d) ∧ W.cell? ⟨b', off' + k, none⟩ = some (.slice B' m' d') ∧ Below w.heap.size w W)
        (first | (exact ⟨by assumption, by assumption, by assumption⟩) | (exact ⟨q0, q1, hD⟩) | go_keep)
        (first | (go_at_call 52; refine (htp.out _ ?_).mono ?_; (first | assumption | (simp [*]; done)); rintro e1 w1 ⟨rfl, y0, y1, y2⟩))
      go_wp2
      go_roundw
      case rel =>
        exact ⟨k + 1, by omega, by go_num, y2⟩
      case measure => simp [intOf]; omega
    · obtain rfl : k = n := by omega
      go_wp2
      go_ret
      exact ⟨rfl, hbel⟩

set_option maxHeartbeats 2000000 in
theorem markByteSS_any (A : Option Addr) (n c : Nat) (els : List (List Int)) (F : Nat → Prop) (k : Int) (w : World) (h : Lo bytC 1 w F A n els) (hk0 : 0 ≤ k) (hk1 : k ≤ 100000000) (hs : sumE List.length els ≤ 100000000) (hn : n ≤ 100000000) :
    Calls Try.prog 55 #[.slice A n c, .int .i64 k] w fun e w' => e = .returned (.int .i64 (k + (sumE List.length els : Int))) ∧ Lo bytC 1 w' F A n (markE mkB List.length k els) ∧ Tu F w w' := by
  go_enter Try.func55, Try.ntmps55
  go_wp2
  go_loopw [1, 5] (fun r i wr => ∃ j : Nat, j ≤ n ∧ i = .int .i64 j ∧ r = .int .i64 (k + (sumE List.length (els.take j) : Int)) ∧ Lo bytC 1 wr F A n (markd_ mkB List.length k els j) ∧ Tu F w wr) (fun r i _ => n - (intOf i).toNat)
  case atStart =>
    exact ⟨0, Nat.zero_le _, rfl, by simp [sumE], by rw [markd_zero_]; exact h, Tu.refl _ _⟩
  case round =>
    obtain ⟨j, hj, rfl, rfl, hro, htu⟩ := hrel
    by_cases hlt : j < n
    · have he : els[j]? = some (els[j]'(by rw [h.len]; exact hlt)) := List.getElem?_eq_getElem _
      generalize els[j]'(by rw [h.len]; exact hlt) = e at he
      obtain ⟨g, off, G, rfl, hF, hg, hfz, hG, hc, hup⟩ := hro.upd (fun _ => rfl) (markd_get_ mkB List.length k he)
      obtain ⟨x0, c0, B, m, d, rfl, ho, hz⟩ := hc 0 _ rfl
      have hst := markd_set_ mkB List.length k he
      have hs1 := sumE_take_succ List.length he
      have hs2 := sumE_take_le List.length els (j + 1)
      have hml := ho.len
      obtain ⟨y, hy⟩ : ∃ y, y = k + (sumE List.length (els.take j) : Int) := ⟨_, rfl⟩
      rw [← hy] at hst ⊢
      have hy0 : 0 ≤ y := by omega
      have hy1 : y + (m : Int) ≤ 200000000 := by omega
      have hm : m ≤ 100000000 := by omega
      have e1 : Shut (y + (m : Int) = k + (sumE List.length (els.take (j + 1)) : Int)) := ⟨by omega⟩
      have Hml := Shut.mk hml
      have hne := ho.apart (b := g) (fun hb => (hG 0 g hb).2 rfl)
      have HU := hup
      have Hst := Shut.mk hst
      clear hs1 hs2 hml hy hs hup hc hst
      simp only [Nat.add_zero, Nat.mul_one] at c0
      have hmk := markByteS_any B m d 0 e (y) _ ho.ow0 (by omega) (by omega) (by omega)
      go_wp2_with fail
      refine hmk.mono ?_
      rintro e2 w1 ⟨rfl, how, hon⟩
      have hbg := hon.block g hne
      have p0 := (World.cell?_of_block (a := ⟨g, off + j, none⟩) hbg).trans c0
      have p_ : ∀ i, w1.frozen? ⟨g, i, none⟩ = false := fun i => (World.frozen?_of_block (a := ⟨g, i, none⟩) hbg).trans (hfz i)
      have hsz := hon.size
      clear hmk
      go_wp2
      go_roundw
      case rel =>
        refine ⟨j + 1, by omega, by go_num, by rw [e1.out], ?_, (htu.trans (Tu.ofOnly hon fun h0 a ha => (hG 0 _ (ho.inside h0 a ha)).1))⟩
        rw [← Hst.out]
        refine HU.out _ _ (by omega) (fun i => p_ i) (fun b hFb hbg' hGb hlb => hon.block b (ho.apart (hGb 0))) (fun i hi => World.cell?_of_block (a := ⟨g, i, none⟩) hbg) (fun i d0 hd => ?_)
        rcases i with _ | i <;> simp [bytC, mkB] at hd <;> subst hd
        refine ⟨_, ?_, B, m, d, rfl, ?_, hz⟩
        · rw [Nat.add_zero, Nat.mul_one]
          exact p0
        · rw [Hml.out]
          exact ho.remark how
      case measure => simp [intOf]; omega
    · obtain rfl : j = n := by omega
      go_wp2
      go_ret
      rw [List.take_of_length_le (by rw [h.len]; exact Nat.le_refl _)]
      rw [markd_full_ _ _ _ _ _ h.len] at hro
      exact ⟨rfl, hro, htu⟩

set_option maxHeartbeats 2000000 in
theorem heldByteSS_any (A : Option Addr) (n c : Nat) (els : List (List Int)) (k : Int) (w : World) (h : Lst bytC 1 w A n (markE mkB List.length k els)) (hk0 : 0 ≤ k) (hk1 : k ≤ 100000000) (hs : sumE List.length els ≤ 100000000) (hn : n ≤ 100000000) :
    Calls Try.prog 57 #[.slice A n c, .int .i64 k] w fun e w' => e = .returned (.int .i64 (k + (sumE List.length els : Int))) ∧ Below w.heap.size w w' := by
  have hel : els.length = n := by rw [← markE_len mkB List.length k els]; exact h.len
  go_enter Try.func57, Try.ntmps57
  go_wp2
  go_loopw [1, 5] (fun r i wr => ∃ j : Nat, j ≤ n ∧ i = .int .i64 j ∧ r = .int .i64 (k + (sumE List.length (els.take j) : Int)) ∧ Below w.heap.size w wr) (fun r i _ => n - (intOf i).toNat)
  case atStart =>
    exact ⟨0, Nat.zero_le _, rfl, by simp [sumE], Below.refl _ _⟩
  case round =>
    obtain ⟨j, hj, rfl, rfl, hbel⟩ := hrel
    by_cases hlt : j < n
    · have he : els[j]? = some (els[j]'(by omega)) := List.getElem?_eq_getElem _
      generalize els[j]'(by omega) = e at he
      obtain ⟨b, off, e', B, m, d, rfl, hbs, he', h0, hB, hz⟩ := h.getByt hlt
      have hee := he'.out
      rw [markE_get mkB List.length k he] at hee
      injection hee with hee
      have hs1 := sumE_take_succ List.length he
      have hs2 := sumE_take_le List.length els (j + 1)
      obtain ⟨y, hy⟩ : ∃ y, y = k + (sumE List.length (els.take j) : Int) := ⟨_, rfl⟩
      rw [← hy] at hee ⊢
      subst hee
      have hml : e.length = m := by have := hB.len; rw [← this]; exact (marks_len _ _).symm
      have hy0 : 0 ≤ y := by omega
      have hy1 : y + (m : Int) ≤ 200000000 := by omega
      have hm : m ≤ 100000000 := by omega
      have e1 : Shut (y + (m : Int) = k + (sumE List.length (els.take (j + 1)) : Int)) := ⟨by omega⟩
      simp only [mkB, hml] at hB
      have hmk := heldByteS_any B m d (y) wr (hB.below hbel) (by omega) (by omega) (by omega)
      have hb' := bcell hbel
      clear hs1 hs2 hml hy hs he he' h hel
      have t1 : decide (y + (m : Int) < 0) = false := by simp; omega
      go_wp2_with fail
      refine hmk.mono ?_
      rintro e2 w1 ⟨rfl, rfl⟩
      clear hmk
      go_wp2
      go_roundw
      case rel => exact ⟨j + 1, by omega, by go_num, by rw [e1.out], hbel⟩
      case measure => simp [intOf]; omega
    · obtain rfl : j = n := by omega
      have Hel := Shut.mk hel
      clear hel
      go_wp2
      go_ret
      rw [List.take_of_length_le (by rw [Hel.out]; exact Nat.le_refl _)]
      exact ⟨rfl, hbel⟩

end Go.Proofs.Ytpaemmoopjkppaa

/-! ApS -/
/- A list of the call's own in blocks of a set, to be appended to: what is put behind it may lie elsewhere. -/
namespace Go.Proofs.Ytpaemmoopjkppaa
open Go.RowKit

/-- v is a list els of the call's own, in blocks of the set F, to be appended to -/
structure As {E : Type} (cels : E → List Cel) (sz : Nat) (t : TypeId) (w : World) (F : Nat → Prop) (v : Value) (els : List E) : Prop where
  own : ∃ xs, w.ownsRow 0 t sz v els.length xs ∧ (∀ b, v.ownBlock = some b → F b) ∧ ∃ G : Nat → Nat → Nat → Prop, (∀ i j b, G i j b → F b ∧ v.ownBlock ≠ some b) ∧ (∀ i j i' j' b, G i j b → G i' j' b → i = i' ∧ j = j') ∧
    ∀ i e, els[i]? = some e → ∀ j d, (cels e)[j]? = some d → ∃ x, xs[i * sz + j]? = some x ∧ d.ow w (G i j) x

section
variable {E : Type} {cels : E → List Cel} {sz : Nat} {t : TypeId} {w w' : World} {F H : Nat → Prop} {v : Value} {els : List E}
theorem As.nil_ (w : World) (F : Nat → Prop) : As cels sz t w F (.slice none 0 0) ([] : List E) :=
  ⟨[], World.ownsRow_nil _ _ _ _, (fun b e => by cases e), fun _ _ _ => False, fun _ _ _ h => h.elim, fun _ _ _ _ _ h => h.elim, fun i e h => by simp at h⟩
theorem As.keep (h : As cels sz t w F v els) (hs : w.heap.size ≤ w'.heap.size) (hk : ∀ b, F b → b < w.heap.size → w'.heap[b]? = w.heap[b]?) : As cels sz t w' F v els := by
  obtain ⟨xs, ho, hv, G, hG, hD, hc⟩ := h.own
  refine ⟨xs, ⟨ho.1, ?_⟩, hv, G, hG, hD, fun i e hi j d hj => ?_⟩
  · rcases ho.2 with h0 | ⟨g, cap, cur, e, hB, hg, rest⟩
    · exact .inl h0
    · exact .inr ⟨g, cap, cur, e, hB, (hk g (hv g (by rw [e]; rfl)) (Array.getElem?_eq_some_iff.1 hg).1).trans hg, rest⟩
  · obtain ⟨x, hx, hr⟩ := hc i e hi j d hj
    exact ⟨x, hx, hr.keep hs fun b hb hl => hk b (hG i j b hb).1 hl⟩
theorem As.wider (h : As cels sz t w F v els) (hs : ∀ b, F b → H b) : As cels sz t w H v els := by
  obtain ⟨xs, ho, hv, G, hG, r⟩ := h.own
  exact ⟨xs, ho, fun b e => hs b (hv b e), G, fun i j b hb => ⟨hs b (hG i j b hb).1, (hG i j b hb).2⟩, r⟩
theorem As.below {C : Nat} (h : As cels sz t w F v els) (hb : Below C w w') (hC : w.heap.size ≤ C) : As cels sz t w' F v els := h.keep hb.size fun b _ hl => hb.block b (by omega)
theorem As.tu (h : As cels sz t w F v els) (k : Tu H w w') (hd : ∀ b, F b → ¬ H b) : As cels sz t w' F v els := h.keep k.size fun b hF hl => k.block b hl (hd b hF)
theorem Ap.as_ {B : Nat} (h : Ap cels sz t w B v els) : As cels sz t w (rng B w.heap.size) v els := by
  obtain ⟨xs, ho, G, hG, r⟩ := h.own
  refine ⟨xs, ⟨ho.1, ?_⟩, fun b e => ho.lt b e, G, fun i j b hb => ⟨⟨(hG i j b hb).1, (hG i j b hb).2.1⟩, (hG i j b hb).2.2⟩, r⟩
  rcases ho.2 with h0 | ⟨g, cap, cur, e, _, rest⟩
  · exact .inl h0
  · exact .inr ⟨g, cap, cur, e, Nat.zero_le _, rest⟩
/-- what it is as a slice -/
theorem As.lo (h : As cels sz t w F v els) {n : Nat} (hn : els.length = n) : ∃ A c, v = .slice A n c ∧ Rm A n c ∧ Lo cels sz w F A n els := by
  subst hn
  obtain ⟨xs, ho, hv, G, hG, hD, hc⟩ := h.own
  rcases ho.2 with ⟨rfl, h0⟩ | ⟨g, cap, cur, rfl, hB, hg, h1, h2, _, _⟩
  · rw [h0]
    refine ⟨none, 0, rfl, ⟨Nat.le_refl _, fun _ => rfl⟩, ?_⟩
    rw [List.length_eq_zero_iff.1 h0]
    exact Lo.nil_ _ _ _
  · refine ⟨_, _, rfl, ⟨h1, fun h => by cases h⟩, rfl, fun _ => ⟨g, 0, G, rfl, hv g rfl, (Array.getElem?_eq_some_iff.1 hg).1, fun i => by simp [World.frozen?, hg], fun i j b hb => ⟨(hG i j b hb).1, fun e => (hG i j b hb).2 (by rw [e]; rfl)⟩, hD, fun i e hi j d hj => ?_⟩⟩
    obtain ⟨x, hx, hr⟩ := hc i e hi j d hj
    refine ⟨x, ?_, hr⟩
    have := ho.cells (g := g) rfl (i * sz + j) x hx
    rw [Addr.add_mid] at this
    rw [Nat.add_assoc]
    exact this
end

/-- one element more: its runs lie in blocks of H -/
theorem run_as_append {E : Type} {cels : E → List Cel} {sz by_ : Nat} {t et : TypeId} {z : Value} (hu : Try.prog.underlying t = some (.slice et)) (hi : (Try.prog.info? et).map (fun i => (i.zero, i.size, i.bytes)) = some (some z, sz, by_)) (hz : z.cells.size = sz) (hsz : 0 < sz) (hby : by_ ≤ 1000) (hl : ∀ e : E, (cels e).length = sz)
    (w : World) (F H F' : Nat → Prop) (v : Value) (els : List E) (h : As cels sz et w F v els) (hn : els.length ≤ 10000000) (ty : TypeId)
    (ad : Addr) (c : Nat) (xs : List Value) (hxl : xs.length = sz) (hcell : ∀ j u, xs[j]? = some u → w.cell? (ad.add j) = some u) (h1 : ∀ u ∈ xs, u.oneCell' = true)
    (e : E) (Gn : Nat → Nat → Prop) (hGn : ∀ j b, Gn j b → H b) (hGd : ∀ j j' b, Gn j b → Gn j' b → j = j') (hHF : ∀ b, H b → ¬ F b) (hHl : ∀ b, H b → b < w.heap.size) (hF1 : ∀ b, F b → F' b) (hF2 : ∀ b, H b → F' b) (hF3 : F' w.heap.size)
    (hnew : ∀ (j : Nat) (d : Cel), (cels e)[j]? = some d → ∃ u : Value, xs[j]? = some u ∧ Cel.ow w (Gn j) u d) :
    ∃ v' w', (Builtin.append_ #[t, t] ty #[v, .slice (some ad) 1 c]).run Try.prog w = .ok v' w' ∧ As cels sz et w' F' v' (els ++ [e]) ∧ Tu F w w' ∧ Lay w v v' ∧ Else v w w' := by
  obtain ⟨i0, hi0, hz0, hz1, hz2⟩ := info_parts hi
  obtain ⟨ys, hown, hv, G, hG, hD, hc⟩ := h.own
  obtain ⟨v', w', hr, hown', hgrow, _, hat⟩ := run_append_own_at (P := Try.prog) w 0 t ty et i0 z sz by_ hu hi0 hz0 hz1 hz2 hz hsz v els.length ys hown ad 1 c xs (by omega) hcell h1 (by unfold maxLen; omega) (by
    have := Nat.mul_le_mul (show els.length + 1 ≤ 10000001 by omega) hby
    omega) (by omega)
  have hyl : ys.length = els.length * sz := hown.1
  have hvl : ∀ b, v.ownBlock = some b → b < w.heap.size := fun b hb => (hown.lt b hb).2
  have hs2 := hgrow.size
  have hk2 : ∀ b, b < w.heap.size → v.ownBlock ≠ some b → w'.heap[b]? = w.heap[b]? := fun b hl hne => hgrow.block b hl (fun e => hne e.symm)
  have hvH : ∀ b, H b → v.ownBlock ≠ some b := fun b hb e => hHF b hb (hv b e)
  refine ⟨v', w', hr, ⟨ys ++ xs, by simpa using hown', fun b e' => ?_, fun i j b => (i < els.length ∧ G i j b ∧ b < w.heap.size) ∨ (i = els.length ∧ Gn j b), fun i j b hb' => ?_, fun i j i' j' b h1 h2 => ?_, fun i el hi j d hj => ?_⟩, ⟨hgrow.os, hgrow.tape, hgrow.output, hgrow.size, fun k hk hx => hgrow.block k hk (fun e => hx (hv k e.symm))⟩, hat, fun g hg hne => hgrow.block g hg (fun e => hne e.symm)⟩
  · rcases hat with h1 | h1
    · exact hF1 b (hv b (h1.symm.trans e'))
    · rw [h1] at e'; injection e' with e'; exact e' ▸ hF3
  · have hne : ∀ b, b < w.heap.size → v.ownBlock ≠ some b → v'.ownBlock ≠ some b := fun b hl hn e' => by
      rcases hat with h1 | h1
      · exact hn (h1.symm.trans e')
      · rw [h1] at e'; injection e' with e'; omega
    rcases hb' with ⟨_, hb', hbl⟩ | ⟨_, hb'⟩
    · obtain ⟨q1, q2⟩ := hG i j b hb'
      exact ⟨hF1 b q1, hne b hbl q2⟩
    · have q1 := hGn j b hb'
      exact ⟨hF2 b q1, hne b (hHl b q1) (hvH b q1)⟩
  · rcases h1 with ⟨q1, h1, _⟩ | ⟨q1, h1⟩ <;> rcases h2 with ⟨q2, h2, _⟩ | ⟨q2, h2⟩
    · exact hD i j i' j' b h1 h2
    · exact absurd (hG i j b h1).1 (hHF b (hGn j' b h2))
    · exact absurd (hG i' j' b h2).1 (hHF b (hGn j b h1))
    · exact ⟨by omega, hGd j j' b h1 h2⟩
  · by_cases hil : i < els.length
    · rw [List.getElem?_append_left hil] at hi
      obtain ⟨x, hx, hr⟩ := hc i el hi j d hj
      have hj' : j < sz := by
        rw [← hl el]
        exact (List.getElem?_eq_some_iff.1 hj).1
      have hm : i * sz + j < els.length * sz := by
        have := Nat.mul_le_mul_right sz hil
        rw [Nat.succ_mul] at this
        omega
      refine ⟨x, by rw [List.getElem?_append_left (by rw [hyl]; exact hm)]; exact hx, ?_⟩
      cases d with
      | v y => exact hr
      | b l =>
        obtain ⟨A, m, c2, e2, hb2, hz2⟩ := hr
        refine ⟨A, m, c2, e2, ⟨hb2.len, hb2.byte, fun hn => ?_⟩, hz2⟩
        obtain ⟨b, e3, hGb, hlt, hcc, hff⟩ := hb2.at_ hn
        have hk := hk2 b hlt (hG i j b hGb).2
        exact ⟨b, e3, .inl ⟨hil, hGb, hlt⟩, Nat.lt_of_lt_of_le hlt hs2, fun q hq => (World.cell?_of_block (a := ⟨b, q, none⟩) hk).trans (hcc q hq), fun q => (World.frozen?_of_block (a := ⟨b, q, none⟩) hk).trans (hff q)⟩
    · have hie : i = els.length := by
        have := (List.getElem?_eq_some_iff.1 hi).1
        simp at this
        omega
      subst hie
      simp at hi
      subst hi
      obtain ⟨x, hx, hr⟩ := hnew j d hj
      refine ⟨x, by rw [List.getElem?_append_right (by rw [hyl]; omega), hyl, Nat.add_sub_cancel_left]; exact hx, (hr.keep hs2 fun b hb' hlb => hk2 b hlb (hvH b (hGn j b hb'))).wider fun b hb' => .inr ⟨rfl, hb'⟩⟩
theorem wpList_as_append {E : Type} {cels : E → List Cel} {sz by_ : Nat} {t et : TypeId} {z : Value} (hu : Try.prog.underlying t = some (.slice et)) (hi : (Try.prog.info? et).map (fun i => (i.zero, i.size, i.bytes)) = some (some z, sz, by_)) (hz : z.cells.size = sz) (hsz : 0 < sz) (hby : by_ ≤ 1000) (hl : ∀ e : E, (cels e).length = sz)
    {ops : Array Oper} {rest : List Oper} {o : Oper} {a : Act} {Q : Exit → Act → World → Prop} (hgd : o.guard = none) (s x : Operand)
    (ho : o.op = .call { callee := .builtin .append, args := #[s, x], argTypes := #[t, t] })
    (w : World) (F H F' : Nat → Prop) (v : Value) (els : List E) (h : As cels sz et w F v els) (hn : els.length ≤ 10000000) (hs : a.eval s = v)
    (ad : Addr) (c : Nat) (xs : List Value) (hx : a.eval x = .slice (some ad) 1 c) (hxl : xs.length = sz) (hcell : ∀ j u, xs[j]? = some u → w.cell? (ad.add j) = some u) (h1 : ∀ u ∈ xs, u.oneCell' = true)
    (e : E) (Gn : Nat → Nat → Prop) (hGn : ∀ j b, Gn j b → H b) (hGd : ∀ j j' b, Gn j b → Gn j' b → j = j') (hHF : ∀ b, H b → ¬ F b) (hHl : ∀ b, H b → b < w.heap.size) (hF1 : ∀ b, F b → F' b) (hF2 : ∀ b, H b → F' b) (hF3 : F' w.heap.size)
    (hnew : ∀ (j : Nat) (d : Cel), (cels e)[j]? = some d → ∃ u : Value, xs[j]? = some u ∧ Cel.ow w (Gn j) u d)
    (k : ∀ v' w', As cels sz et w' F' v' (els ++ [e]) → Tu F w w' → Lay w v v' → Else v w w' → wpList Try.prog ops Q rest (a.put o.dst v') w') : wpList Try.prog ops Q (o :: rest) a w := by
  refine wpList_plain hgd fun K hK => ?_
  obtain ⟨v', w', hr, q1, q2, q3, q4⟩ := run_as_append hu hi hz hsz hby hl w F H F' v els h hn o.type ad c xs hxl hcell h1 e Gn hGn hGd hHF hHl hF1 hF2 hF3 hnew
  unfold Oper.wp execOp
  simp only [ho, resolve, invoke, builtin, Sem.run_bind, Sem.run_pure, Result.andThen_ok, List.map_toArray, List.map_cons, List.map_nil, hs, hx, hr]
  exact hK _ _ (k v' w' q1 q2 q3 q4)
theorem step_as_append {E : Type} {cels : E → List Cel} {sz by_ : Nat} {t et : TypeId} {z : Value} (hu : Try.prog.underlying t = some (.slice et)) (hi : (Try.prog.info? et).map (fun i => (i.zero, i.size, i.bytes)) = some (some z, sz, by_)) (hz : z.cells.size = sz) (hsz : 0 < sz) (hby : by_ ≤ 1000) (hl : ∀ e : E, (cels e).length = sz)
    {ops : Array Oper} {o : Oper} {a : Act} {K : Act → World → Prop} {Q : Exit → Act → World → Prop} {Z : Prop} (hgd : o.guard = none) (s x : Operand)
    (ho : o.op = .call { callee := .builtin .append, args := #[s, x], argTypes := #[t, t] })
    (w : World) (F H F' : Nat → Prop) (v : Value) (els : List E) (h : As cels sz et w F v els) (hn : els.length ≤ 10000000) (hs : a.eval s = v)
    (ad : Addr) (c : Nat) (xs : List Value) (hx : a.eval x = .slice (some ad) 1 c) (hxl : xs.length = sz) (hcell : ∀ j u, xs[j]? = some u → w.cell? (ad.add j) = some u) (h1 : ∀ u ∈ xs, u.oneCell' = true)
    (e : E) (Gn : Nat → Nat → Prop) (hGn : ∀ j b, Gn j b → H b) (hGd : ∀ j j' b, Gn j b → Gn j' b → j = j') (hHF : ∀ b, H b → ¬ F b) (hHl : ∀ b, H b → b < w.heap.size) (hF1 : ∀ b, F b → F' b) (hF2 : ∀ b, H b → F' b) (hF3 : F' w.heap.size)
    (hnew : ∀ (j : Nat) (d : Cel), (cels e)[j]? = some d → ∃ u : Value, xs[j]? = some u ∧ Cel.ow w (Gn j) u d)
    (k : ∀ v' w', As cels sz et w' F' v' (els ++ [e]) → Tu F w w' → Lay w v v' → Else v w w' → K (a.put o.dst v') w') : if Region.wanted o (yielded ops a.tmps) = true then Oper.wp Try.prog o a w K Q else Z := by
  have hw : Region.wanted o (yielded ops a.tmps) = true := by simp [Region.wanted, hgd]
  rw [if_pos hw]
  obtain ⟨v', w', hr, q1, q2, q3, q4⟩ := run_as_append hu hi hz hsz hby hl w F H F' v els h hn o.type ad c xs hxl hcell h1 e Gn hGn hGd hHF hHl hF1 hF2 hF3 hnew
  unfold Oper.wp execOp
  simp only [ho, resolve, invoke, builtin, Sem.run_bind, Sem.run_pure, Result.andThen_ok, List.map_toArray, List.map_cons, List.map_nil, hs, hx, hr]
  exact k v' w' q1 q2 q3 q4

/-- such a list as a thing -/
def tA {E : Type} (cels : E → List Cel) (sz : Nat) (t : TypeId) (v : Value) (els : List E) : Thing := fun w F => As cels sz t w F v els
theorem okA {E : Type} (cels : E → List Cel) (sz : Nat) (t : TypeId) (v : Value) (els : List E) : (tA cels sz t v els).Ok := ⟨fun h hs hk => As.keep h hs hk, fun h hF => As.wider h hF⟩
def tG (v : Value) (els : List (List Int)) : Thing := tA bytC 1 23 v els
theorem okG (v : Value) (els : List (List Int)) : (tG v els).Ok := okA _ _ _ _ _
/-- three things, each in a range of its own, whatever their order -/
theorem sep3 {S T U : Thing} {w : World} {a1 b1 a2 b2 a3 b3 lo hi : Nat} (s : S w (rng a1 b1)) (t : T w (rng a2 b2)) (u : U w (rng a3 b3)) (h12 : b1 ≤ a2 ∨ b2 ≤ a1) (h13 : b1 ≤ a3 ∨ b3 ≤ a1) (h23 : b2 ≤ a3 ∨ b3 ≤ a2) (h1 : lo ≤ a1) (h1' : b1 ≤ hi) (h2 : lo ≤ a2) (h2' : b2 ≤ hi) (h3 : lo ≤ a3) (h3' : b3 ≤ hi) : Thing.sep S (Thing.sep T U) w (rng lo hi) :=
  ⟨rng a1 b1, fun b => rng a2 b2 b ∨ rng a3 b3 b, fun b hb => by unfold rng at *; omega, fun b hb => by unfold rng at *; omega, fun b hb hb' => by unfold rng at *; omega, s,
    rng a2 b2, rng a3 b3, fun b hb => .inl hb, fun b hb => .inr hb, fun b hb hb' => by unfold rng at *; omega, t, u⟩
end Go.Proofs.Ytpaemmoopjkppaa
