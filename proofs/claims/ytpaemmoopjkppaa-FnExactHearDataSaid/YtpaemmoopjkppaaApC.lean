import Derived.Test.YtpaemmoopjkppaaLstX
import Derived.Lib.SliceRun
/- Lists of structs of the call's own that are appended to; copies of bytes. -/
namespace Go.Proofs.Ytpaemmoopjkppaa
open Go.RowKit

/-- a slice value has room, and none of it where it is nil -/
def Rm (A : Option Addr) (n c : Nat) : Prop := n ≤ c ∧ (A = none → c = 0)
theorem Row.rm {w : World} {B n c : Nat} {A : Option Addr} {l : List Int} (h : Row w B (.slice A n c) l) (hl : l.length = n) : Rm A n c := by
  rcases h.own.2 with ⟨e, _⟩ | ⟨g, cap, cur, e, _, _, h1, _⟩
  · injection e with e1 e2 e3
    subst e1 e2 e3
    exact ⟨Nat.le_refl _, fun _ => rfl⟩
  · injection e with e1 e2 e3
    subst e1 e2 e3
    exact ⟨h1, fun h => by cases h⟩

theorem copy_own (A : Option Addr) (n c : Nat) (l : List Int) (w : World) (h : Bs w A n l) (hd : A = none → c = 0) (hn : n ≤ 100000000) :
    Calls Try.prog 59 #[.slice A n c] w fun e w' => (∃ A' c', e = .returned (.slice A' n c') ∧ Ow w' w.heap.size A' n l ∧ Rm A' n c') ∧ Below w.heap.size w w' := by
  have hl := h.len
  refine (copyb_any A n c l w h hd (by omega)).mono ?_
  rintro e w' ⟨⟨A', c', rfl, r⟩, b⟩
  exact ⟨⟨A', c', rfl, r.ow' hl, r.rm hl⟩, b⟩

set_option maxRecDepth 100000 in
set_option maxHeartbeats 1000000 in
theorem clone_any (A : Option Addr) (n c : Nat) (l : List Int) (w : World) (h : Bs w A n l) (hd : A = none → c = 0) (hn : n ≤ 100000000) :
    Calls Try.prog 46 #[.slice A n c] w fun e w' => (∃ A' c', e = .returned (.slice A' n c') ∧ Ow w' w.heap.size A' n l ∧ Rm A' n c') ∧ Below w.heap.size w w' := by
  have q22 : ∀ (w : World) (a : Option Addr) (n c n' c' : Nat), (binOp .eql 23 (.slice a n c) (.slice none n' c')).run Try.prog w = .ok (.bool a.isNone) w := fun w a n c n' c' => Lib.run_eql_slice_nil w _ _ a n c n' c' Try.underlying23
  have Hl := Shut.mk h.len
  cases A with
  | none =>
    have h0 : n = 0 := by
      rcases Nat.eq_zero_or_pos n with h0 | h0
      · exact h0
      · obtain ⟨b, off, e, _⟩ := h.at_ h0; cases e
    subst h0
    have hl : l = [] := List.eq_nil_of_length_eq_zero Hl.out
    subst hl
    go_enter Try.func46, Try.ntmps46
    go_wp2
    go_ret
    exact ⟨⟨none, 0, rfl, Ow.nil_ _ _, Nat.le_refl _, fun _ => rfl⟩, Below.refl _ _⟩
  | some a =>
    have e0 : Row (w.alloc (.cells #[] 5)) w.heap.size (.slice (some ⟨w.heap.size, 0, none⟩) 0 0) [] := Row.empty w #[] (Nat.le_refl _) rfl
    have h1 := h.below (ab (Below.refl _ w) (.cells #[] 5))
    clear hd
    go_enter Try.func46, Try.ntmps46
    go_wp2_with (at_builtin; refine wpList_row_join rfl _ _ rfl _ w.heap.size (.slice (some ⟨w.heap.size, 0, none⟩) 0 0) _ _ rfl e0 (by simp) (some a) n c rfl h1 (fun e => by cases e) (by simp; omega) ?_; intro v4 w4 hr4 hb4 hs4)
    obtain ⟨A5, c5, rfl, ho⟩ := hr4.ow Hl.out
    go_ret
    exact ⟨⟨A5, c5, rfl, ho, Row.rm hr4 Hl.out⟩, (ab (Below.refl _ w) _).trans hb4⟩

/-- v is a list els of the call's own, in blocks from B on, to be appended to -/
structure Ap {E : Type} (cels : E → List Cel) (sz : Nat) (t : TypeId) (w : World) (B : Nat) (v : Value) (els : List E) : Prop where
  own : ∃ xs, w.ownsRow B t sz v els.length xs ∧ ∃ G : Nat → Nat → Nat → Prop, (∀ i j b, G i j b → B ≤ b ∧ b < w.heap.size ∧ v.ownBlock ≠ some b) ∧ (∀ i j i' j' b, G i j b → G i' j' b → i = i' ∧ j = j') ∧
    ∀ i e, els[i]? = some e → ∀ j d, (cels e)[j]? = some d → ∃ x, xs[i * sz + j]? = some x ∧ d.ow w (G i j) x

section
variable {E : Type} {cels : E → List Cel} {sz : Nat} {t : TypeId} {w w' : World} {B : Nat} {v : Value} {els : List E}
theorem Ap.nil_ (w : World) (B : Nat) : Ap cels sz t w B (.slice none 0 0) ([] : List E) :=
  ⟨[], World.ownsRow_nil _ _ _ _, fun _ _ _ => False, fun _ _ _ h => h.elim, fun _ _ _ _ _ h => h.elim, fun i e h => by simp at h⟩
theorem Ap.keep (h : Ap cels sz t w B v els) (hs : w.heap.size ≤ w'.heap.size) (hk : ∀ b, B ≤ b → b < w.heap.size → w'.heap[b]? = w.heap[b]?) : Ap cels sz t w' B v els := by
  obtain ⟨xs, ho, G, hG, hD, hc⟩ := h.own
  refine ⟨xs, ⟨ho.1, ?_⟩, G, fun i j b hb => ⟨(hG i j b hb).1, Nat.lt_of_lt_of_le (hG i j b hb).2.1 hs, (hG i j b hb).2.2⟩, hD, fun i e hi j d hj => ?_⟩
  · rcases ho.2 with h0 | ⟨g, cap, cur, e, hB, hg, rest⟩
    · exact .inl h0
    · exact .inr ⟨g, cap, cur, e, hB, (hk g hB (Array.getElem?_eq_some_iff.1 hg).1).trans hg, rest⟩
  · obtain ⟨x, hx, hr⟩ := hc i e hi j d hj
    exact ⟨x, hx, hr.keep hs fun b hb hl => hk b (hG i j b hb).1 hl⟩
theorem Ap.below {C : Nat} (h : Ap cels sz t w B v els) (hb : Below C w w') (hC : w.heap.size ≤ C) : Ap cels sz t w' B v els := h.keep hb.size fun b _ hl => hb.block b (by omega)
theorem Ap.alloc (h : Ap cels sz t w B v els) (o : Obj) : Ap cels sz t (w.alloc o) B v els := h.below ((Below.refl w.heap.size w).alloc (Nat.le_refl _) o) (Nat.le_refl _)
theorem Ap.far (h : Ap cels sz t w B v els) {p : Addr} (hp : p.block < B) (u : Value) : Ap cels sz t (w.setCell p u) B v els :=
  h.keep (by rw [World.size_setCell]; exact Nat.le_refl _) fun b hb _ => Below.heap_setCell w p u b (by omega)
theorem Ap.drewN (h : Ap cels sz t w B v els) (q : Nat) : Ap cels sz t (w.drewN q) B v els := h.keep (Nat.le_refl _) fun _ _ _ => rfl
theorem Ap.mono {C : Nat} (h : Ap cels sz t w B v els) (hC : C ≤ B) : Ap cels sz t w C v els := by
  obtain ⟨xs, ho, G, hG, r⟩ := h.own
  refine ⟨xs, ⟨ho.1, ?_⟩, G, fun i j b hb => ⟨by have := (hG i j b hb).1; omega, (hG i j b hb).2⟩, r⟩
  rcases ho.2 with h0 | ⟨g, cap, cur, e, hB, rest⟩
  · exact .inl h0
  · exact .inr ⟨g, cap, cur, e, by omega, rest⟩
/-- what it is as a slice -/
theorem Ap.lo (h : Ap cels sz t w B v els) {n : Nat} (hn : els.length = n) : ∃ A c, v = .slice A n c ∧ Rm A n c ∧ Lo cels sz w (rng B w.heap.size) A n els := by
  subst hn
  obtain ⟨xs, ho, G, hG, hD, hc⟩ := h.own
  rcases ho.2 with ⟨rfl, h0⟩ | ⟨g, cap, cur, rfl, hB, hg, h1, h2, _, _⟩
  · rw [h0]
    refine ⟨none, 0, rfl, ⟨Nat.le_refl _, fun _ => rfl⟩, ?_⟩
    rw [List.length_eq_zero_iff.1 h0]
    exact Lo.nil_ _ _ _
  · refine ⟨_, _, rfl, ⟨h1, fun h => by cases h⟩, rfl, fun _ => ⟨g, 0, G, rfl, ⟨hB, (Array.getElem?_eq_some_iff.1 hg).1⟩, (Array.getElem?_eq_some_iff.1 hg).1, fun i => by simp [World.frozen?, hg], fun i j b hb => ⟨⟨(hG i j b hb).1, (hG i j b hb).2.1⟩, fun e => (hG i j b hb).2.2 (by rw [e]; rfl)⟩, hD, fun i e hi j d hj => ?_⟩⟩
    obtain ⟨x, hx, hr⟩ := hc i e hi j d hj
    refine ⟨x, ?_, hr⟩
    have := ho.cells (g := g) rfl (i * sz + j) x hx
    rw [Addr.add_mid] at this
    rw [Nat.add_assoc]
    exact this
/-- one element more, behind an append -/
theorem Ap.push {w1 w2 : World} {v' : Value} {ys xs : List Value} {G : Nat → Nat → Nat → Prop} (ho0 : w.ownsRow B t sz v els.length ys)
    (hG : ∀ i j b, G i j b → B ≤ b ∧ b < w.heap.size ∧ v.ownBlock ≠ some b) (hD : ∀ i j i' j' b, G i j b → G i' j' b → i = i' ∧ j = j')
    (hc : ∀ i e, els[i]? = some e → ∀ (j : Nat) (d : Cel), (cels e)[j]? = some d → ∃ x : Value, ys[i * sz + j]? = some x ∧ Cel.ow w (G i j) x d)
    (hb : Below w.heap.size w w1) (hB : B ≤ w.heap.size) (hl : ∀ e, (cels e).length = sz)
    (hown : w2.ownsRow B t sz v' (els.length + 1) (ys ++ xs)) (hgrow : w1.grownBy w2 v.ownBlock) (hlay : v'.ownBlock = v.ownBlock ∨ v'.ownBlock = some w1.heap.size)
    (e : E) (Gn : Nat → Nat → Prop) (hGn : ∀ j b, Gn j b → w.heap.size ≤ b ∧ b < w1.heap.size) (hGd : ∀ j j' b, Gn j b → Gn j' b → j = j')
    (hnew : ∀ (j : Nat) (d : Cel), (cels e)[j]? = some d → ∃ x : Value, xs[j]? = some x ∧ Cel.ow w1 (Gn j) x d) : Ap cels sz t w2 B v' (els ++ [e]) := by
  have hvl : ∀ b, v.ownBlock = some b → b < w.heap.size := fun b hb => (ho0.lt b hb).2
  have hsz := hb.size
  have hs2 := hgrow.size
  have hyl : ys.length = els.length * sz := ho0.1
  have hk2 : ∀ b, b < w1.heap.size → v.ownBlock ≠ some b → w2.heap[b]? = w1.heap[b]? := fun b hl hne => hgrow.block b hl (fun e => hne e.symm)
  refine ⟨ys ++ xs, ?_, fun i j b => (i < els.length ∧ G i j b) ∨ (i = els.length ∧ Gn j b), fun i j b hb' => ?_, fun i j i' j' b h1 h2 => ?_, fun i el hi j d hj => ?_⟩
  · simpa using hown
  · have hne : ∀ b, b < w1.heap.size → v.ownBlock ≠ some b → v'.ownBlock ≠ some b := fun b hl hn e' => by
      rcases hlay with h1 | h1
      · exact hn (h1.symm.trans e')
      · rw [h1] at e'; injection e' with e'; omega
    rcases hb' with ⟨_, hb'⟩ | ⟨_, hb'⟩
    · obtain ⟨q1, q2, q3⟩ := hG i j b hb'
      exact ⟨q1, by omega, hne b (by omega) q3⟩
    · obtain ⟨q1, q2⟩ := hGn j b hb'
      exact ⟨by omega, by omega, hne b q2 (fun e' => by have := hvl b e'; omega)⟩
  · rcases h1 with ⟨q1, h1⟩ | ⟨q1, h1⟩ <;> rcases h2 with ⟨q2, h2⟩ | ⟨q2, h2⟩
    · exact hD i j i' j' b h1 h2
    · have := (hG i j b h1).2.1; have := (hGn j' b h2).1; omega
    · have := (hG i' j' b h2).2.1; have := (hGn j b h1).1; omega
    · exact ⟨by omega, hGd j j' b h1 h2⟩
  · by_cases hil : i < els.length
    · rw [List.getElem?_append_left hil] at hi
      obtain ⟨x, hx, hr⟩ := hc i el hi j d hj
      have hj' : j < sz := by
        rw [← hl el]
        exact (List.getElem?_eq_some_iff.1 hj).1
      have hm : i * sz + j < els.length * sz := by
        have := Nat.mul_le_mul_right sz hil
        rw [Nat.succ_mul] at this
        omega
      refine ⟨x, by rw [List.getElem?_append_left (by rw [hyl]; exact hm)]; exact hx, (hr.keep (by omega) fun b hb' hlb => ?_).wider fun b hb' => .inl ⟨hil, hb'⟩⟩
      rw [hk2 b (by omega) (hG i j b hb').2.2]
      exact hb.block b hlb
    · have hie : i = els.length := by
        have := (List.getElem?_eq_some_iff.1 hi).1
        simp at this
        omega
      subst hie
      simp at hi
      subst hi
      obtain ⟨x, hx, hr⟩ := hnew j d hj
      refine ⟨x, by rw [List.getElem?_append_right (by rw [hyl]; omega), hyl, Nat.add_sub_cancel_left]; exact hx, (hr.keep hs2 fun b hb' hlb => hk2 b hlb fun e' => ?_).wider fun b hb' => .inr ⟨rfl, hb'⟩⟩
      have := hvl b e'
      have := (hGn j b hb').1
      omega
end

/-- what an append of one element leaves -/
theorem run_ap_append {E : Type} {cels : E → List Cel} {sz by_ : Nat} {t et : TypeId} {z : Value} (hu : Try.prog.underlying t = some (.slice et)) (hi : (Try.prog.info? et).map (fun i => (i.zero, i.size, i.bytes)) = some (some z, sz, by_)) (hz : z.cells.size = sz) (hsz : 0 < sz) (hby : by_ ≤ 1000) (hl : ∀ e : E, (cels e).length = sz)
    (w0 w : World) (B : Nat) (v : Value) (els : List E) (h : Ap cels sz et w0 B v els) (hb : Below w0.heap.size w0 w) (hB : B ≤ w0.heap.size) (hn : els.length ≤ 10000000) (ty : TypeId)
    (ad : Addr) (c : Nat) (xs : List Value) (hxl : xs.length = sz) (hcell : ∀ j u, xs[j]? = some u → w.cell? (ad.add j) = some u) (h1 : ∀ u ∈ xs, u.oneCell' = true)
    (e : E) (Gn : Nat → Nat → Prop) (hGn : ∀ j b, Gn j b → w0.heap.size ≤ b ∧ b < w.heap.size) (hGd : ∀ j j' b, Gn j b → Gn j' b → j = j')
    (hnew : ∀ (j : Nat) (d : Cel), (cels e)[j]? = some d → ∃ u : Value, xs[j]? = some u ∧ Cel.ow w (Gn j) u d) :
    ∃ v' w', (Builtin.append_ #[t, t] ty #[v, .slice (some ad) 1 c]).run Try.prog w = .ok v' w' ∧ Ap cels sz et w' B v' (els ++ [e]) ∧ Below B w w' ∧ Lay w v v' ∧ Else v w w' := by
  obtain ⟨i0, hi0, hz0, hz1, hz2⟩ := info_parts hi
  obtain ⟨ys, hown, G, hG, hD, hc⟩ := h.own
  have hsize := hb.size
  have hown1 : w.ownsRow B et sz v els.length ys := by
    refine ⟨hown.1, ?_⟩
    rcases hown.2 with h0 | ⟨g, cap, cur, e, hBg, hg, rest⟩
    · exact .inl h0
    · exact .inr ⟨g, cap, cur, e, hBg, (hb.block g (Array.getElem?_eq_some_iff.1 hg).1).trans hg, rest⟩
  obtain ⟨v', w', hr, hown', hgrow, _, hat⟩ := run_append_own_at (P := Try.prog) w B t ty et i0 z sz by_ hu hi0 hz0 hz1 hz2 hz hsz v els.length ys hown1 ad 1 c xs (by omega) hcell h1 (by unfold maxLen; omega) (by
    have := Nat.mul_le_mul (show els.length + 1 ≤ 10000001 by omega) hby
    omega) (by omega)
  refine ⟨v', w', hr, Ap.push hown hG hD hc hb hB hl hown' hgrow hat e Gn hGn hGd hnew, ⟨hgrow.os, hgrow.tape, hgrow.output, hgrow.size, fun k hk => hgrow.block k (by omega) (fun e => ?_)⟩, hat, fun g hg hne => hgrow.block g hg (fun e => hne e.symm)⟩
  have := (hown.lt k e.symm).1
  omega
theorem wpList_ap_append {E : Type} {cels : E → List Cel} {sz by_ : Nat} {t et : TypeId} {z : Value} (hu : Try.prog.underlying t = some (.slice et)) (hi : (Try.prog.info? et).map (fun i => (i.zero, i.size, i.bytes)) = some (some z, sz, by_)) (hz : z.cells.size = sz) (hsz : 0 < sz) (hby : by_ ≤ 1000) (hl : ∀ e : E, (cels e).length = sz)
    {ops : Array Oper} {rest : List Oper} {o : Oper} {a : Act} {Q : Exit → Act → World → Prop} (hgd : o.guard = none) (s x : Operand)
    (ho : o.op = .call { callee := .builtin .append, args := #[s, x], argTypes := #[t, t] })
    (w0 w : World) (B : Nat) (v : Value) (els : List E) (h : Ap cels sz et w0 B v els) (hb : Below w0.heap.size w0 w) (hB : B ≤ w0.heap.size) (hs : a.eval s = v) (hn : els.length ≤ 10000000)
    (ad : Addr) (c : Nat) (xs : List Value) (hx : a.eval x = .slice (some ad) 1 c) (hxl : xs.length = sz) (hcell : ∀ j u, xs[j]? = some u → w.cell? (ad.add j) = some u) (h1 : ∀ u ∈ xs, u.oneCell' = true)
    (e : E) (Gn : Nat → Nat → Prop) (hGn : ∀ j b, Gn j b → w0.heap.size ≤ b ∧ b < w.heap.size) (hGd : ∀ j j' b, Gn j b → Gn j' b → j = j')
    (hnew : ∀ (j : Nat) (d : Cel), (cels e)[j]? = some d → ∃ u : Value, xs[j]? = some u ∧ Cel.ow w (Gn j) u d)
    (k : ∀ v' w', Ap cels sz et w' B v' (els ++ [e]) → Below B w w' → Lay w v v' → Else v w w' → wpList Try.prog ops Q rest (a.put o.dst v') w') : wpList Try.prog ops Q (o :: rest) a w := by
  refine wpList_plain hgd fun K hK => ?_
  obtain ⟨v', w', hr, q1, q2, q3, q4⟩ := run_ap_append hu hi hz hsz hby hl w0 w B v els h hb hB hn o.type ad c xs hxl hcell h1 e Gn hGn hGd hnew
  unfold Oper.wp execOp
  simp only [ho, resolve, invoke, builtin, Sem.run_bind, Sem.run_pure, Result.andThen_ok, List.map_toArray, List.map_cons, List.map_nil, hs, hx, hr]
  exact hK _ _ (k v' w' q1 q2 q3 q4)
theorem step_ap_append {E : Type} {cels : E → List Cel} {sz by_ : Nat} {t et : TypeId} {z : Value} (hu : Try.prog.underlying t = some (.slice et)) (hi : (Try.prog.info? et).map (fun i => (i.zero, i.size, i.bytes)) = some (some z, sz, by_)) (hz : z.cells.size = sz) (hsz : 0 < sz) (hby : by_ ≤ 1000) (hl : ∀ e : E, (cels e).length = sz)
    {ops : Array Oper} {o : Oper} {a : Act} {K : Act → World → Prop} {Q : Exit → Act → World → Prop} {Z : Prop} (hgd : o.guard = none) (s x : Operand)
    (ho : o.op = .call { callee := .builtin .append, args := #[s, x], argTypes := #[t, t] })
    (w0 w : World) (B : Nat) (v : Value) (els : List E) (h : Ap cels sz et w0 B v els) (hb : Below w0.heap.size w0 w) (hB : B ≤ w0.heap.size) (hs : a.eval s = v) (hn : els.length ≤ 10000000)
    (ad : Addr) (c : Nat) (xs : List Value) (hx : a.eval x = .slice (some ad) 1 c) (hxl : xs.length = sz) (hcell : ∀ j u, xs[j]? = some u → w.cell? (ad.add j) = some u) (h1 : ∀ u ∈ xs, u.oneCell' = true)
    (e : E) (Gn : Nat → Nat → Prop) (hGn : ∀ j b, Gn j b → w0.heap.size ≤ b ∧ b < w.heap.size) (hGd : ∀ j j' b, Gn j b → Gn j' b → j = j')
    (hnew : ∀ (j : Nat) (d : Cel), (cels e)[j]? = some d → ∃ u : Value, xs[j]? = some u ∧ Cel.ow w (Gn j) u d)
    (k : ∀ v' w', Ap cels sz et w' B v' (els ++ [e]) → Below B w w' → Lay w v v' → Else v w w' → K (a.put o.dst v') w') : if Region.wanted o (yielded ops a.tmps) = true then Oper.wp Try.prog o a w K Q else Z := by
  have hw : Region.wanted o (yielded ops a.tmps) = true := by simp [Region.wanted, hgd]
  rw [if_pos hw]
  obtain ⟨v', w', hr, q1, q2, q3, q4⟩ := run_ap_append hu hi hz hsz hby hl w0 w B v els h hb hB hn o.type ad c xs hxl hcell h1 e Gn hGn hGd hnew
  unfold Oper.wp execOp
  simp only [ho, resolve, invoke, builtin, Sem.run_bind, Sem.run_pure, Result.andThen_ok, List.map_toArray, List.map_cons, List.map_nil, hs, hx, hr]
  exact k v' w' q1 q2 q3 q4
end Go.Proofs.Ytpaemmoopjkppaa
