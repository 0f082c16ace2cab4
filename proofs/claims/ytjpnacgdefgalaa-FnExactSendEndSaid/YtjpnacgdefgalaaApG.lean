/- A list of the call's own that is appended to in the rounds of a range over a function. -/
import Derived.Test.YtjpnacgdefgalaaApC
import Derived.Test.YtjpnacgdefgalaaChunk32P
import Derived.Test.YtjpnacgdefgalaaRoundP
namespace Go.Proofs.Ytjpnacgdefgalaa
open Go.RowKit Go.Shelf

theorem keepsOthers_bw {W W' : World} (h : Below W.heap.size W W') : KeepsOthers W W' := ⟨h.size, fun k _ hk _ => (h.block k (Array.getElem?_eq_some_iff.1 hk).1).trans hk⟩
theorem cells_of_cell {w : World} {b i : Nat} {v : Value} (h : w.cell? ⟨b, i, none⟩ = some v) : ∃ o, w.heap[b]? = some o ∧ o.isCells = true := by
  unfold World.cell? at h
  dsimp only at h
  split at h
  · rename_i cs t sp e
    exact ⟨_, e, rfl⟩
  · cases h
theorem Bo.grown {w w' : World} {F : Nat → Prop} {A : Option Addr} {n : Nat} {l : List Int} {row : Option Nat} (h : Bo w F A n l) (hg : w.grownBy w' row) (hr : ∀ r, row = some r → ∃ o : Obj, w.heap[r]? = some o ∧ o.isCells = false) : Bo w' F A n l :=
  ⟨h.len, h.byte, fun hn => by
    obtain ⟨b, e, hF, hlt, hc, hf⟩ := h.at_ hn
    obtain ⟨o, ho, hco⟩ := cells_of_cell (hc 0 hn)
    have hk := grownBy_keeps_cells hg hr ho hco
    exact ⟨b, e, hF, Nat.lt_of_lt_of_le hlt hg.size, fun i hi => (World.cell?_of_block (a := ⟨b, i, none⟩) hk).trans (hc i hi), fun i => (World.frozen?_of_block (a := ⟨b, i, none⟩) hk).trans (hf i)⟩⟩
theorem Cel.ow.grown {w w' : World} {F : Nat → Prop} {x : Value} {d : Cel} {row : Option Nat} (h : d.ow w F x) (hg : w.grownBy w' row) (hr : ∀ r, row = some r → ∃ o : Obj, w.heap[r]? = some o ∧ o.isCells = false) : d.ow w' F x := by
  cases d with
  | v y => exact h
  | b l =>
    obtain ⟨A, n, c, e, hb, hc⟩ := h
    exact ⟨A, n, c, e, hb.grown hg hr, hc⟩
theorem Lo.grown {E : Type} {cels : E → List Cel} {sz : Nat} {w w' : World} {F : Nat → Prop} {A : Option Addr} {n : Nat} {els : List E} {row : Option Nat} (h : Lo cels sz w F A n els) (hl : ∀ e, 0 < (cels e).length) (hg : w.grownBy w' row) (hr : ∀ r, row = some r → ∃ o : Obj, w.heap[r]? = some o ∧ o.isCells = false) : Lo cels sz w' F A n els :=
  ⟨h.len, fun hn => by
    obtain ⟨g, off, G, e, hF, hlt, hf, hG, hD, hc⟩ := h.at_ hn
    have he : els[0]? = some (els[0]'(by rw [h.len]; exact hn)) := List.getElem?_eq_getElem _
    obtain ⟨x, hx, _⟩ := hc 0 _ he 0 _ (List.getElem?_eq_getElem (hl _))
    obtain ⟨o, ho, hco⟩ := cells_of_cell hx
    have hk := grownBy_keeps_cells hg hr ho hco
    refine ⟨g, off, G, e, hF, Nat.lt_of_lt_of_le hlt hg.size, fun i => (World.frozen?_of_block (a := ⟨g, i, none⟩) hk).trans (hf i), hG, hD, fun i el hi j d hj => ?_⟩
    obtain ⟨x, hx, hr'⟩ := hc i el hi j d hj
    exact ⟨x, (World.cell?_of_block (a := ⟨g, _, none⟩) hk).trans hx, hr'.grown hg hr⟩⟩
theorem Ap.grown {E : Type} {cels : E → List Cel} {sz : Nat} {t : TypeId} {w w' : World} {B : Nat} {v : Value} {els : List E} {row : Option Nat} (h : Ap cels sz t w B v els) (hg : w.grownBy w' row) (hr : ∀ r, row = some r → ∃ o : Obj, w.heap[r]? = some o ∧ o.isCells = false) : Ap cels sz t w' B v els := by
  obtain ⟨xs, ho, G, hG, hD, hc⟩ := h.own
  refine ⟨xs, ho.kept hg ?_, G, fun i j b hb => ⟨(hG i j b hb).1, Nat.lt_of_lt_of_le (hG i j b hb).2.1 hg.size, (hG i j b hb).2.2⟩, hD, fun i e hi j d hj => ?_⟩
  · rcases ho.2 with ⟨e, _⟩ | ⟨g, cap, cur, e, _, hgb, _⟩
    · exact .inl (by rw [e]; rfl)
    · refine .inr fun e' => ?_
      rw [e] at e'
      obtain ⟨o, ho', hc'⟩ := hr g (by simpa [Value.ownBlock] using e'.symm)
      rw [hgb] at ho'; cases ho'; cases hc'
  · obtain ⟨x, hx, hw⟩ := hc i e hi j d hj
    exact ⟨x, hx, hw.grown hg hr⟩
theorem Ap.own_ {E : Type} {cels : E → List Cel} {sz : Nat} {t : TypeId} {β : Type} (B x : Nat) (bt : TypeId) (f : β → List E) : Own (fun s W => ∃ v, Boxed W x bt v ∧ Ap cels sz t W B v (f s)) := by
  rintro s X Y row ⟨v, hv, hap⟩ hg hr
  refine ⟨v, hv.kept hg (fun e' => ?_), hap.grown hg hr⟩
  obtain ⟨o, ho, hc⟩ := hr x e'.symm
  rw [show X.heap[x]? = _ from hv] at ho; cases ho; cases hc

/-- an element put behind a list of the call's own, as one step of a region inside a fence -/
theorem stepIn_ap_append {E : Type} {cels : E → List Cel} {sz by_ : Nat} {t et : TypeId} {z : Value} (hu : Try.prog.underlying t = some (.slice et)) (hi : (Try.prog.info? et).map (fun i => (i.zero, i.size, i.bytes)) = some (some z, sz, by_)) (hz : z.cells.size = sz) (hsz : 0 < sz) (hby : by_ ≤ 1000) (hl : ∀ e : E, (cels e).length = sz)
    {F : Fence} {fu : Nat} {ops : Array Oper} {o : Oper} {a : Act} {K : Act → World → Prop} {Q : Exit → Act → World → Prop} {Z : Prop} (hgd : o.guard = none) (s x : Operand)
    (ho : o.op = .call { callee := .builtin .append, args := #[s, x], argTypes := #[t, t] })
    (w0 w : World) (B : Nat) (v : Value) (els : List E) (h : Ap cels sz et w0 B v els) (hb : Below w0.heap.size w0 w) (hB : B ≤ w0.heap.size) (hs : a.eval s = v) (hn : els.length ≤ 10000000)
    (ad : Addr) (c : Nat) (xs : List Value) (hx : a.eval x = .slice (some ad) 1 c) (hxl : xs.length = sz) (hcell : ∀ j u, xs[j]? = some u → w.cell? (ad.add j) = some u) (h1 : ∀ u ∈ xs, u.oneCell' = true)
    (e : E) (Gn : Nat → Nat → Prop) (hGn : ∀ j b, Gn j b → w0.heap.size ≤ b ∧ b < w.heap.size) (hGd : ∀ j j' b, Gn j b → Gn j' b → j = j')
    (hnew : ∀ (j : Nat) (d : Cel), (cels e)[j]? = some d → ∃ u : Value, xs[j]? = some u ∧ Cel.ow w (Gn j) u d)
    (k : ∀ v' w', Ap cels sz et w' B v' (els ++ [e]) → Below B w w' → KeepsOthers w w' → K (a.put o.dst v') w') : if Region.wanted o (yielded ops a.tmps) = true then Oper.wpIn F fu Try.prog o a w K Q else Z := by
  have hw : Region.wanted o (yielded ops a.tmps) = true := by simp [Region.wanted, hgd]
  rw [if_pos hw]
  obtain ⟨i0, hi0, hz0, hz1, hz2⟩ := info_parts hi
  obtain ⟨ys, hown, G, hG, hD, hc⟩ := h.own
  have hsize := hb.size
  have hown1 : w.ownsRow B et sz v els.length ys := by
    refine ⟨hown.1, ?_⟩
    rcases hown.2 with h0 | ⟨g, cap, cur, e, hBg, hg, rest⟩
    · exact .inl h0
    · exact .inr ⟨g, cap, cur, e, hBg, (hb.block g (Array.getElem?_eq_some_iff.1 hg).1).trans hg, rest⟩
  obtain ⟨v', w', hr, hown', hgrow, _, hat⟩ := run_append_own_at (P := Try.prog) w B t o.type et i0 z sz by_ hu hi0 hz0 hz1 hz2 hz hsz v els.length ys hown1 ad 1 c xs (by omega) hcell h1 (by unfold maxLen; omega) (by
    have := Nat.mul_le_mul (show els.length + 1 ≤ 10000001 by omega) hby
    omega) (by omega)
  have hK := k v' w' (Ap.push hown hG hD hc hb hB hl hown' hgrow hat e Gn hGn hGd hnew) ⟨hgrow.os, hgrow.tape, hgrow.output, hgrow.size, fun k hk => hgrow.block k (by omega) (fun e => by have := (hown.lt k e.symm).1; omega)⟩ (KeepsOthers.of_grownBy hgrow fun j o ej hj => by
    rcases hown1.2 with ⟨e0, _⟩ | ⟨g1, cap, cur, e0, _, hgb, _⟩
    · rw [e0] at ej; simp [Value.ownBlock] at ej
    · rw [e0] at ej
      obtain rfl : g1 = j := by simpa [Value.ownBlock] using ej
      rw [hgb] at hj; cases hj; rfl)
  unfold Oper.wpIn
  refine ⟨?_, ?_⟩
  · simp [Oper.about, ho, resolve, Target.leads, Sem.run_pure]
  · rw [Oper.semAt_plain F _ _ (by rw [ho]; intro c hc'; cases hc')]
    simp [execOp, ho, resolve, invoke, builtin, hs, hx, hr, Result.andThen]
    exact hK
end Go.Proofs.Ytjpnacgdefgalaa
