/- Many elements put behind a list of the call's own. -/
import Derived.Test.YtgmbofoneeagiaaApX
namespace Go.Proofs.Ytgmbofoneeagiaa
open Go.RowKit

/-- the cells of a list of the call's own -/
theorem Lo.cellsL {E : Type} {cels : E → List Cel} {sz : Nat} {w : World} {F : Nat → Prop} {A : Option Addr} {n : Nat} {els : List E} (h : Lo cels sz w F A n els) (hn : 0 < n) (hl : ∀ e, (cels e).length = sz) (h1 : ∀ (e : E) (j : Nat) (y : Value), (cels e)[j]? = some (Cel.v y) → y.oneCell' = true) :
    ∃ g off, ∃ G : Nat → Nat → Nat → Prop, A = some ⟨g, off, none⟩ ∧ F g ∧ g < w.heap.size ∧ (∀ i j b, G i j b → F b ∧ b ≠ g) ∧ (∀ i j i' j' b, G i j b → G i' j' b → i = i' ∧ j = j') ∧
      ∃ xs : List Value, xs.length = n * sz ∧ (∀ m u, xs[m]? = some u → w.cell? ⟨g, off + m, none⟩ = some u) ∧ (∀ u ∈ xs, u.oneCell' = true) ∧
      ∀ i e, els[i]? = some e → ∀ j d, (cels e)[j]? = some d → ∃ x, xs[i * sz + j]? = some x ∧ d.ow w (G i j) x := by
  obtain ⟨g, off, G, rfl, hF, hlt, hf, hG, hD, hc⟩ := h.at_ hn
  have hlen := h.len
  have key : ∀ i j, i < n → j < sz → ∃ e d x, els[i]? = some e ∧ (cels e)[j]? = some d ∧ w.cell? ⟨g, off + i * sz + j, none⟩ = some x ∧ d.ow w (G i j) x := by
    intro i j hi hj
    have he : els[i]? = some (els[i]'(by omega)) := List.getElem?_eq_getElem _
    have hj' : j < (cels (els[i]'(by omega))).length := by rw [hl]; exact hj
    have hd : (cels (els[i]'(by omega)))[j]? = some ((cels (els[i]'(by omega)))[j]) := List.getElem?_eq_getElem hj'
    obtain ⟨x, hx, ho⟩ := hc i _ he j _ hd
    exact ⟨_, _, x, he, hd, hx, ho⟩
  refine ⟨g, off, G, rfl, hF, hlt, hG, hD, (List.range (n * sz)).map fun m => (w.cell? ⟨g, off + m, none⟩).getD undef, by simp, fun m u hu => ?_, fun u hu => ?_, fun i e hi j d hj => ?_⟩
  · have hm : m < n * sz := by
      have := (List.getElem?_eq_some_iff.1 hu).1
      simpa using this
    have hsz : 0 < sz := by
      rcases Nat.eq_zero_or_pos sz with h0 | h0
      · rw [h0] at hm; omega
      · exact h0
    obtain ⟨e, d, x, _, _, hx, _⟩ := key (m / sz) (m % sz) (Nat.div_lt_of_lt_mul (by rw [Nat.mul_comm]; exact hm)) (Nat.mod_lt _ hsz)
    have hdm : off + m / sz * sz + m % sz = off + m := by rw [Nat.add_assoc, Nat.mul_comm, Nat.div_add_mod]
    rw [hdm] at hx
    rw [List.getElem?_map, List.getElem?_range hm] at hu
    simp only [Option.map_some, hx, Option.getD_some, Option.some.injEq] at hu
    rw [← hu]
    exact hx
  · obtain ⟨m, hm, rfl⟩ := List.mem_map.1 hu
    have hm := List.mem_range.1 hm
    have hsz : 0 < sz := by
      rcases Nat.eq_zero_or_pos sz with h0 | h0
      · rw [h0] at hm; omega
      · exact h0
    obtain ⟨e, d, x, he, hd, hx, ho⟩ := key (m / sz) (m % sz) (Nat.div_lt_of_lt_mul (by rw [Nat.mul_comm]; exact hm)) (Nat.mod_lt _ hsz)
    have hdm : off + m / sz * sz + m % sz = off + m := by rw [Nat.add_assoc, Nat.mul_comm, Nat.div_add_mod]
    rw [hdm] at hx
    simp only [hx, Option.getD_some]
    cases d with
    | v y => rw [show x = y from ho]; exact h1 e _ y hd
    | b l => obtain ⟨A, n, c, rfl, _⟩ := ho; rfl
  · obtain ⟨x, hx, ho⟩ := hc i e hi j d hj
    refine ⟨x, ?_, ho⟩
    have hi' : i < n := by have := (List.getElem?_eq_some_iff.1 hi).1; omega
    have hj' : j < sz := by rw [← hl e]; exact (List.getElem?_eq_some_iff.1 hj).1
    have hm : i * sz + j < n * sz := by
      have := Nat.mul_le_mul_right sz hi'
      rw [Nat.succ_mul] at this
      omega
    rw [List.getElem?_map, List.getElem?_range hm]
    rw [Nat.add_assoc] at hx
    simp only [Option.map_some, hx, Option.getD_some]

/-- many more, behind an append: their runs lie below all that is there -/
theorem run_ap_many {E : Type} {cels : E → List Cel} {sz by_ : Nat} {t et : TypeId} {z : Value} (hu : Try.prog.underlying t = some (.slice et)) (hi : (Try.prog.info? et).map (fun i => (i.zero, i.size, i.bytes)) = some (some z, sz, by_)) (hz : z.cells.size = sz) (hsz : 0 < sz) (hby : by_ ≤ 1000) (hl : ∀ e : E, (cels e).length = sz) (hone : ∀ (e : E) (j : Nat) (y : Value), (cels e)[j]? = some (Cel.v y) → y.oneCell' = true)
    (w : World) (B B' : Nat) (v : Value) (els : List E) (h : Ap cels sz et w B v els) (hB : B ≤ w.heap.size) (hB' : B' ≤ B) (hn : els.length ≤ 10000000) (ty : TypeId)
    (F : Nat → Prop) (A : Option Addr) (k c : Nat) (more : List E) (hm : Lo cels sz w F A k more) (hk : 0 < k) (hk2 : k ≤ 10000000) (hF : ∀ b, F b → B' ≤ b ∧ b < B) (X : Nat → Prop) (hX : ∀ b, X b → b < B ∧ ¬ F b) :
    ∃ v' w', (Builtin.append_ #[t, t] ty #[v, .slice A k c]).run Try.prog w = .ok v' w' ∧ Apx cels sz et w' B' X v' (els ++ more) ∧ Below B w w' ∧ Lay w v v' ∧ Else v w w' := by
  obtain ⟨i0, hi0, hz0, hz1, hz2⟩ := info_parts hi
  obtain ⟨ys, hown, G, hG, hD, hc⟩ := h.own
  obtain ⟨g, off, Gm, rfl, hFg, hgl, hGm, hDm, xs, hxl, hxc, hx1, hxo⟩ := hm.cellsL hk hl hone
  have hlen := hm.len
  obtain ⟨v', w', hr, hown', hgrow, _, hat⟩ := run_append_own_at (P := Try.prog) w B t ty et i0 z sz by_ hu hi0 hz0 hz1 hz2 hz hsz v els.length ys hown ⟨g, off, none⟩ k c xs hxl
    (fun j u hj => by rw [Addr.add_lit]; exact hxc j u hj) hx1 (by unfold maxLen; omega) (by
    have := Nat.mul_le_mul (show els.length + k ≤ 20000000 by omega) hby
    omega) (by omega)
  have hyl : ys.length = els.length * sz := hown.1
  have hvl : ∀ b, v.ownBlock = some b → B ≤ b ∧ b < w.heap.size := fun b hb => hown.lt b hb
  have hk2 : ∀ b, b < w.heap.size → v.ownBlock ≠ some b → w'.heap[b]? = w.heap[b]? := fun b hl hne => hgrow.block b hl (fun e => hne e.symm)
  have hs2 := hgrow.size
  have hnm : ∀ b, F b → v.ownBlock ≠ some b := fun b hb e => by have := hvl b e; have := hF b hb; omega
  refine ⟨v', w', hr, ⟨ys ++ xs, ?_, fun b hx e => ?_, fun i j b => (i < els.length ∧ G i j b) ∨ (els.length ≤ i ∧ Gm (i - els.length) j b), fun i j b hb' => ?_, fun i j i' j' b h1 h2 => ?_, fun i el hi j d hj => ?_⟩, ⟨hgrow.os, hgrow.tape, hgrow.output, hgrow.size, fun q hq => hgrow.block q (by omega) (fun e => by have := hvl q e.symm; omega)⟩, hat, fun g hg hne => hgrow.block g hg (fun e => hne e.symm)⟩
  · have ho : w'.ownsRow B' et sz v' (els.length + k) (ys ++ xs) := by
      refine ⟨hown'.1, ?_⟩
      rcases hown'.2 with h0 | ⟨g, cap, cur, e, hBg, rest⟩
      · exact .inl h0
      · exact .inr ⟨g, cap, cur, e, by omega, rest⟩
    rw [List.length_append, hlen]
    exact ho
  · have h7 := hX b hx
    rcases hat with h1 | h1
    · have := hvl b (h1.symm.trans e); omega
    · rw [h1] at e; injection e with e; omega
  · have hne : ∀ b, b < w.heap.size → v.ownBlock ≠ some b → v'.ownBlock ≠ some b := fun b hl hn e' => by
      rcases hat with h1 | h1
      · exact hn (h1.symm.trans e')
      · rw [h1] at e'; injection e' with e'; omega
    rcases hb' with ⟨_, hb'⟩ | ⟨_, hb'⟩
    · obtain ⟨q1, q2, q3⟩ := hG i j b hb'
      exact ⟨by omega, by omega, hne b (by omega) q3, fun hx => by have := (hX b hx).1; omega⟩
    · obtain ⟨q1, q2⟩ := hGm _ j b hb'
      have := hF b q1
      exact ⟨by omega, by omega, hne b (by omega) (hnm b q1), fun hx => (hX b hx).2 q1⟩
  · rcases h1 with ⟨q1, h1⟩ | ⟨q1, h1⟩ <;> rcases h2 with ⟨q2, h2⟩ | ⟨q2, h2⟩
    · exact hD i j i' j' b h1 h2
    · have := (hG i j b h1).1; have := hF b (hGm _ j' b h2).1; omega
    · have := (hG i' j' b h2).1; have := hF b (hGm _ j b h1).1; omega
    · have := hDm _ j _ j' b h1 h2; exact ⟨by omega, this.2⟩
  · by_cases hil : i < els.length
    · rw [List.getElem?_append_left hil] at hi
      obtain ⟨x, hx, hr⟩ := hc i el hi j d hj
      have hj' : j < sz := by
        rw [← hl el]
        exact (List.getElem?_eq_some_iff.1 hj).1
      have hm : i * sz + j < els.length * sz := by
        have := Nat.mul_le_mul_right sz hil
        rw [Nat.succ_mul] at this
        omega
      refine ⟨x, by rw [List.getElem?_append_left (by rw [hyl]; exact hm)]; exact hx, (hr.keep hs2 fun b hb' hlb => ?_).wider fun b hb' => .inl ⟨hil, hb'⟩⟩
      exact hk2 b hlb (hG i j b hb').2.2
    · rw [List.getElem?_append_right (by omega)] at hi
      obtain ⟨x, hx, hr⟩ := hxo _ el hi j d hj
      have hle : els.length * sz ≤ i * sz := Nat.mul_le_mul_right sz (by omega)
      have hsub : i * sz + j - els.length * sz = (i - els.length) * sz + j := by rw [Nat.sub_mul]; omega
      refine ⟨x, by rw [List.getElem?_append_right (by rw [hyl]; omega), hyl, hsub]; exact hx, (hr.keep hs2 fun b hb' hlb => ?_).wider fun b hb' => .inr ⟨by omega, hb'⟩⟩
      exact hk2 b hlb (hnm b (hGm _ j b hb').1)
theorem step_ap_many {E : Type} {cels : E → List Cel} {sz by_ : Nat} {t et : TypeId} {z : Value} (hu : Try.prog.underlying t = some (.slice et)) (hi : (Try.prog.info? et).map (fun i => (i.zero, i.size, i.bytes)) = some (some z, sz, by_)) (hz : z.cells.size = sz) (hsz : 0 < sz) (hby : by_ ≤ 1000) (hl : ∀ e : E, (cels e).length = sz) (hone : ∀ (e : E) (j : Nat) (y : Value), (cels e)[j]? = some (Cel.v y) → y.oneCell' = true)
    {ops : Array Oper} {o : Oper} {a : Act} {K : Act → World → Prop} {Q : Exit → Act → World → Prop} {Z : Prop} (hgd : o.guard = none) (s x : Operand)
    (ho : o.op = .call { callee := .builtin .append, args := #[s, x], argTypes := #[t, t] })
    (w : World) (B B' : Nat) (v : Value) (els : List E) (h : Ap cels sz et w B v els) (hB : B ≤ w.heap.size) (hB' : B' ≤ B) (hn : els.length ≤ 10000000)
    (F : Nat → Prop) (A : Option Addr) (k c : Nat) (more : List E) (hm : Lo cels sz w F A k more) (hk : 0 < k) (hk2 : k ≤ 10000000) (hF : ∀ b, F b → B' ≤ b ∧ b < B) (X : Nat → Prop) (hX : ∀ b, X b → b < B ∧ ¬ F b)
    (hs : a.eval s = v) (hx : a.eval x = .slice A k c)
    (kk : ∀ v' w', Apx cels sz et w' B' X v' (els ++ more) → Below B w w' → Lay w v v' → Else v w w' → K (a.put o.dst v') w') : if Region.wanted o (yielded ops a.tmps) = true then Oper.wp Try.prog o a w K Q else Z := by
  have hw : Region.wanted o (yielded ops a.tmps) = true := by simp [Region.wanted, hgd]
  rw [if_pos hw]
  obtain ⟨v', w', hr, q1, q2, q3, q4⟩ := run_ap_many hu hi hz hsz hby hl hone w B B' v els h hB hB' hn o.type F A k c more hm hk hk2 hF X hX
  unfold Oper.wp execOp
  simp only [ho, resolve, invoke, builtin, Sem.run_bind, Sem.run_pure, Result.andThen_ok, List.map_toArray, List.map_cons, List.map_nil, hs, hx, hr]
  exact kk v' w' q1 q2 q3 q4
theorem wpList_ap_many {E : Type} {cels : E → List Cel} {sz by_ : Nat} {t et : TypeId} {z : Value} (hu : Try.prog.underlying t = some (.slice et)) (hi : (Try.prog.info? et).map (fun i => (i.zero, i.size, i.bytes)) = some (some z, sz, by_)) (hz : z.cells.size = sz) (hsz : 0 < sz) (hby : by_ ≤ 1000) (hl : ∀ e : E, (cels e).length = sz) (hone : ∀ (e : E) (j : Nat) (y : Value), (cels e)[j]? = some (Cel.v y) → y.oneCell' = true)
    {ops : Array Oper} {rest : List Oper} {o : Oper} {a : Act} {Q : Exit → Act → World → Prop} (hgd : o.guard = none) (s x : Operand)
    (ho : o.op = .call { callee := .builtin .append, args := #[s, x], argTypes := #[t, t] })
    (w : World) (B B' : Nat) (v : Value) (els : List E) (h : Ap cels sz et w B v els) (hB : B ≤ w.heap.size) (hB' : B' ≤ B) (hn : els.length ≤ 10000000)
    (F : Nat → Prop) (A : Option Addr) (k c : Nat) (more : List E) (hm : Lo cels sz w F A k more) (hk : 0 < k) (hk2 : k ≤ 10000000) (hF : ∀ b, F b → B' ≤ b ∧ b < B) (X : Nat → Prop) (hX : ∀ b, X b → b < B ∧ ¬ F b)
    (hs : a.eval s = v) (hx : a.eval x = .slice A k c)
    (kk : ∀ v' w', Apx cels sz et w' B' X v' (els ++ more) → Below B w w' → Lay w v v' → Else v w w' → wpList Try.prog ops Q rest (a.put o.dst v') w') : wpList Try.prog ops Q (o :: rest) a w := by
  refine wpList_plain hgd fun K hK => ?_
  obtain ⟨v', w', hr, q1, q2, q3, q4⟩ := run_ap_many hu hi hz hsz hby hl hone w B B' v els h hB hB' hn o.type F A k c more hm hk hk2 hF X hX
  unfold Oper.wp execOp
  simp only [ho, resolve, invoke, builtin, Sem.run_bind, Sem.run_pure, Result.andThen_ok, List.map_toArray, List.map_cons, List.map_nil, hs, hx, hr]
  exact hK _ _ (kk v' w' q1 q2 q3 q4)
theorem onePart (e : PartD) (j : Nat) (y : Value) (h : (PartD.cels e)[j]? = some (Cel.v y)) : y.oneCell' = true := by
  rcases j with _ | _ | _ | _ | j <;> simp [PartD.cels] at h <;> subst h <;> rfl
theorem oneHeld (e : HeldD) (j : Nat) (y : Value) (h : (HeldD.cels e)[j]? = some (Cel.v y)) : y.oneCell' = true := by
  rcases j with _ | _ | _ | j <;> simp [HeldD.cels] at h <;> subst h <;> rfl
end Go.Proofs.Ytgmbofoneeagiaa
