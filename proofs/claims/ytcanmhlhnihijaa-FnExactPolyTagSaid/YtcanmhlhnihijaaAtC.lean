/- A row appended to, with where it lies then: in its own block, or in one that was just made. -/
import Derived.Test.YtcanmhlhnihijaaDrawC
import Derived.Maps.AppendAt
import Derived.Deep.RegionLaw
namespace Go.Proofs.Ytcanmhlhnihijaa
open Go.RowKit

/-- where a row lies behind an append: where it lay, or in the newest block -/
def Lay (w : World) (v v' : Value) : Prop := v'.ownBlock = v.ownBlock ∨ v'.ownBlock = some w.heap.size
/-- all old blocks but the row's own one are as they were -/
def Else (v : Value) (w w' : World) : Prop := ∀ g, g < w.heap.size → v.ownBlock ≠ some g → w'.heap[g]? = w.heap[g]?

theorem step_row_append_at {ops : Array Oper} {o : Oper} {a : Act} {K : Act → World → Prop} {Q : Exit → Act → World → Prop} {E : Prop} (hgd : o.guard = none) (s x : Operand)
    (ho : o.op = .call { callee := .builtin .append, args := #[s, x], argTypes := #[22, 22] })
    (w : World) (B : Nat) (v : Value) (l : List Int) (hs : a.eval s = v) (hrow : Row w B v l) (hB : B ≤ w.heap.size)
    (ad : Addr) (c : Nat) (X : Int) (hx : a.eval x = .slice (some ad) 1 c) (hcell : ∀ j u, [Value.int .u8 X][j]? = some u → w.cell? (ad.add j) = some u)
    (hX0 : 0 ≤ X) (hX1 : X < 256) (hlen : l.length ≤ 140737488351232)
    (h : ∀ v' w', Row w' B v' (l ++ [X]) → Below B w w' → w.heap.size ≤ w'.heap.size → Lay w v v' → Else v w w' → K (a.put o.dst v') w') :
    if Region.wanted o (yielded ops a.tmps) = true then Oper.wp Try.prog o a w K Q else E := by
  have hw : Region.wanted o (yielded ops a.tmps) = true := by simp [Region.wanted, hgd]
  rw [if_pos hw]
  obtain ⟨i0, hi, hz0, hz1, hz2⟩ := info_parts info_u8
  obtain ⟨v', w', hr, hown, hgrow, _, hat⟩ := run_append_own_at (P := Try.prog) w B 22 o.type 5 i0 (.int .u8 0) 1 1 Try.underlying22 hi hz0 hz1 hz2 rfl (by decide) v l.length _ hrow.own ad 1 c [.int .u8 X] rfl hcell
    (by simp [Value.oneCell']) (by unfold maxLen; omega) (by omega) hB
  unfold Oper.wp execOp
  simp only [ho, resolve, invoke, builtin, Sem.run_bind, Sem.run_pure, Result.andThen_ok, List.map_toArray, List.map_cons, List.map_nil, hs, hx, hr]
  refine h v' w' ⟨hrow.byte.append (fun y hy => by simp at hy; subst hy; exact ⟨hX0, hX1⟩), ?_⟩ ⟨hgrow.os, hgrow.tape, hgrow.output, hgrow.size, fun k hk => hgrow.block k (by omega) (fun e => ?_)⟩ hgrow.size hat (fun g hg hne => hgrow.block g hg (fun e => hne e.symm))
  · simpa using hown
  · have := (hrow.own.lt k e.symm).1
    omega

theorem wpList_row_append_at {ops : Array Oper} {rest : List Oper} {o : Oper} {a : Act} {Q : Exit → Act → World → Prop} (hgd : o.guard = none) (s x : Operand)
    (ho : o.op = .call { callee := .builtin .append, args := #[s, x], argTypes := #[22, 22] })
    (w : World) (B : Nat) (v : Value) (l : List Int) (hs : a.eval s = v) (hrow : Row w B v l) (hB : B ≤ w.heap.size)
    (ad : Addr) (c : Nat) (X : Int) (hx : a.eval x = .slice (some ad) 1 c) (hcell : ∀ j u, [Value.int .u8 X][j]? = some u → w.cell? (ad.add j) = some u)
    (hX0 : 0 ≤ X) (hX1 : X < 256) (hlen : l.length ≤ 140737488351232)
    (h : ∀ v' w', Row w' B v' (l ++ [X]) → Below B w w' → w.heap.size ≤ w'.heap.size → Lay w v v' → Else v w w' → wpList Try.prog ops Q rest (a.put o.dst v') w') : wpList Try.prog ops Q (o :: rest) a w := by
  obtain ⟨i0, hi, hz0, hz1, hz2⟩ := info_parts info_u8
  refine wpList_append_own_at _ hgd s x 22 ho B 5 i0 (.int .u8 0) 1 1 Try.underlying22 hi hz0 hz1 hz2 rfl (by decide) v l.length _ hs hrow.own ad 1 c [.int .u8 X] hx rfl hcell
    (by simp [Value.oneCell']) (by unfold maxLen; omega) (by omega) hB ?_
  intro v' w' hown hgrow _ hat
  refine h v' w' ⟨hrow.byte.append (fun y hy => by simp at hy; subst hy; exact ⟨hX0, hX1⟩), ?_⟩ ⟨hgrow.os, hgrow.tape, hgrow.output, hgrow.size, fun k hk => hgrow.block k (by omega) (fun e => ?_)⟩ hgrow.size hat (fun g hg hne => hgrow.block g hg (fun e => hne e.symm))
  · simpa using hown
  · have := (hrow.own.lt k e.symm).1
    omega

theorem Bs.block {w w' : World} {b off n : Nat} {l : List Int} (h : Bs w (some ⟨b, off, none⟩) n l) (hb : w'.heap[b]? = w.heap[b]?) (hs : w.heap.size ≤ w'.heap.size) : Bs w' (some ⟨b, off, none⟩) n l :=
  ⟨h.len, h.byte, fun hn => by
    obtain ⟨b', off', e, hlt, hc⟩ := h.at_ hn
    injection e with e
    injection e with e1 e2
    subst e1 e2
    exact ⟨b, off, rfl, by omega, fun i hi => (World.cell?_of_block (a := ⟨b, off + i, none⟩) hb).trans (hc i hi)⟩⟩
/-- a value's own block is not g, and block g is as it was -/
structure Apart (g : Nat) (v : Value) (w w' : World) : Prop where
  own : v.ownBlock ≠ some g
  same : w'.heap[g]? = w.heap[g]?
  size : w.heap.size ≤ w'.heap.size
theorem Apart.step {g : Nat} {v v' : Value} {w a b : World} (h : Apart g v w a) (hg : g < w.heap.size) (hl : Lay a v v') (he : Else v a b) (hs : a.heap.size ≤ b.heap.size) : Apart g v' w b :=
  have hsz := h.size
  ⟨fun e => by rcases hl with h1 | h1
               · exact h.own (h1.symm.trans e)
               · rw [h1] at e; injection e with e; omega,
   (he g (by omega) h.own).trans h.same, Nat.le_trans h.size hs⟩
theorem Apart.alloc {g : Nat} {v : Value} {w a : World} (h : Apart g v w a) (hg : g < w.heap.size) (o : Obj) : Apart g v w (a.alloc o) :=
  have hsz := h.size
  ⟨h.own, (Below.heap_alloc a o g (by omega)).trans h.same, by rw [World.size_alloc]; omega⟩
theorem Apart.drew {g : Nat} {v : Value} {w a : World} (h : Apart g v w a) : Apart g v w a.drew := ⟨h.own, h.same, h.size⟩
/-- a row's own block is an old one -/
theorem Row.ownlt {w : World} {B g : Nat} {v : Value} {l : List Int} (h : Row w B v l) (e : v.ownBlock = some g) : B ≤ g ∧ g < w.heap.size := h.own.lt g e
end Go.Proofs.Ytcanmhlhnihijaa
