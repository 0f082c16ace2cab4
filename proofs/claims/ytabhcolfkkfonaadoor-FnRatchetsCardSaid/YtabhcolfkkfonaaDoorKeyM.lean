/- Chains of epochs; a map of one entry whose value is told as it stands. -/
import Derived.Test.YtabhcolfkkfonaaDoorKeyP
import Derived.Maps.OwnSet
import Derived.Maps.OwnOps
namespace Go.Proofs.YtabhcolfkkfonaaDoor
open Go.RowKit Go.Maps

/-- the chain and the key that come of a root in k steps -/
def chK (l : List Int) : Nat → List Int × List Int
  | 0 => (l, [])
  | k + 1 => (firstW (chK l k).1 [], otherW (chK l k).1 [])
theorem chK_succ (l : List Int) (k : Nat) : (chK l (k + 1)).1 = firstW (chK l k).1 [] ∧ (chK l (k + 1)).2 = otherW (chK l k).1 [] := ⟨rfl, rfl⟩
theorem chK_len (l : List Int) (k : Nat) : (chK l (k + 1)).1.length = 32 ∧ (chK l (k + 1)).2.length = 32 := ⟨macW_len _ _, macW_len _ _⟩

/-- a value, told as it stands -/
def told (v : Value) : Option (DataW Value × List MemPlace) := some (.held v, [])

/-- block b is a map that has one key, e, with the value v -/
structure OneKey (w : World) (b : Nat) (e : Int) (v : Value) : Prop where
  out : ∃ n, n ≤ 1 ∧ w.ownsMap Tryd.prog 2 told b n (.map [(.int .i64 e, .held v)])

theorem law64 : Keyed Tryd.prog 2 := int_keyed Tryd.underlying2
theorem key64 (e : Int) (h0 : -1000 ≤ e) (h1 : e ≤ 1000) : keyOf Tryd.prog 2 (.int .i64 e) = some (.int .i64 e) := keyOf_int_mk Tryd.underlying2 (WalkArith.wf_i64 (by omega))

theorem ownsMap_tight {w : World} {b n : Nat} {l : List (Lit × DataW Value)} (h : w.ownsMap Tryd.prog 2 told b n (.map l)) : w.ownsMap Tryd.prog 2 told b l.length (.map l) := by
  obtain ⟨es, clock, hb, F, hs, hD⟩ := h
  refine ⟨es, clock, hb, F, ?_, hD⟩
  injection hD with hl
  rw [hl, length_sorted]
  simp

/-- bytes do not lie in a map -/
theorem Bs.map {w w' : World} {A : Option Addr} {n b m : Nat} {l : List Int} {D : DataW Value} (h : Bs w A n l) (hs : w.ownsMap Tryd.prog 2 told b m D) (hb : Save b w w') : Bs w' A n l :=
  ⟨h.len, h.byte, fun hn => by
    obtain ⟨b', off, e, hlt, hc⟩ := h.at_ hn
    obtain ⟨es, clock, hm, _⟩ := hs
    have hne : b' ≠ b := fun e' => by
      subst e'
      have h0 := hc 0 hn
      simp [World.cell?, hm] at h0
    have hk := hb.block b' hlt hne
    exact ⟨b', off, e, Nat.lt_of_lt_of_le hlt hb.size, fun i hi => (World.cell?_of_block (a := ⟨b', off + i, none⟩) hk).trans (hc i hi)⟩⟩

theorem Save.grown {b : Nat} {w w' : World} (h : w.grownBy w' (some b)) : Save b w w' :=
  ⟨h.os, h.tape, h.output, h.size, fun k hk hx => h.block k hk (fun e => hx (by injection e))⟩
theorem Save.wide {b : Nat} {w w' w'' : World} (h : Save b w w') (k : Below w.heap.size w' w'') : Save b w w'' :=
  ⟨k.os.trans h.os, k.tape.trans h.tape, k.output.trans h.output, Nat.le_trans h.size k.size, fun i hi hx => (k.block i hi).trans (h.block i hi hx)⟩
theorem Save.own {x b n : Nat} {w w' : World} {D : DataW Value} (h : Save x w w') (hm : w.ownsMap Tryd.prog 2 told b n D) (hx : b ≠ x) : w'.ownsMap Tryd.prog 2 told b n D := by
  have hl := hm.lt
  obtain ⟨es, clock, hb, r⟩ := hm
  exact ⟨es, clock, (h.block b hl hx).trans hb, r⟩
theorem own_below {C b n : Nat} {w w' : World} {D : DataW Value} (h : Below C w w') (hm : w.ownsMap Tryd.prog 2 told b n D) (hx : b < C) : w'.ownsMap Tryd.prog 2 told b n D := by
  obtain ⟨es, clock, hb, r⟩ := hm
  exact ⟨es, clock, (h.block b hx).trans hb, r⟩

theorem OneKey.below {w w' : World} {b C : Nat} {e : Int} {v : Value} (h : OneKey w b e v) (hb : Below C w w') (hl : b < C) : OneKey w' b e v := by
  obtain ⟨n, hn, hm⟩ := h.out
  exact ⟨n, hn, own_below hb hm hl⟩
theorem OneKey.lt {w : World} {b : Nat} {e : Int} {v : Value} (h : OneKey w b e v) : b < w.heap.size := by
  obtain ⟨n, hn, hm⟩ := h.out
  exact hm.lt
theorem put_one (e : Int) (u v : DataW Value) : DataW.put (.map [(.int .i64 e, u)]) (.int .i64 (e + 1)) v = .map [(.int .i64 e, u), (.int .i64 (e + 1), v)] := by
  have h0 : Lit.sameKey (.int .i64 e) (.int .i64 (e + 1)) = false := by
    have : ¬ e = e + 1 := by omega
    simp [Lit.sameKey, this]
  have h1 : Lit.before (.int .i64 (e + 1)) (.int .i64 e) = false := by
    have : ¬ e + 1 < e := by omega
    simp [Lit.before, this]
  unfold DataW.put
  simp only [List.filter, h0, Bool.not_false]
  rw [DataW.insert]
  simp only [h1, Bool.false_eq_true, if_false]
  rfl
theorem del_one (e : Int) (u v : DataW Value) : DataW.del (.map [(.int .i64 e, u), (.int .i64 (e + 1), v)]) (.int .i64 e) = .map [(.int .i64 (e + 1), v)] := by
  have h0 : Lit.sameKey (.int .i64 e) (.int .i64 e) = true := by simp [Lit.sameKey]
  have h1 : Lit.sameKey (.int .i64 (e + 1)) (.int .i64 e) = false := by
    have : ¬ e + 1 = e := by omega
    simp [Lit.sameKey, this]
  unfold DataW.del
  simp only [List.filter, h0, h1, Bool.not_false, Bool.not_true]
theorem put_nil (e : Int) (v : DataW Value) : DataW.put (.map []) (.int .i64 e) v = .map [(.int .i64 e, v)] := rfl
theorem at_one (e : Int) (u z : DataW Value) : DataW.atKey (.map [(.int .i64 e, u)]) (.int .i64 e) z = u := by
  simp [DataW.atKey, Lit.sameKey]
end Go.Proofs.YtabhcolfkkfonaaDoor
