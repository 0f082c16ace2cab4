/- What a slice of bytes reads as, put behind a row of the call's own. -/
import Derived.Test.YtcanmhlhnihijaaDrawC
import Derived.Laws.AppendOwnNone
namespace Go.Proofs.Ytcanmhlhnihijaa
open Go.RowKit

theorem Bs.cap_ {w : World} {A : Option Addr} {n c : Nat} {l : List Int} (h : Bs w A n l) (hn : 0 < n) : A = none → c = 0 := fun e => by
  obtain ⟨b, off, e2, _⟩ := h.at_ hn
  rw [e] at e2; cases e2

set_option maxRecDepth 100000 in
theorem wpList_row_joinx {ops : Array Oper} {rest : List Oper} {o : Oper} {a : Act} {Q : Exit → Act → World → Prop} (hgd : o.guard = none) (s x : Operand)
    (ho : o.op = .call { callee := .builtin .append, args := #[s, x], argTypes := #[22, 22] })
    (w : World) (B : Nat) (v : Value) (l r : List Int) (hs : a.eval s = v) (hrow : Row w B v l) (hB : B ≤ w.heap.size)
    (A : Option Addr) (n c : Nat) (hx : a.eval x = .slice A n c) (hbs : Bs w A n r) (hcap : A = none → c = 0) (hlen : l.length + n ≤ 140737488351232)
    (h : ∀ v' w', Row w' B v' (l ++ r) → Below B w w' → w.heap.size ≤ w'.heap.size → (∀ g, g < w.heap.size → v.ownBlock ≠ some g → w'.heap[g]? = w.heap[g]?) → wpList Try.prog ops Q rest (a.put o.dst v') w') : wpList Try.prog ops Q (o :: rest) a w := by
  obtain ⟨i0, hi, hz0, hz1, hz2⟩ := info_parts info_u8
  have hrl := hbs.len
  cases A with
  | none =>
    have hn0 : n = 0 := by
      rcases Nat.eq_zero_or_pos n with h0 | h0
      · exact h0
      · obtain ⟨b, off, e, _⟩ := hbs.at_ h0
        cases e
    have hc0 := hcap rfl
    subst hn0 hc0
    obtain rfl : r = [] := List.eq_nil_of_length_eq_zero hrl
    refine wpList_append_own_none hgd s x 22 ho B 5 i0 1 Try.underlying22 hi v _ _ hs hrow.own hx ?_
    exact h v w (by rw [List.append_nil]; exact hrow) (Below.refl _ _) (Nat.le_refl _) (fun _ _ _ => rfl)
  | some ad =>
    have hcell : ∀ j u, (r.map (Value.int .u8))[j]? = some u → w.cell? (ad.add j) = some u := by
      intro j u hu
      have hj : j < r.length := by
        rcases Nat.lt_or_ge j r.length with h1 | h1
        · exact h1
        · rw [List.getElem?_eq_none (by simpa using h1)] at hu; cases hu
      obtain ⟨b, off, e, _, hc⟩ := hbs.at_ (by omega)
      injection e with e
      subst e
      have hadd : (⟨b, off, none⟩ : Addr).add j = ⟨b, off + j, none⟩ := by unfold Addr.add; split <;> simp_all
      rw [hadd, hc j (by omega)]
      rw [List.getElem?_map, List.getElem?_eq_getElem hj] at hu
      simpa [List.getD, List.getElem?_eq_getElem hj] using hu
    refine wpList_append_own _ hgd s x 22 ho B 5 i0 (.int .u8 0) 1 1 Try.underlying22 hi hz0 hz1 hz2 rfl (by decide) v l.length _ hs hrow.own ad n c (r.map (Value.int .u8)) hx (by simp [hrl]) hcell
      (fun u hu => by obtain ⟨y, _, rfl⟩ := List.mem_map.1 hu; rfl) (by unfold maxLen; omega) (by omega) hB ?_
    intro v' w' hown hgrow _
    refine h v' w' ⟨hrow.byte.append hbs.byte, ?_⟩ ⟨hgrow.os, hgrow.tape, hgrow.output, hgrow.size, fun k hk => hgrow.block k (by omega) (fun e => ?_)⟩ hgrow.size (fun g hg hne => hgrow.block g hg (fun e => hne e.symm))
    · rw [List.length_append, List.map_append, hrl]; exact hown
    · have := (hrow.own.lt k e.symm).1
      omega

theorem wpList_row_join {ops : Array Oper} {rest : List Oper} {o : Oper} {a : Act} {Q : Exit → Act → World → Prop} (hgd : o.guard = none) (s x : Operand)
    (ho : o.op = .call { callee := .builtin .append, args := #[s, x], argTypes := #[22, 22] })
    (w : World) (B : Nat) (v : Value) (l r : List Int) (hs : a.eval s = v) (hrow : Row w B v l) (hB : B ≤ w.heap.size)
    (A : Option Addr) (n c : Nat) (hx : a.eval x = .slice A n c) (hbs : Bs w A n r) (hcap : A = none → c = 0) (hlen : l.length + n ≤ 140737488351232)
    (h : ∀ v' w', Row w' B v' (l ++ r) → Below B w w' → w.heap.size ≤ w'.heap.size → wpList Try.prog ops Q rest (a.put o.dst v') w') : wpList Try.prog ops Q (o :: rest) a w :=
  wpList_row_joinx hgd s x ho w B v l r hs hrow hB A n c hx hbs hcap hlen fun v' w' h1 h2 h3 _ => h v' w' h1 h2 h3

/-- a copy of what a slice of bytes reads as -/
theorem copyb_any (A : Option Addr) (n c : Nat) (r : List Int) (w : World) (h : Bs w A n r) (hc : A = none → c = 0) (hn : n ≤ 140737488351232) :
    Calls Try.prog 18 #[.slice A n c] w fun e w' => (∃ A' c', e = .returned (.slice A' n c') ∧ Row w' w.heap.size (.slice A' n c') r) ∧ Below w.heap.size w w' := by
  have Hn := Lib.hid h.len
  have e0 := Row.empty (B := w.heap.size) w #[] (Nat.le_refl _) rfl
  go_enter Try.func18, Try.ntmps18
  go_wp2_with (at_builtin; refine wpList_row_join rfl _ _ rfl _ w.heap.size (.slice (some ⟨w.heap.size, 0, none⟩) 0 0) [] r rfl e0 (by simp) A n c rfl (h.alloc _) hc (by simp; omega) ?_; intro v' w1 hrow1 hbel1 hsz1)
  rw [List.nil_append] at hrow1
  obtain ⟨A', c', rfl, _⟩ := hrow1.ow Hn.out
  go_ret
  exact ⟨⟨A', c', rfl, hrow1⟩, (ab (Below.refl _ _) _).trans hbel1⟩
end Go.Proofs.Ytcanmhlhnihijaa
