/- A row of words of the call's own, appended to. -/
import Derived.Test.YtabhcolfkkfonaaGreatDoorBase
namespace Go.Proofs.YtabhcolfkkfonaaGreatDoor
open Go.RowKit

/-- what is at v is a row of words of the call's own (blocks from B on) -/
structure KRow (w : World) (B : Nat) (v : Value) (l : List Int) : Prop where
  own : w.ownsRow B 158 1 v l.length (l.map (Value.int .u32))

theorem KRow.alloc {w : World} {B : Nat} {v : Value} {l : List Int} (h : KRow w B v l) (o : Obj) : KRow (w.alloc o) B v l := ⟨h.own.alloc o⟩
theorem KRow.drew {w : World} {B : Nat} {v : Value} {l : List Int} (h : KRow w B v l) : KRow w.drew B v l := ⟨h.own⟩
theorem KRow.new (w : World) (l : List Int) (cs : Array Value) (n : Nat) (hcs : cs = (l.map (Value.int .u32)).toArray) (hn : l.length = n) (hm : n ≤ 1000000) :
    KRow (w.alloc (.cells cs 158)) w.heap.size (.slice (some ⟨w.heap.size, 0, none⟩) n n) l := by
  subst hcs hn
  refine ⟨⟨by simp, .inr ⟨w.heap.size, l.length, _, rfl, Nat.le_refl _, heap_alloc_new w _, Nat.le_refl _, by unfold maxLen; omega, by simp, ?_⟩⟩⟩
  rw [Nat.mul_one]
  exact List.take_of_length_le (by simp)
theorem KRow.kow {w : World} {B : Nat} {v : Value} {l : List Int} (h : KRow w B v l) {n : Nat} (hn : l.length = n) (hp : 0 < n) :
    ∃ g c, v = .slice (some ⟨g, 0, none⟩) n c ∧ B ≤ g ∧ KOw .u32 w g l := by
  subst hn
  rcases h.own.2 with ⟨_, hz⟩ | ⟨g, cap, cur, rfl, hB, hg, _, _, _, _⟩
  · omega
  · refine ⟨g, cap, rfl, hB, (Array.getElem?_eq_some_iff.1 hg).1, fun i hi => ?_, fun i => by simp [World.frozen?, hg]⟩
    have hc := h.own.cells (g := g) rfl i (.int .u32 (l.getD i 0)) (by simp [List.getD, List.getElem?_eq_getElem hi])
    have hadd : (⟨g, 0, none⟩ : Addr).add i = ⟨g, i, none⟩ := by unfold Addr.add; split <;> simp_all
    rwa [hadd] at hc
theorem KRow.keep {w w' : World} {B : Nat} {v : Value} {l : List Int} (h : KRow w B v l) (hb : ∀ g, B ≤ g → g < w.heap.size → w'.heap[g]? = w.heap[g]?) : KRow w' B v l := by
  refine ⟨⟨h.own.1, ?_⟩⟩
  rcases h.own.2 with h0 | ⟨g, cap, cur, e, hB, hg, h1, h2, h3, h4⟩
  · exact .inl h0
  · exact .inr ⟨g, cap, cur, e, hB, (hb g hB (Array.getElem?_eq_some_iff.1 hg).1).trans hg, h1, h2, h3, h4⟩

theorem wpList_krow_append {ops : Array Oper} {rest : List Oper} {o : Oper} {a : Act} {Q : Exit → Act → World → Prop} (hgd : o.guard = none) (s x : Operand)
    (ho : o.op = .call { callee := .builtin .append, args := #[s, x], argTypes := #[180, 180] })
    (w : World) (B : Nat) (v : Value) (l : List Int) (hs : a.eval s = v) (hrow : KRow w B v l) (hB : B ≤ w.heap.size)
    (ad : Addr) (c : Nat) (X : Int) (hx : a.eval x = .slice (some ad) 1 c) (hcell : ∀ j u, [Value.int .u32 X][j]? = some u → w.cell? (ad.add j) = some u)
    (hlen : l.length ≤ 1000000)
    (h : ∀ v' w', KRow w' B v' (l ++ [X]) → Below B w w' → w.heap.size ≤ w'.heap.size → wpList Tryz.prog ops Q rest (a.put o.dst v') w') : wpList Tryz.prog ops Q (o :: rest) a w := by
  obtain ⟨i0, hi, hz0, hz1, hz2⟩ := info_parts info_u32
  refine wpList_append_own _ hgd s x 180 ho B 158 i0 (.int .u32 0) 1 4 Tryz.underlying180 hi hz0 hz1 hz2 rfl (by decide) v l.length _ hs hrow.own ad 1 c [.int .u32 X] hx rfl hcell
    (by simp [Value.oneCell']) (by unfold maxLen; omega) (by omega) hB ?_
  intro v' w' hown hgrow _
  refine h v' w' ⟨?_⟩ ⟨hgrow.os, hgrow.tape, hgrow.output, hgrow.size, fun k hk => hgrow.block k (by omega) (fun e => ?_)⟩ hgrow.size
  · simpa using hown
  · have := (hrow.own.lt k e.symm).1
    omega
end Go.Proofs.YtabhcolfkkfonaaGreatDoor
