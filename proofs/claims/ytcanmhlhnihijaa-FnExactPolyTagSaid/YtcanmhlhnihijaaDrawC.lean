/- The draws of chapter 1: each answers something within its bounds. -/
import Derived.Test.YtcanmhlhnihijaaBytesC
namespace Go.Proofs.Ytcanmhlhnihijaa
open Go.RowKit

theorem emod_lt' (a m : Int) (h : 1 ≤ m) : a % m < m := Int.emod_lt_of_pos _ (by omega)
theorem emod_nn (a m : Int) (h : 1 ≤ m) : 0 ≤ a % m := Int.emod_nonneg _ (by omega)

/-- nothing below B but block p has turned -/
structure But (p B : Nat) (w w' : World) : Prop where
  os : w'.os = w.os
  tape : w'.tape = w.tape
  output : w'.output = w.output
  size : w.heap.size ≤ w'.heap.size
  block : ∀ k, k < B → k ≠ p → w'.heap[k]? = w.heap[k]?
section
variable {p B : Nat} {w w' w2 : World}
theorem But.refl (p B : Nat) (w : World) : But p B w w := ⟨rfl, rfl, rfl, Nat.le_refl _, fun _ _ _ => rfl⟩
theorem But.trans (h : But p B w w') (k : But p B w' w2) : But p B w w2 := ⟨k.os.trans h.os, k.tape.trans h.tape, k.output.trans h.output, Nat.le_trans h.size k.size, fun i hi hp => (k.block i hi hp).trans (h.block i hi hp)⟩
theorem But.of_below (h : Below B w w') : But p B w w' := ⟨h.os, h.tape, h.output, h.size, fun k hk _ => h.block k hk⟩
theorem But.mono {C : Nat} (h : But p B w w') (hC : C ≤ B) : But p C w w' := ⟨h.os, h.tape, h.output, h.size, fun k hk hp => h.block k (by omega) hp⟩
theorem But.below {C : Nat} (h : But p B w w') (hC : C ≤ B) (hp : C ≤ p) : Below C w w' := ⟨h.os, h.tape, h.output, h.size, fun k hk => h.block k (by omega) (by omega)⟩
theorem But.drewN (h : But p B w w') (n : Nat) : But p B w (w'.drewN n) := ⟨h.os, h.tape, h.output, h.size, h.block⟩
theorem But.setCell (h : But p B w w') (i : Nat) (v : Value) : But p B w (w'.setCell ⟨p, i, none⟩ v) :=
  ⟨h.os, h.tape, h.output, by rw [World.size_setCell]; exact h.size, fun k hk hp => (Below.heap_setCell w' ⟨p, i, none⟩ v k hp).trans (h.block k hk hp)⟩
theorem Two.set1 {t : TypeId} {x y : Value} (h : Two w p t x y) (v : Value) : Two (w.setCell ⟨p, 1, none⟩ v) p t x v := by
  unfold Two at h ⊢
  simp [World.setCell, Array.getElem?_modify, h]
end

theorem Ow.past {w w' : World} {B C p n : Nat} {A : Option Addr} {l : List Int} (h : Ow w B A n l) (hb : But p C w w') (hC : w.heap.size ≤ C) (hp : p < B) : Ow w' B A n l :=
  ⟨h.len, h.byte, fun hn => by
    obtain ⟨b, e, hB, hlt, hc, hf⟩ := h.at_ hn
    have hk := hb.block b (by omega) (by omega)
    exact ⟨b, e, hB, Nat.lt_of_lt_of_le hlt hb.size, fun i hi => (World.cell?_of_block (a := ⟨b, i, none⟩) hk).trans (hc i hi), fun i => (World.frozen?_of_block (a := ⟨b, i, none⟩) hk).trans (hf i)⟩⟩
theorem Row.keep {w w' : World} {B : Nat} {v : Value} {l : List Int} (h : Row w B v l) (hk : ∀ g, B ≤ g → g < w.heap.size → w'.heap[g]? = w.heap[g]?) : Row w' B v l := by
  refine ⟨h.byte, h.own.1, ?_⟩
  rcases h.own.2 with hn | ⟨g, cap, cur, hv, hB, hg, rest⟩
  · exact .inl hn
  · exact .inr ⟨g, cap, cur, hv, hB, (hk g hB (Array.getElem?_eq_some_iff.1 hg).1).trans hg, rest⟩
theorem Row.mono {w : World} {B C : Nat} {v : Value} {l : List Int} (h : Row w B v l) (hC : C ≤ B) : Row w C v l := by
  refine ⟨h.byte, h.own.1, ?_⟩
  rcases h.own.2 with hn | ⟨g, cap, cur, hv, hB, hg, rest⟩
  · exact .inl hn
  · exact .inr ⟨g, cap, cur, hv, by omega, hg, rest⟩
theorem Row.ow' {w : World} {B n c : Nat} {A : Option Addr} {l : List Int} (h : Row w B (.slice A n c) l) (hn : l.length = n) : Ow w B A n l := by
  obtain ⟨A', c', e, how⟩ := h.ow hn
  injection e with e1 e2 e3
  subst e1
  exact how

end Go.Proofs.Ytcanmhlhnihijaa
