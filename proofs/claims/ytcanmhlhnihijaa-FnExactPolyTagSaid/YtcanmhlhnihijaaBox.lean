/- Boxes: a block of one cell; a loop's own object that is put. -/
import Derived.Test.YtcanmhlhnihijaaMem
import Derived.RangeFuncOwn
namespace Go.Proofs.Ytcanmhlhnihijaa
open Go.RowKit

theorem one_new (W : World) (v : Value) (t : TypeId) : (W.alloc (.cells #[v] t)).cell? ⟨W.heap.size, 0, none⟩ = some v ∧ (W.alloc (.cells #[v] t)).frozen? ⟨W.heap.size, 0, none⟩ = false := by
  have e := heap_alloc_new W (.cells #[v] t)
  have f : ∀ (w' : World) (b : Nat), w'.heap[b]? = some (.cells #[v] t (0, 0)) → w'.frozen? ⟨b, 0, none⟩ = false := fun w' b h => by simp [World.frozen?, h]
  have g : ∀ (w' : World) (b : Nat), w'.heap[b]? = some (.cells #[v] t (0, 0)) → w'.cell? ⟨b, 0, none⟩ = some v := fun w' b h => by
    have := cell_of_row w' b 0 _ _ (0, 0) h
    simpa using this
  exact ⟨g _ _ e, f _ _ e⟩
theorem cell_past {W : World} {a : Addr} {v : Value} (o : Obj) (h : W.cell? a = some v) : (W.alloc o).cell? a = some v :=
  (World.cell?_of_block (Below.heap_alloc W o a.block (World.block_lt_of_cell? W a h))).trans h
theorem frozen_past {W : World} {a : Addr} {v : Value} (o : Obj) (h : W.cell? a = some v) (hf : W.frozen? a = false) : (W.alloc o).frozen? a = false :=
  (World.frozen?_of_block (Below.heap_alloc W o a.block (World.block_lt_of_cell? W a h))).trans hf

theorem putObj_other (W : World) (l : Nat) (o : Obj) (k : Nat) (h : k ≠ l) : (W.putObj l o).heap[k]? = W.heap[k]? := by
  simp only [World.putObj]
  rw [Array.getElem?_setIfInBounds_ne (by omega)]
end Go.Proofs.Ytcanmhlhnihijaa
