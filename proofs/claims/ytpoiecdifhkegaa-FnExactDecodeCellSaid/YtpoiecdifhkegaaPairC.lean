/- The laws' helpers for an answer of two runs of bytes. -/
import Derived.Test.YtpoiecdifhkegaaBase
namespace Go.Proofs.Ytpoiecdifhkegaa
open Go.RowKit

/-- two runs of bytes share no block -/
def Sunder (n m : Nat) (A B : Option Addr) : Prop := 0 < n → 0 < m → ∀ a b, A = some a → B = some b → a.block ≠ b.block
/-- a struct of three cells -/
def Three (w : World) (b : Nat) (t : TypeId) (x y z : Value) : Prop := w.heap[b]? = some (.cells #[x, y, z] t (0, 0))
theorem Three.cells {w : World} {b : Nat} {t : TypeId} {x y z : Value} (h : Three w b t x y z) :
    w.cell? ⟨b, 0, none⟩ = some x ∧ w.cell? ⟨b, 1, none⟩ = some y ∧ w.cell? ⟨b, 2, none⟩ = some z ∧ w.frozen? ⟨b, 0, none⟩ = false ∧ w.frozen? ⟨b, 1, none⟩ = false ∧ w.frozen? ⟨b, 2, none⟩ = false := by
  unfold Three at h
  refine ⟨?_, ?_, ?_, by simp [World.frozen?, h], by simp [World.frozen?, h], by simp [World.frozen?, h]⟩
  · simpa using cell_of_row w b 0 _ _ (0, 0) h
  · simpa using cell_of_row w b 1 _ _ (0, 0) h
  · simpa using cell_of_row w b 2 _ _ (0, 0) h
theorem Three.new (w : World) (t : TypeId) (x y z : Value) : Three (w.alloc (.cells #[x, y, z] t)) w.heap.size t x y z := heap_alloc_new w _
theorem Three.below {w w' : World} {b B : Nat} {t : TypeId} {x y z : Value} (h : Three w b t x y z) (hb : Below B w w') (hl : b < B) : Three w' b t x y z := (hb.block b hl).trans h
theorem Three.only {w w' : World} {b n : Nat} {A : Option Addr} {t : TypeId} {x y z : Value} (h : Three w b t x y z) (ho : Only n A w w') (hA : 0 < n → ∀ a, A = some a → a.block ≠ b) : Three w' b t x y z := (ho.block b hA).trans h

theorem Ow.only' {w w' : World} {B n m : Nat} {A A' : Option Addr} {l : List Int} (h : Ow w B A n l) (ho : Only m A' w w') (ha : Sunder m n A' A) : Ow w' B A n l :=
  ⟨h.len, h.byte, fun hn => by
    obtain ⟨b, e, hB, hlt, hc, hf⟩ := h.at_ hn
    have hk := ho.block b (fun hm a he => ha hm hn a _ he e)
    exact ⟨b, e, hB, by rw [ho.size]; exact hlt, fun i hi => (World.cell?_of_block (a := ⟨b, i, none⟩) hk).trans (hc i hi), fun i => (World.frozen?_of_block (a := ⟨b, i, none⟩) hk).trans (hf i)⟩⟩
theorem Sunder.symm {n m : Nat} {A B : Option Addr} (h : Sunder n m A B) : Sunder m n B A := fun h1 h2 a b ea eb e => h h2 h1 b a eb ea e.symm

end Go.Proofs.Ytpoiecdifhkegaa
