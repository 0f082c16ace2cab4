/- A sender, copied: by the model and by the program. -/
import Derived.Test.YtpaemmoopjkppaaApC
namespace Go.Proofs.Ytpaemmoopjkppaa
open Go.RowKit

def apP := @Ap PartD PartD.cels 4 156
/-- the set of a copied run's block -/
def Gone (q m : Nat) (A : Option Addr) (j b : Nat) : Prop := j = q ∧ 0 < m ∧ A = some ⟨b, 0, none⟩
theorem Gone.in_ {w : World} {B q m : Nat} {A : Option Addr} {l : List Int} (h : Ow w B A m l) : ∀ j b, Gone q m A j b → B ≤ b ∧ b < w.heap.size := fun j b hb => by
  obtain ⟨_, hm, e⟩ := hb
  obtain ⟨b', e', h1, h2, _⟩ := h.at_ hm
  rw [e] at e'
  injection e' with e'
  injection e' with e'
  subst e'
  exact ⟨h1, h2⟩
theorem Gone.dis {q m : Nat} {A : Option Addr} : ∀ j j' b, Gone q m A j b → Gone q m A j' b → j = j' := fun _ _ _ h1 h2 => by rw [h1.1, h2.1]
theorem Gone.ow {w : World} {B q m c : Nat} {A : Option Addr} {l : List Int} (h : Ow w B A m l) (hc : A = none → c = 0) : Cel.ow w (Gone q m A q) (.slice A m c) (.b l) :=
  ⟨A, m, c, rfl, Bo.ofOw h fun _ hn e _ _ => ⟨rfl, hn, e⟩, hc⟩

theorem cells_new {w : World} {b : Nat} (hb : b = w.heap.size) (xs : List Value) (t : TypeId) : ∀ j u, xs[j]? = some u → (w.alloc (.cells xs.toArray t)).cell? ((⟨b, 0, none⟩ : Addr).add j) = some u := fun j u hu => by
  subst hb
  rw [Addr.add_mid, Nat.zero_add]
  exact (Stc.new w t xs _ rfl).cell hu

end Go.Proofs.Ytpaemmoopjkppaa
