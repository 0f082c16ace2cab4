/- An end copied by the model. -/
import Derived.Test.YtpaemmoopjkppaaCpyS
import Derived.Deep.RegionHeld3
namespace Go.Proofs.Ytpaemmoopjkppaa
open Go.RowKit

theorem copyEnd3 {S T U : Thing} (oS : S.Ok) (oT : T.Ok) {W wi wj wk : World} (h1 : S wi (rng W.heap.size wi.heap.size)) (b1 : Below W.heap.size W wi) (h2 : T wj (rng wi.heap.size wj.heap.size)) (b2 : Below wi.heap.size wi wj) (h3 : U wk (rng wj.heap.size wk.heap.size)) (b3 : Below wj.heap.size wj wk) :
    S wk (rng W.heap.size wi.heap.size) ∧ T wk (rng wi.heap.size wj.heap.size) ∧ U wk (rng wj.heap.size wk.heap.size) ∧ W.heap.size ≤ wi.heap.size ∧ wi.heap.size ≤ wj.heap.size ∧ wj.heap.size ≤ wk.heap.size :=
  ⟨oS.below (oS.below h1 b2) b3, oT.below h2 b3, h3, b1.size, b2.size, b3.size⟩

theorem farE (w : World) {b g : Nat} (h : b ≠ g) (i : Nat) (v0 v1 v2 v3 v4 v5 v6 v7 : Value) : ((((((((w.setCell ⟨g, 0, none⟩ v0).setCell ⟨g, 1, none⟩ v1).setCell ⟨g, 2, none⟩ v2).setCell ⟨g, 3, none⟩ v3).setCell ⟨g, 4, none⟩ v4).setCell ⟨g, 5, none⟩ v5).setCell ⟨g, 6, none⟩ v6).setCell ⟨g, 7, none⟩ v7).cell? ⟨b, i, none⟩ = w.cell? ⟨b, i, none⟩ := by
  have q : ∀ (j : Nat) (W : World) (v : Value), (W.setCell ⟨g, j, none⟩ v).cell? ⟨b, i, none⟩ = W.cell? ⟨b, i, none⟩ := fun j W v => World.cell?_setCell_other _ _ _ _ (by intro e; injection e with e1; exact h e1.symm)
  rw [q, q, q, q, q, q, q, q]
theorem belE {w W : World} {B g : Nat} (h : Below B w W) (hB : B ≤ g) (v0 v1 v2 v3 v4 v5 v6 v7 : Value) : Below B w ((((((((W.setCell ⟨g, 0, none⟩ v0).setCell ⟨g, 1, none⟩ v1).setCell ⟨g, 2, none⟩ v2).setCell ⟨g, 3, none⟩ v3).setCell ⟨g, 4, none⟩ v4).setCell ⟨g, 5, none⟩ v5).setCell ⟨g, 6, none⟩ v6).setCell ⟨g, 7, none⟩ v7) :=
  (((((((h.setCell (p := ⟨g, 0, none⟩) hB _).setCell (p := ⟨g, 1, none⟩) hB _).setCell (p := ⟨g, 2, none⟩) hB _).setCell (p := ⟨g, 3, none⟩) hB _).setCell (p := ⟨g, 4, none⟩) hB _).setCell (p := ⟨g, 5, none⟩) hB _).setCell (p := ⟨g, 6, none⟩) hB _).setCell (p := ⟨g, 7, none⟩) hB _
theorem stcE {W : World} {g : Nat} {u0 u1 u2 u3 u4 u5 u6 u7 : Value} {t : TypeId} (h : Stc W g [u0, u1, u2, u3, u4, u5, u6, u7] t) (v0 v1 v2 v3 v4 v5 v6 v7 : Value) : Stc ((((((((W.setCell ⟨g, 0, none⟩ v0).setCell ⟨g, 1, none⟩ v1).setCell ⟨g, 2, none⟩ v2).setCell ⟨g, 3, none⟩ v3).setCell ⟨g, 4, none⟩ v4).setCell ⟨g, 5, none⟩ v5).setCell ⟨g, 6, none⟩ v6).setCell ⟨g, 7, none⟩ v7) g [v0, v1, v2, v3, v4, v5, v6, v7] t :=
  (((((((h.set_ (i := 0) v0).set_ (i := 1) v1).set_ (i := 2) v2).set_ (i := 3) v3).set_ (i := 4) v4).set_ (i := 5) v5).set_ (i := 6) v6).set_ (i := 7) v7
theorem tuE (W : World) (g : Nat) (v0 v1 v2 v3 v4 v5 v6 v7 : Value) : Tu (fun b => b = g) W ((((((((W.setCell ⟨g, 0, none⟩ v0).setCell ⟨g, 1, none⟩ v1).setCell ⟨g, 2, none⟩ v2).setCell ⟨g, 3, none⟩ v3).setCell ⟨g, 4, none⟩ v4).setCell ⟨g, 5, none⟩ v5).setCell ⟨g, 6, none⟩ v6).setCell ⟨g, 7, none⟩ v7) :=
  (((((((((Tu.refl (fun b => b = g) W).set_ (p := ⟨g, 0, none⟩) rfl v0).set_ (p := ⟨g, 1, none⟩) rfl v1).set_ (p := ⟨g, 2, none⟩) rfl v2).set_ (p := ⟨g, 3, none⟩) rfl v3).set_ (p := ⟨g, 4, none⟩) rfl v4).set_ (p := ⟨g, 5, none⟩) rfl v5).set_ (p := ⟨g, 6, none⟩) rfl v6).set_ (p := ⟨g, 7, none⟩) rfl v7)
/-- an end of the call's own: its things -/
def EndT (A0 : Option Addr) (n0 : Nat) (els : List PartD) (A1 : Option Addr) (n1 : Nat) (hs : List HeldD) (A2 : Option Addr) (n2 : Nat) (l : List Int) (v : Value) (got : List (List Int)) : Thing := Thing.sep (tP A0 n0 els) (Thing.sep (Thing.sep (tH A1 n1 hs) (tR A2 n2 l)) (tG v got))

end Go.Proofs.Ytpaemmoopjkppaa
