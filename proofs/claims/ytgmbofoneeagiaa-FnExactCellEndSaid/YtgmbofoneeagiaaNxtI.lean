import Derived.Test.YtgmbofoneeagiaaNxtN
import Derived.Test.YtgmbofoneeagiaaNxtP
import Derived.Test.YtgmbofoneeagiaaWinP
namespace Go.Proofs.Ytgmbofoneeagiaa
open Go.RowKit

theorem Lo.setSent {w : World} {F : Nat → Prop} {A : Option Addr} {n : Nat} {els : List PartD} (h : Lo PartD.cels 4 w F A n els) {k : Nat} {e : PartD} (he : els[k]? = some e) (now : Int) :
    ∃ b off B m d, A = some ⟨b, off, none⟩ ∧ F b ∧ b < w.heap.size ∧ (∀ i, w.frozen? ⟨b, i, none⟩ = false) ∧ Shut (e.f0.length = m) ∧ (∃ x, w.cell? ⟨b, off + k * 4 + 2, none⟩ = some x) ∧
      Shut (∀ W1, W1 = w.setCell ⟨b, off + k * 4 + 2, none⟩ (.int .i64 now) → W1.heap.size = w.heap.size ∧ Lo PartD.cels 4 W1 F A n (els.set k (slotAt now e)) ∧
      W1.cell? ⟨b, off + k * 4, none⟩ = some (.slice B m d) ∧ W1.cell? ⟨b, off + k * 4 + 1, none⟩ = some (.bool e.f1) ∧ W1.cell? ⟨b, off + k * 4 + 2, none⟩ = some (.int .i64 now) ∧ W1.cell? ⟨b, off + k * 4 + 3, none⟩ = some (.bool e.f3) ∧
      Bs W1 B m e.f0 ∧ (B = none → d = 0) ∧ Tu F w W1) := by
  obtain ⟨b, off, G, rfl, hF, hbl, hfz, hG, hc, hup⟩ := h.upd (fun _ => rfl) he
  obtain ⟨x0, c0, B, m, d, rfl, ho, hzz⟩ := hc 0 _ rfl
  obtain ⟨x1, c1, rfl⟩ := hc 1 _ rfl
  obtain ⟨x2, c2, rfl⟩ := hc 2 _ rfl
  obtain ⟨x3, c3, rfl⟩ := hc 3 _ rfl
  simp only [Nat.add_zero] at c0
  refine ⟨b, off, B, m, d, rfl, hF, hbl, hfz, ⟨ho.len⟩, ⟨_, c2⟩, ⟨fun W1 hW1 => ?_⟩⟩
  have hs1 : W1.heap.size = w.heap.size := by rw [hW1]; simp
  have d0 : W1.cell? ⟨b, off + k * 4, none⟩ = some (.slice B m d) := by rw [hW1, cellOff _ (by omega)]; exact c0
  have d1 : W1.cell? ⟨b, off + k * 4 + 1, none⟩ = some (.bool e.f1) := by rw [hW1, cellOff _ (by omega)]; exact c1
  have d2 : W1.cell? ⟨b, off + k * 4 + 2, none⟩ = some (.int .i64 now) := by rw [hW1]; exact cellOn _ c2
  have d3 : W1.cell? ⟨b, off + k * 4 + 3, none⟩ = some (.bool e.f3) := by rw [hW1, cellOff _ (by omega)]; exact c3
  have hT1 : Tu F w W1 := by rw [hW1]; exact (Tu.refl F w).set_ hF _
  have hB1 : Bo W1 (G 0) B m e.f0 := by
    refine ho.keep (by rw [hs1]; exact Nat.le_refl _) fun b' hb' _ => ?_
    rw [hW1]; exact heapOff _ (hG 0 b' hb').2
  refine ⟨hs1, ?_, d0, d1, d2, d3, hB1.bs, hzz, hT1⟩
  refine hup.out _ _ (by rw [hs1]; exact Nat.le_refl _) (fun i => by rw [hW1]; simp only [World.frozen?_setCell]; exact hfz i) (fun b' hFb hbg' hGb hlb => by rw [hW1]; exact heapOff _ hbg') (fun i hi => by rw [hW1]; exact cellOff _ (by omega)) (fun i d0' hd => ?_)
  rcases i with _ | _ | _ | _ | i <;> simp [PartD.cels, slotAt] at hd <;> subst hd
  · exact ⟨_, d0, ⟨_, _, _, rfl, hB1, hzz⟩⟩
  · exact ⟨_, d1, rfl⟩
  · exact ⟨_, d2, rfl⟩
  · exact ⟨_, d3, rfl⟩
theorem choose_neg {now : Int} {els : List PartD} (h : choose now 0 (-1) els < 0) : choose now 0 (-1) els = -1 := by
  rcases choose_bd now els 0 (-1) with h1 | ⟨h1, _, _⟩
  · exact h1
  · omega
end Go.Proofs.Ytgmbofoneeagiaa
