import Derived.Test.YtabhcolfkkfonaaGreatDoorSymB
import Derived.Lib.SmallJoins

/-! SymO -/
/- A law's argument that is a state, opened. -/
namespace Go.Proofs.YtabhcolfkkfonaaGreatDoor
open Go.ChangeShapes Go.WideShapes Go.ChangeAt Go.RowKit

theorem rowOpen {H : Type} {enc : TypeId × Value → H} {W : World} {n : Nat} {v : Value} {y : DataW H × List MemPlace} (hf : DataW.trod enc Tryz.prog W 0 (fun _ => true) true n 22 [v] = some y) :
    ∃ a len cap zs, v = .slice a len cap ∧ IsRow .u8 W a len cap zs := by
  rcases open_ints Tryz.underlying22 Tryz.underlying5 (by kernel_rfl) hf with ⟨hcs, _⟩ | ⟨x, l, c, zs, hcs, _, hl, hm, hz, _, hcell, hwz⟩
  · simp at hcs
    exact ⟨none, 0, 0, [], hcs, .inl ⟨rfl, rfl, rfl, rfl⟩⟩
  · simp at hcs
    exact ⟨some x, l, c, zs, hcs, .inr ⟨_, rfl, hl, hm, by simpa using hz, hcell, hwz⟩⟩

set_option maxRecDepth 100000 in
theorem symOpen {H : Type} {enc : TypeId × Value → H} {W : World} {base : Nat} {v : Value} {d : DataW H} {p : List MemPlace} (hv : Value.okWide Tryz.prog W .any base 64 v) (h : DataW.Trod enc Tryz.prog W 0 (fun _ => true) true 64 v d p) :
    ∃ a0 n0 c0 z0 a1 n1 c1 z1 a2 n2 c2 z2 k, v = .agg #[.slice a0 n0 c0, .slice a1 n1 c1, .slice a2 n2 c2, .int .i64 k] ∧ IsRow .u8 W a0 n0 c0 z0 ∧ IsRow .u8 W a1 n1 c1 z1 ∧ IsRow .u8 W a2 n2 c2 z2 ∧ (Lit.int .i64 k).wf = true := by
  obtain ⟨v0, v1, v2, v3, y0, y1, y2, y3, n, rfl, _, _, h0, h1, h2, h3⟩ := Joins.open_agg4 Tryz.underlying64 (by kernel_rfl) (by kernel_rfl) hv h
  obtain ⟨a0, n0, c0, z0, rfl, r0⟩ := rowOpen h0
  obtain ⟨a1, n1, c1, z1, rfl, r1⟩ := rowOpen h1
  obtain ⟨a2, n2, c2, z2, rfl, r2⟩ := rowOpen h2
  obtain ⟨k, hk, _, hw⟩ := DataW.trod_int Tryz.underlying2 h3
  simp at hk
  subst hk
  exact ⟨_, _, _, _, _, _, _, _, _, _, _, _, _, rfl, r0, r1, r2, hw⟩

theorem IsRow.small {W : World} {a : Option Addr} {n c : Nat} {z : List Int} (h : IsRow .u8 W a n c z) : n ≤ 9223372036854775807 := by
  rcases h with ⟨_, hn, _, _⟩ | ⟨_, _, h1, h2, _⟩
  · omega
  · unfold maxLen at h2; omega
end Go.Proofs.YtabhcolfkkfonaaGreatDoor

/-! CellO -/
/- A law's argument that is a cell, opened. -/
namespace Go.Proofs.YtabhcolfkkfonaaGreatDoor
open Go.ChangeShapes Go.WideShapes Go.ChangeAt Go.RowKit

end Go.Proofs.YtabhcolfkkfonaaGreatDoor
