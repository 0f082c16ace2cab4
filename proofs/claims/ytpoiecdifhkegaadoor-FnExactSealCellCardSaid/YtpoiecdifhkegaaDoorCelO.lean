import Derived.Test.YtpoiecdifhkegaaDoorSymB
import Derived.Lib.SmallJoins

/-! SymO -/
/- A law's argument that is a state, opened. -/
namespace Go.Proofs.YtpoiecdifhkegaaDoor
open Go.ChangeShapes Go.WideShapes Go.ChangeAt Go.RowKit

theorem rowOpen {H : Type} {enc : TypeId × Value → H} {W : World} {n : Nat} {v : Value} {y : DataW H × List MemPlace} (hf : DataW.trod enc Tryd.prog W 0 (fun _ => true) true n 22 [v] = some y) :
    ∃ a len cap zs, v = .slice a len cap ∧ IsRow .u8 W a len cap zs := by
  rcases open_ints Tryd.underlying22 Tryd.underlying5 (by kernel_rfl) hf with ⟨hcs, _⟩ | ⟨x, l, c, zs, hcs, _, hl, hm, hz, _, hcell, hwz⟩
  · simp at hcs
    exact ⟨none, 0, 0, [], hcs, .inl ⟨rfl, rfl, rfl, rfl⟩⟩
  · simp at hcs
    exact ⟨some x, l, c, zs, hcs, .inr ⟨_, rfl, hl, hm, by simpa using hz, hcell, hwz⟩⟩

theorem IsRow.small {W : World} {a : Option Addr} {n c : Nat} {z : List Int} (h : IsRow .u8 W a n c z) : n ≤ 9223372036854775807 := by
  rcases h with ⟨_, hn, _, _⟩ | ⟨_, _, h1, h2, _⟩
  · omega
  · unfold maxLen at h2; omega
end Go.Proofs.YtpoiecdifhkegaaDoor

/-! CellO -/
/- A law's argument that is a cell, opened. -/
namespace Go.Proofs.YtpoiecdifhkegaaDoor
open Go.ChangeShapes Go.WideShapes Go.ChangeAt Go.RowKit

set_option maxRecDepth 100000 in
theorem cellOpen {H : Type} {enc : TypeId × Value → H} {W : World} {base : Nat} {v : Value} {d : DataW H} {p : List MemPlace} (hv : Value.okWide Tryd.prog W .any base 24 v) (h : DataW.Trod enc Tryd.prog W 0 (fun _ => true) true 24 v d p) :
    ∃ (x0 x1 x2 x3 : Int) (x4 : Bool) (A : Option Addr) (n c : Nat) (z : List Int), v = .agg #[.int .i64 x0, .int .i64 x1, .int .i64 x2, .int .i64 x3, .bool x4, .slice A n c] ∧ IsRow .u8 W A n c z ∧
      (Lit.int .i64 x0).wf = true ∧ (Lit.int .i64 x1).wf = true ∧ (Lit.int .i64 x2).wf = true ∧ (Lit.int .i64 x3).wf = true := by
  obtain ⟨cs, rfl, hsz⟩ := okWide_struct Tryd.underlying24 hv
  have h6 : Tryd.prog.cellsOf 24 = 6 := by kernel_rfl
  have h1 : Tryd.prog.cellsOf 2 = 1 := by kernel_rfl
  have hb : Tryd.prog.cellsOf 4 = 1 := by kernel_rfl
  have hs : Tryd.prog.cellsOf 22 = 1 := by kernel_rfl
  rw [h6] at hsz
  obtain ⟨l⟩ := cs
  simp only [List.size_toArray] at hsz
  rcases l with _ | ⟨v0, _ | ⟨v1, _ | ⟨v2, _ | ⟨v3, _ | ⟨v4, _ | ⟨v5, _ | ⟨v6, r⟩⟩⟩⟩⟩⟩⟩ <;> simp at hsz
  obtain ⟨fuel, hf⟩ := h
  obtain ⟨xs, n, _, _, _, hlen, hx⟩ := DataW.trod_struct Tryd.underlying24 hf
  rcases xs with _ | ⟨y0, _ | ⟨y1, _ | ⟨y2, _ | ⟨y3, _ | ⟨y4, _ | ⟨y5, _ | ⟨y6, r⟩⟩⟩⟩⟩⟩⟩ <;> simp at hlen
  have e0 : DataW.trod enc Tryd.prog W 0 (fun _ => true) true n 2 [v0] = some y0 := by simpa [h1, Value.cells] using hx 0 _ rfl
  obtain ⟨z0, k0, _, w0⟩ := DataW.trod_int Tryd.underlying2 e0
  simp at k0
  have e1 : DataW.trod enc Tryd.prog W 0 (fun _ => true) true n 2 [v1] = some y1 := by simpa [h1, Value.cells] using hx 1 _ rfl
  obtain ⟨z1, k1, _, w1⟩ := DataW.trod_int Tryd.underlying2 e1
  simp at k1
  have e2 : DataW.trod enc Tryd.prog W 0 (fun _ => true) true n 2 [v2] = some y2 := by simpa [h1, Value.cells] using hx 2 _ rfl
  obtain ⟨z2, k2, _, w2⟩ := DataW.trod_int Tryd.underlying2 e2
  simp at k2
  have e3 : DataW.trod enc Tryd.prog W 0 (fun _ => true) true n 2 [v3] = some y3 := by simpa [h1, Value.cells] using hx 3 _ rfl
  obtain ⟨z3, k3, _, w3⟩ := DataW.trod_int Tryd.underlying2 e3
  simp at k3
  have e4 : DataW.trod enc Tryd.prog W 0 (fun _ => true) true n 4 [v4] = some y4 := by simpa [hb, Value.cells] using hx 4 _ rfl
  obtain ⟨z4, k4, _⟩ := DataW.trod_bool Tryd.underlying4 e4
  simp at k4
  have e5 : DataW.trod enc Tryd.prog W 0 (fun _ => true) true n 22 [v5] = some y5 := by simpa [hs, Value.cells] using hx 5 _ rfl
  obtain ⟨A, m, c, zs, k5, r5⟩ := rowOpen e5
  subst k0 k1 k2 k3 k4 k5
  exact ⟨z0, z1, z2, z3, z4, A, m, c, zs, rfl, r5, w0, w1, w2, w3⟩
end Go.Proofs.YtpoiecdifhkegaaDoor
