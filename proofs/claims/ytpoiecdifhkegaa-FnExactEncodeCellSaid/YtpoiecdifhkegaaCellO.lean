/- A law's argument that is a cell, opened. -/
import Derived.Test.YtpoiecdifhkegaaSymO
namespace Go.Proofs.Ytpoiecdifhkegaa
open Go.ChangeShapes Go.WideShapes Go.ChangeAt Go.RowKit

theorem cellOpen {H : Type} {enc : TypeId × Value → H} {W : World} {base : Nat} {v : Value} {d : DataW H} {p : List MemPlace} (hv : Value.okWide Try.prog W .any base 40 v) (h : DataW.Trod enc Try.prog W 0 (fun _ => true) true 40 v d p) :
    ∃ (x0 x1 x2 x3 : Int) (x4 : Bool) (A : Option Addr) (n c : Nat) (z : List Int), v = .agg #[.int .i64 x0, .int .i64 x1, .int .i64 x2, .int .i64 x3, .bool x4, .slice A n c] ∧ IsRow .u8 W A n c z ∧
      (Lit.int .i64 x0).wf = true ∧ (Lit.int .i64 x1).wf = true ∧ (Lit.int .i64 x2).wf = true ∧ (Lit.int .i64 x3).wf = true := by
  obtain ⟨cs, rfl, hsz⟩ := okWide_struct Try.underlying40 hv
  have h6 : Try.prog.cellsOf 40 = 6 := by kernel_rfl
  have h1 : Try.prog.cellsOf 2 = 1 := by kernel_rfl
  have hb : Try.prog.cellsOf 4 = 1 := by kernel_rfl
  have hs : Try.prog.cellsOf 22 = 1 := by kernel_rfl
  rw [h6] at hsz
  obtain ⟨l⟩ := cs
  simp only [List.size_toArray] at hsz
  rcases l with _ | ⟨v0, _ | ⟨v1, _ | ⟨v2, _ | ⟨v3, _ | ⟨v4, _ | ⟨v5, _ | ⟨v6, r⟩⟩⟩⟩⟩⟩⟩ <;> simp at hsz
  obtain ⟨fuel, hf⟩ := h
  obtain ⟨xs, n, _, _, _, hlen, hx⟩ := DataW.trod_struct Try.underlying40 hf
  rcases xs with _ | ⟨y0, _ | ⟨y1, _ | ⟨y2, _ | ⟨y3, _ | ⟨y4, _ | ⟨y5, _ | ⟨y6, r⟩⟩⟩⟩⟩⟩⟩ <;> simp at hlen
  have e0 : DataW.trod enc Try.prog W 0 (fun _ => true) true n 2 [v0] = some y0 := by simpa [h1, Value.cells] using hx 0 _ rfl
  obtain ⟨z0, k0, _, w0⟩ := DataW.trod_int Try.underlying2 e0
  simp at k0
  have e1 : DataW.trod enc Try.prog W 0 (fun _ => true) true n 2 [v1] = some y1 := by simpa [h1, Value.cells] using hx 1 _ rfl
  obtain ⟨z1, k1, _, w1⟩ := DataW.trod_int Try.underlying2 e1
  simp at k1
  have e2 : DataW.trod enc Try.prog W 0 (fun _ => true) true n 2 [v2] = some y2 := by simpa [h1, Value.cells] using hx 2 _ rfl
  obtain ⟨z2, k2, _, w2⟩ := DataW.trod_int Try.underlying2 e2
  simp at k2
  have e3 : DataW.trod enc Try.prog W 0 (fun _ => true) true n 2 [v3] = some y3 := by simpa [h1, Value.cells] using hx 3 _ rfl
  obtain ⟨z3, k3, _, w3⟩ := DataW.trod_int Try.underlying2 e3
  simp at k3
  have e4 : DataW.trod enc Try.prog W 0 (fun _ => true) true n 4 [v4] = some y4 := by simpa [hb, Value.cells] using hx 4 _ rfl
  obtain ⟨z4, k4, _⟩ := DataW.trod_bool Try.underlying4 e4
  simp at k4
  have e5 : DataW.trod enc Try.prog W 0 (fun _ => true) true n 22 [v5] = some y5 := by simpa [hs, Value.cells] using hx 5 _ rfl
  obtain ⟨A, m, c, zs, k5, r5⟩ := rowOpen e5
  subst k0 k1 k2 k3 k4 k5
  exact ⟨z0, z1, z2, z3, z4, A, m, c, zs, rfl, r5, w0, w1, w2, w3⟩
end Go.Proofs.Ytpoiecdifhkegaa
