import Derived.Test.YtgmbofoneeagiaaRowO
import Derived.Deep.Slices
/- A law's arguments with lists in them, opened. -/
namespace Go.Proofs.Ytgmbofoneeagiaa
open Go.ChangeShapes Go.WideShapes Go.ChangeAt Go.RowKit

set_option linter.unusedVariables false in
set_option maxRecDepth 100000 in
theorem argConfigOpen {H : Type} {enc : TypeId × Value → H} {W : World} {base : Nat} {v : Value} {d : DataW H} {p : List MemPlace} (hv : Value.okWide Try.prog W .any base 24 v) (h : DataW.Trod enc Try.prog W 0 (fun _ => true) true 24 v d p) :
    ∃ (z0 : Bool) (A1 : Option Addr) (m1 c1 : Nat) (zs1 : List Int), v = .agg #[.bool z0, .slice A1 m1 c1] ∧ IsRow .u8 W A1 m1 c1 zs1 := by
  obtain ⟨cs, rfl, hsz⟩ := okWide_struct Try.underlying24 hv
  have hN : Try.prog.cellsOf 24 = 2 := by kernel_rfl
  have h1b : Try.prog.cellsOf 4 = 1 := by kernel_rfl
  have h1r : Try.prog.cellsOf 22 = 1 := by kernel_rfl
  rw [hN] at hsz
  obtain ⟨l⟩ := cs
  simp only [List.size_toArray] at hsz
  rcases l with _ | ⟨v0, _ | ⟨v1, _ | ⟨v2, r⟩⟩⟩ <;> simp at hsz
  obtain ⟨fuel, hf⟩ := h
  obtain ⟨xs, n, _, _, _, hlen, hx⟩ := DataW.trod_struct Try.underlying24 hf
  rcases xs with _ | ⟨y0, _ | ⟨y1, _ | ⟨y2, r⟩⟩⟩ <;> simp at hlen
  have e0 : DataW.trod enc Try.prog W 0 (fun _ => true) true n 4 [v0] = some y0 := by simpa [h1b, h1r, Value.cells] using hx 0 _ rfl
  obtain ⟨z0, k0, _⟩ := DataW.trod_bool Try.underlying4 e0
  simp at k0
  have e1 : DataW.trod enc Try.prog W 0 (fun _ => true) true n 22 [v1] = some y1 := by simpa [h1b, h1r, Value.cells] using hx 1 _ rfl
  obtain ⟨A1, m1, c1, zs1, k1, r1⟩ := rowOpen e1
  subst k0 k1
  exact ⟨z0, A1, m1, c1, zs1, rfl, r1⟩

set_option linter.unusedVariables false in
set_option maxRecDepth 100000 in
theorem argEventOpen {H : Type} {enc : TypeId × Value → H} {W : World} {base : Nat} {v : Value} {d : DataW H} {p : List MemPlace} (hv : Value.okWide Try.prog W .any base 32 v) (h : DataW.Trod enc Try.prog W 0 (fun _ => true) true 32 v d p) :
    ∃ (z0 : Int) (z1 : Int) (A2 : Option Addr) (m2 c2 : Nat) (zs2 : List Int) (z3 : Int) (z4 : Int) (z5 : Int), v = .agg #[.int .i64 z0, .int .i64 z1, .slice A2 m2 c2, .int .i64 z3, .int .i64 z4, .int .i64 z5] ∧ (Lit.int .i64 z0).wf = true ∧ (Lit.int .i64 z1).wf = true ∧ IsRow .u8 W A2 m2 c2 zs2 ∧ (Lit.int .i64 z3).wf = true ∧ (Lit.int .i64 z4).wf = true ∧ (Lit.int .i64 z5).wf = true := by
  obtain ⟨cs, rfl, hsz⟩ := okWide_struct Try.underlying32 hv
  have hN : Try.prog.cellsOf 32 = 6 := by kernel_rfl
  have h1i : Try.prog.cellsOf 2 = 1 := by kernel_rfl
  have h1r : Try.prog.cellsOf 22 = 1 := by kernel_rfl
  rw [hN] at hsz
  obtain ⟨l⟩ := cs
  simp only [List.size_toArray] at hsz
  rcases l with _ | ⟨v0, _ | ⟨v1, _ | ⟨v2, _ | ⟨v3, _ | ⟨v4, _ | ⟨v5, _ | ⟨v6, r⟩⟩⟩⟩⟩⟩⟩ <;> simp at hsz
  obtain ⟨fuel, hf⟩ := h
  obtain ⟨xs, n, _, _, _, hlen, hx⟩ := DataW.trod_struct Try.underlying32 hf
  rcases xs with _ | ⟨y0, _ | ⟨y1, _ | ⟨y2, _ | ⟨y3, _ | ⟨y4, _ | ⟨y5, _ | ⟨y6, r⟩⟩⟩⟩⟩⟩⟩ <;> simp at hlen
  have e0 : DataW.trod enc Try.prog W 0 (fun _ => true) true n 2 [v0] = some y0 := by simpa [h1i, h1r, Value.cells] using hx 0 _ rfl
  obtain ⟨z0, k0, _, w0⟩ := DataW.trod_int Try.underlying2 e0
  simp at k0
  have e1 : DataW.trod enc Try.prog W 0 (fun _ => true) true n 2 [v1] = some y1 := by simpa [h1i, h1r, Value.cells] using hx 1 _ rfl
  obtain ⟨z1, k1, _, w1⟩ := DataW.trod_int Try.underlying2 e1
  simp at k1
  have e2 : DataW.trod enc Try.prog W 0 (fun _ => true) true n 22 [v2] = some y2 := by simpa [h1i, h1r, Value.cells] using hx 2 _ rfl
  obtain ⟨A2, m2, c2, zs2, k2, r2⟩ := rowOpen e2
  have e3 : DataW.trod enc Try.prog W 0 (fun _ => true) true n 2 [v3] = some y3 := by simpa [h1i, h1r, Value.cells] using hx 3 _ rfl
  obtain ⟨z3, k3, _, w3⟩ := DataW.trod_int Try.underlying2 e3
  simp at k3
  have e4 : DataW.trod enc Try.prog W 0 (fun _ => true) true n 2 [v4] = some y4 := by simpa [h1i, h1r, Value.cells] using hx 4 _ rfl
  obtain ⟨z4, k4, _, w4⟩ := DataW.trod_int Try.underlying2 e4
  simp at k4
  have e5 : DataW.trod enc Try.prog W 0 (fun _ => true) true n 2 [v5] = some y5 := by simpa [h1i, h1r, Value.cells] using hx 5 _ rfl
  obtain ⟨z5, k5, _, w5⟩ := DataW.trod_int Try.underlying2 e5
  simp at k5
  subst k0 k1 k2 k3 k4 k5
  exact ⟨z0, z1, A2, m2, c2, zs2, z3, z4, z5, rfl, w0, w1, r2, w3, w4, w5⟩

end Go.Proofs.Ytgmbofoneeagiaa
