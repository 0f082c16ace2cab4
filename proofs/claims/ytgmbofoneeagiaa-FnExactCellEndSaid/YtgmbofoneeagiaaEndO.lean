/- An end among a law's arguments, opened. -/
import Derived.Test.YtgmbofoneeagiaaLbyO
import Derived.Test.YtgmbofoneeagiaaSndO
import Derived.Test.YtgmbofoneeagiaaRcvO
import Derived.Deep.Slices
namespace Go.Proofs.Ytgmbofoneeagiaa
open Go.ChangeShapes Go.WideShapes Go.ChangeAt Go.RowKit

set_option linter.unusedVariables false in
set_option maxRecDepth 100000 in
theorem cellsSenderOpen {H : Type} {enc : TypeId × Value → H} {W : World} {n : Nat} {v0 v1 : Value} {y : DataW H × List MemPlace} (hf : DataW.trod enc Try.prog W 0 (fun _ => true) true n 114 [v0, v1] = some y) :
    ∃ (z0 : Int) (A1 : Option Addr) (m1 c1 : Nat) (zs1 : List PartD), v0 = .int .i64 z0 ∧ v1 = .slice A1 m1 c1 ∧ (Lit.int .i64 z0).wf = true ∧ Lst PartD.cels 4 W A1 m1 zs1 ∧ m1 ≤ 9223372036854775807 ∧ (∀ e ∈ zs1, e.f0.length ≤ 9223372036854775807) := by
  have h1P : Try.prog.cellsOf 112 = 1 := by kernel_rfl
  have h1i : Try.prog.cellsOf 2 = 1 := by kernel_rfl
  obtain ⟨xs, n', _, _, _, hlen, hx⟩ := DataW.trod_struct Try.underlying114 hf
  rcases xs with _ | ⟨y0, _ | ⟨y1, _ | ⟨y2, r⟩⟩⟩ <;> simp at hlen
  have e0 : DataW.trod enc Try.prog W 0 (fun _ => true) true n' 2 [v0] = some y0 := by simpa [h1P, h1i] using hx 0 _ rfl
  obtain ⟨z0, k0, _, w0⟩ := DataW.trod_int Try.underlying2 e0
  simp at k0
  have e1 : DataW.trod enc Try.prog W 0 (fun _ => true) true n' 112 [v1] = some y1 := by simpa [h1P, h1i] using hx 1 _ rfl
  obtain ⟨A1, m1, c1, zs1, k1, r1, u1, v1_⟩ := listPartOpen e1
  exact ⟨z0, A1, m1, c1, zs1, k0, k1, w0, r1, u1, v1_⟩

set_option linter.unusedVariables false in
set_option maxRecDepth 100000 in
theorem cellsReceiverOpen {H : Type} {enc : TypeId × Value → H} {W : World} {n : Nat} {v0 v1 v2 : Value} {y : DataW H × List MemPlace} (hf : DataW.trod enc Try.prog W 0 (fun _ => true) true n 101 [v0, v1, v2] = some y) :
    ∃ (z0 : Int) (A1 : Option Addr) (m1 c1 : Nat) (zs1 : List HeldD) (A2 : Option Addr) (m2 c2 : Nat) (zs2 : List Int), v0 = .int .i64 z0 ∧ v1 = .slice A1 m1 c1 ∧ v2 = .slice A2 m2 c2 ∧ (Lit.int .i64 z0).wf = true ∧ Lst HeldD.cels 3 W A1 m1 zs1 ∧ m1 ≤ 9223372036854775807 ∧ (∀ e ∈ zs1, e.f1.length ≤ 9223372036854775807) ∧ IsRow .u8 W A2 m2 c2 zs2 := by
  have h1H : Try.prog.cellsOf 99 = 1 := by kernel_rfl
  have h1i : Try.prog.cellsOf 2 = 1 := by kernel_rfl
  have h1r : Try.prog.cellsOf 22 = 1 := by kernel_rfl
  obtain ⟨xs, n', _, _, _, hlen, hx⟩ := DataW.trod_struct Try.underlying101 hf
  rcases xs with _ | ⟨y0, _ | ⟨y1, _ | ⟨y2, _ | ⟨y3, r⟩⟩⟩⟩ <;> simp at hlen
  have e0 : DataW.trod enc Try.prog W 0 (fun _ => true) true n' 2 [v0] = some y0 := by simpa [h1H, h1i, h1r] using hx 0 _ rfl
  obtain ⟨z0, k0, _, w0⟩ := DataW.trod_int Try.underlying2 e0
  simp at k0
  have e1 : DataW.trod enc Try.prog W 0 (fun _ => true) true n' 99 [v1] = some y1 := by simpa [h1H, h1i, h1r] using hx 1 _ rfl
  obtain ⟨A1, m1, c1, zs1, k1, r1, u1, v1_⟩ := listHeldOpen e1
  have e2 : DataW.trod enc Try.prog W 0 (fun _ => true) true n' 22 [v2] = some y2 := by simpa [h1H, h1i, h1r] using hx 2 _ rfl
  obtain ⟨A2, m2, c2, zs2, k2, r2⟩ := rowOpen e2
  exact ⟨z0, A1, m1, c1, zs1, A2, m2, c2, zs2, k0, k1, k2, w0, r1, u1, v1_, r2⟩

set_option linter.unusedVariables false in
set_option maxRecDepth 100000 in
theorem argEndOpen {H : Type} {enc : TypeId × Value → H} {W : World} {base : Nat} {v : Value} {d : DataW H} {p : List MemPlace} (hv : Value.okWide Try.prog W .any base 116 v) (h : DataW.Trod enc Try.prog W 0 (fun _ => true) true 116 v d p) :
    ∃ (z0 : Int) (z1 : Int) (A2 : Option Addr) (m2 c2 : Nat) (zs2 : List PartD) (z3 : Int) (A4 : Option Addr) (m4 c4 : Nat) (zs4 : List HeldD) (A5 : Option Addr) (m5 c5 : Nat) (zs5 : List Int) (A6 : Option Addr) (m6 c6 : Nat) (zs6 : List (List Int)) (z7 : Int),
      v = .agg #[.int .i64 z0, .int .i64 z1, .slice A2 m2 c2, .int .i64 z3, .slice A4 m4 c4, .slice A5 m5 c5, .slice A6 m6 c6, .int .i64 z7] ∧ (Lit.int .i64 z0).wf = true ∧ (Lit.int .i64 z1).wf = true ∧ Lst PartD.cels 4 W A2 m2 zs2 ∧ m2 ≤ 9223372036854775807 ∧ (∀ e ∈ zs2, e.f0.length ≤ 9223372036854775807) ∧ (Lit.int .i64 z3).wf = true ∧ Lst HeldD.cels 3 W A4 m4 zs4 ∧ m4 ≤ 9223372036854775807 ∧ (∀ e ∈ zs4, e.f1.length ≤ 9223372036854775807) ∧ IsRow .u8 W A5 m5 c5 zs5 ∧ Lst bytC 1 W A6 m6 zs6 ∧ m6 ≤ 9223372036854775807 ∧ (∀ e ∈ zs6, e.length ≤ 9223372036854775807) ∧ (Lit.int .i64 z7).wf = true := by
  obtain ⟨cs, rfl, hsz⟩ := okWide_struct Try.underlying116 hv
  have hN : Try.prog.cellsOf 116 = 8 := by kernel_rfl
  have h1S : Try.prog.cellsOf 114 = 2 := by kernel_rfl
  have h1R : Try.prog.cellsOf 101 = 3 := by kernel_rfl
  have h1i : Try.prog.cellsOf 2 = 1 := by kernel_rfl
  have h1B : Try.prog.cellsOf 39 = 1 := by kernel_rfl
  rw [hN] at hsz
  obtain ⟨l⟩ := cs
  simp only [List.size_toArray] at hsz
  rcases l with _ | ⟨v0, _ | ⟨v1, _ | ⟨v2, _ | ⟨v3, _ | ⟨v4, _ | ⟨v5, _ | ⟨v6, _ | ⟨v7, _ | ⟨v8, r⟩⟩⟩⟩⟩⟩⟩⟩⟩ <;> simp at hsz
  obtain ⟨fuel, hf⟩ := h
  obtain ⟨xs, n, _, _, _, hlen, hx⟩ := DataW.trod_struct Try.underlying116 hf
  rcases xs with _ | ⟨y0, _ | ⟨y1, _ | ⟨y2, _ | ⟨y3, _ | ⟨y4, _ | ⟨y5, r⟩⟩⟩⟩⟩⟩ <;> simp at hlen
  have e0 : DataW.trod enc Try.prog W 0 (fun _ => true) true n 2 [v0] = some y0 := by simpa [h1S, h1R, h1i, h1B, Value.cells] using hx 0 _ rfl
  obtain ⟨z0, k0, _, w0⟩ := DataW.trod_int Try.underlying2 e0
  simp at k0
  have e1 : DataW.trod enc Try.prog W 0 (fun _ => true) true n 114 [v1, v2] = some y1 := by simpa [h1S, h1R, h1i, h1B, Value.cells] using hx 1 _ rfl
  obtain ⟨z1, A2, m2, c2, zs2, k1, k2, w1, r2, u2, v2_⟩ := cellsSenderOpen e1
  have e2 : DataW.trod enc Try.prog W 0 (fun _ => true) true n 101 [v3, v4, v5] = some y2 := by simpa [h1S, h1R, h1i, h1B, Value.cells] using hx 2 _ rfl
  obtain ⟨z3, A4, m4, c4, zs4, A5, m5, c5, zs5, k3, k4, k5, w3, r4, u4, v4_, r5⟩ := cellsReceiverOpen e2
  have e3 : DataW.trod enc Try.prog W 0 (fun _ => true) true n 39 [v6] = some y3 := by simpa [h1S, h1R, h1i, h1B, Value.cells] using hx 3 _ rfl
  obtain ⟨A6, m6, c6, zs6, k6, r6, u6, v6_⟩ := listBytesOpen e3
  have e4 : DataW.trod enc Try.prog W 0 (fun _ => true) true n 2 [v7] = some y4 := by simpa [h1S, h1R, h1i, h1B, Value.cells] using hx 4 _ rfl
  obtain ⟨z7, k7, _, w7⟩ := DataW.trod_int Try.underlying2 e4
  simp at k7
  subst k0 k1 k2 k3 k4 k5 k6 k7
  exact ⟨z0, z1, A2, m2, c2, zs2, z3, A4, m4, c4, zs4, A5, m5, c5, zs5, A6, m6, c6, zs6, z7, rfl, w0, w1, r2, u2, v2_, w3, r4, u4, v4_, r5, r6, u6, v6_, w7⟩
end Go.Proofs.Ytgmbofoneeagiaa
