import Derived.Test.YtpaemmoopjkppaaRowO
import Derived.Test.YtpaemmoopjkppaaLstX
import Derived.Deep.Slices
/- A law's arguments with lists in them, opened. -/
namespace Go.Proofs.Ytpaemmoopjkppaa
open Go.ChangeShapes Go.WideShapes Go.ChangeAt Go.RowKit

set_option linter.unusedVariables false in
set_option maxRecDepth 100000 in
theorem elemHeldOpen {H : Type} {enc : TypeId × Value → H} {W : World} {n : Nat} {cs : List Value} {y : DataW H × List MemPlace} (hf : DataW.trod enc Try.prog W 0 (fun _ => true) true n 124 cs = some y) :
    ∃ (z0 : Int) (A1 : Option Addr) (m1 c1 : Nat) (zs1 : List Int) (z2 : Bool), cs = [.int .i64 z0, .slice A1 m1 c1, .bool z2] ∧ IsRow .u8 W A1 m1 c1 zs1 := by
  have hN : Try.prog.cellsOf 124 = 3 := by kernel_rfl
  have hi : Try.prog.cellsOf 2 = 1 := by kernel_rfl
  have hb : Try.prog.cellsOf 4 = 1 := by kernel_rfl
  have hs : Try.prog.cellsOf 23 = 1 := by kernel_rfl
  obtain ⟨xs, n', _, _, hl0, hlen, hx⟩ := DataW.trod_struct Try.underlying124 hf
  rw [hN] at hl0
  rcases cs with _ | ⟨v0, _ | ⟨v1, _ | ⟨v2, _ | ⟨v3, r⟩⟩⟩⟩ <;> simp at hl0
  rcases xs with _ | ⟨y0, _ | ⟨y1, _ | ⟨y2, _ | ⟨y3, r⟩⟩⟩⟩ <;> simp at hlen
  have e0 : DataW.trod enc Try.prog W 0 (fun _ => true) true n' 2 [v0] = some y0 := by simpa [hi, hb, hs] using hx 0 _ rfl
  obtain ⟨z0, k0, _, w0⟩ := DataW.trod_int Try.underlying2 e0
  simp at k0
  have e1 : DataW.trod enc Try.prog W 0 (fun _ => true) true n' 23 [v1] = some y1 := by simpa [hi, hb, hs] using hx 1 _ rfl
  obtain ⟨A1, m1, c1, zs1, k1, r1⟩ := rowOpen e1
  have e2 : DataW.trod enc Try.prog W 0 (fun _ => true) true n' 4 [v2] = some y2 := by simpa [hi, hb, hs] using hx 2 _ rfl
  obtain ⟨z2, k2, _⟩ := DataW.trod_bool Try.underlying4 e2
  simp at k2
  subst k0 k1 k2
  exact ⟨z0, A1, m1, c1, zs1, z2, rfl, r1⟩

set_option linter.unusedVariables false in
set_option maxRecDepth 100000 in
theorem listHeldOpen {H : Type} {enc : TypeId × Value → H} {W : World} {n : Nat} {v : Value} {y : DataW H × List MemPlace} (hf : DataW.trod enc Try.prog W 0 (fun _ => true) true n 22 [v] = some y) :
    ∃ (A : Option Addr) (m c : Nat) (els : List HeldD), v = .slice A m c ∧ Lst HeldD.cels 3 W A m els ∧ m ≤ 9223372036854775807 ∧ (∀ e ∈ els, e.f1.length ≤ 9223372036854775807) := by
  have hN : Try.prog.cellsOf 124 = 3 := by kernel_rfl
  rcases Deep.open_slice Try.underlying22 hf with ⟨hcs, _⟩ | ⟨a, len, cap, m, n', D, Pl, hcs, _, hl, hm, hmm, _, hx⟩
  · simp at hcs
    exact ⟨none, 0, 0, [], hcs, Lst.nil_ _ _, by omega, fun e he => by cases he⟩
  simp at hcs
  subst hcs
  have hml : m = cap := by simpa using hmm
  have hx' : ∀ i, i < len → ∃ e : HeldD, ∃ xs : List Value, (∀ j, j < 3 → W.cell? (a.add (i * 3 + j)) = xs[j]?) ∧ e.f1.length ≤ 9223372036854775807 ∧ ∀ (j : Nat) (d : Cel), e.cels[j]? = some d → ∃ x : Value, xs[j]? = some x ∧ Cel.rd W x d := by
    intro i hi
    obtain ⟨cs', hc, ht⟩ := hx i (by omega)
    rw [hN] at hc
    obtain ⟨_, hcl, hat⟩ := World.cells?_some hc
    obtain ⟨z0, A1, m1, c1, zs1, z2, rfl, r1⟩ := elemHeldOpen ht
    refine ⟨⟨z0, zs1.take m1, z2⟩, [.int .i64 z0, .slice A1 m1 c1, .bool z2], fun j hj => ?_, ?_, fun j d hd => ?_⟩
    · rw [← Deep.add_add]
      exact hat j hj
    · show (zs1.take m1).length ≤ _
      rw [List.length_take]
      have := r1.small; omega
    · rcases j with _ | _ | _ | j <;> simp [HeldD.cels] at hd <;> subst hd
      · exact ⟨_, rfl, rfl⟩
      · exact ⟨_, rfl, A1, m1, c1, rfl, r1.bs, r1.capz⟩
      · exact ⟨_, rfl, rfl⟩
  haveI : Inhabited HeldD := ⟨⟨0, [], false⟩⟩
  obtain ⟨f, hf⟩ := Deep.choose_lt hx'
  refine ⟨some a, len, cap, (List.range len).map f, rfl, ⟨by simp, fun hn => ?_⟩, by unfold maxLen at hm; omega, fun e he => ?_⟩
  · obtain ⟨b, off, spot⟩ := a
    obtain ⟨xs, h1, _, h2⟩ := hf 0 hn
    obtain ⟨x, hx0, _⟩ := h2 0 _ rfl
    have h0 : W.cell? ((⟨b, off, spot⟩ : Addr).add 0) = some x := by
      have := h1 0 (by omega)
      rw [hx0] at this
      simpa using this
    have hspot : spot = none := by simpa [Addr.add] using World.cell?_spot h0
    subst hspot
    have hadd : ∀ j, (⟨b, off, none⟩ : Addr).add j = ⟨b, off + j, none⟩ := fun j => by unfold Addr.add; split <;> simp_all
    refine ⟨b, off, rfl, World.block_lt_of_cell? W _ (by rw [hadd] at h0; exact h0), fun i e hi j d hj => ?_⟩
    have hil : i < len := by
      have := (List.getElem?_eq_some_iff.1 hi).1
      simpa using this
    have he : e = f i := by
      rw [List.getElem?_map, List.getElem?_range hil] at hi
      simpa using hi.symm
    subst he
    obtain ⟨xs, h1, _, h2⟩ := hf i hil
    obtain ⟨x, hx0, hr⟩ := h2 j d hj
    have hjl : j < 3 := (List.getElem?_eq_some_iff.1 hj).1
    refine ⟨x, ?_, hr⟩
    rw [Nat.add_assoc, ← hadd, h1 j hjl, hx0]
  · obtain ⟨i, hi, rfl⟩ := List.mem_map.1 he
    obtain ⟨xs, _, h1, _⟩ := hf i (List.mem_range.1 hi)
    exact h1

set_option linter.unusedVariables false in
set_option maxRecDepth 100000 in
theorem argReceiverOpen {H : Type} {enc : TypeId × Value → H} {W : World} {base : Nat} {v : Value} {d : DataW H} {p : List MemPlace} (hv : Value.okWide Try.prog W .any base 25 v) (h : DataW.Trod enc Try.prog W 0 (fun _ => true) true 25 v d p) :
    ∃ (z0 : Int) (A1 : Option Addr) (m1 c1 : Nat) (zs1 : List HeldD) (A2 : Option Addr) (m2 c2 : Nat) (zs2 : List Int), v = .agg #[.int .i64 z0, .slice A1 m1 c1, .slice A2 m2 c2] ∧ (Lit.int .i64 z0).wf = true ∧ Lst HeldD.cels 3 W A1 m1 zs1 ∧ m1 ≤ 9223372036854775807 ∧ (∀ e ∈ zs1, e.f1.length ≤ 9223372036854775807) ∧ IsRow .u8 W A2 m2 c2 zs2 := by
  obtain ⟨cs, rfl, hsz⟩ := okWide_struct Try.underlying25 hv
  have hN : Try.prog.cellsOf 25 = 3 := by kernel_rfl
  have h1H : Try.prog.cellsOf 22 = 1 := by kernel_rfl
  have h1i : Try.prog.cellsOf 2 = 1 := by kernel_rfl
  have h1r : Try.prog.cellsOf 23 = 1 := by kernel_rfl
  rw [hN] at hsz
  obtain ⟨l⟩ := cs
  simp only [List.size_toArray] at hsz
  rcases l with _ | ⟨v0, _ | ⟨v1, _ | ⟨v2, _ | ⟨v3, r⟩⟩⟩⟩ <;> simp at hsz
  obtain ⟨fuel, hf⟩ := h
  obtain ⟨xs, n, _, _, _, hlen, hx⟩ := DataW.trod_struct Try.underlying25 hf
  rcases xs with _ | ⟨y0, _ | ⟨y1, _ | ⟨y2, _ | ⟨y3, r⟩⟩⟩⟩ <;> simp at hlen
  have e0 : DataW.trod enc Try.prog W 0 (fun _ => true) true n 2 [v0] = some y0 := by simpa [h1H, h1i, h1r, Value.cells] using hx 0 _ rfl
  obtain ⟨z0, k0, _, w0⟩ := DataW.trod_int Try.underlying2 e0
  simp at k0
  have e1 : DataW.trod enc Try.prog W 0 (fun _ => true) true n 22 [v1] = some y1 := by simpa [h1H, h1i, h1r, Value.cells] using hx 1 _ rfl
  obtain ⟨A1, m1, c1, zs1, k1, r1, u1, v1_⟩ := listHeldOpen e1
  have e2 : DataW.trod enc Try.prog W 0 (fun _ => true) true n 23 [v2] = some y2 := by simpa [h1H, h1i, h1r, Value.cells] using hx 2 _ rfl
  obtain ⟨A2, m2, c2, zs2, k2, r2⟩ := rowOpen e2
  subst k0 k1 k2
  exact ⟨z0, A1, m1, c1, zs1, A2, m2, c2, zs2, rfl, w0, r1, u1, v1_, r2⟩

set_option linter.unusedVariables false in
set_option maxRecDepth 100000 in
theorem argCellOpen {H : Type} {enc : TypeId × Value → H} {W : World} {base : Nat} {v : Value} {d : DataW H} {p : List MemPlace} (hv : Value.okWide Try.prog W .any base 27 v) (h : DataW.Trod enc Try.prog W 0 (fun _ => true) true 27 v d p) :
    ∃ (z0 : Int) (z1 : Int) (z2 : Int) (z3 : Int) (z4 : Bool) (A5 : Option Addr) (m5 c5 : Nat) (zs5 : List Int), v = .agg #[.int .i64 z0, .int .i64 z1, .int .i64 z2, .int .i64 z3, .bool z4, .slice A5 m5 c5] ∧ (Lit.int .i64 z0).wf = true ∧ (Lit.int .i64 z1).wf = true ∧ (Lit.int .i64 z2).wf = true ∧ (Lit.int .i64 z3).wf = true ∧ IsRow .u8 W A5 m5 c5 zs5 := by
  obtain ⟨cs, rfl, hsz⟩ := okWide_struct Try.underlying27 hv
  have hN : Try.prog.cellsOf 27 = 6 := by kernel_rfl
  have h1b : Try.prog.cellsOf 4 = 1 := by kernel_rfl
  have h1i : Try.prog.cellsOf 2 = 1 := by kernel_rfl
  have h1r : Try.prog.cellsOf 23 = 1 := by kernel_rfl
  rw [hN] at hsz
  obtain ⟨l⟩ := cs
  simp only [List.size_toArray] at hsz
  rcases l with _ | ⟨v0, _ | ⟨v1, _ | ⟨v2, _ | ⟨v3, _ | ⟨v4, _ | ⟨v5, _ | ⟨v6, r⟩⟩⟩⟩⟩⟩⟩ <;> simp at hsz
  obtain ⟨fuel, hf⟩ := h
  obtain ⟨xs, n, _, _, _, hlen, hx⟩ := DataW.trod_struct Try.underlying27 hf
  rcases xs with _ | ⟨y0, _ | ⟨y1, _ | ⟨y2, _ | ⟨y3, _ | ⟨y4, _ | ⟨y5, _ | ⟨y6, r⟩⟩⟩⟩⟩⟩⟩ <;> simp at hlen
  have e0 : DataW.trod enc Try.prog W 0 (fun _ => true) true n 2 [v0] = some y0 := by simpa [h1b, h1i, h1r, Value.cells] using hx 0 _ rfl
  obtain ⟨z0, k0, _, w0⟩ := DataW.trod_int Try.underlying2 e0
  simp at k0
  have e1 : DataW.trod enc Try.prog W 0 (fun _ => true) true n 2 [v1] = some y1 := by simpa [h1b, h1i, h1r, Value.cells] using hx 1 _ rfl
  obtain ⟨z1, k1, _, w1⟩ := DataW.trod_int Try.underlying2 e1
  simp at k1
  have e2 : DataW.trod enc Try.prog W 0 (fun _ => true) true n 2 [v2] = some y2 := by simpa [h1b, h1i, h1r, Value.cells] using hx 2 _ rfl
  obtain ⟨z2, k2, _, w2⟩ := DataW.trod_int Try.underlying2 e2
  simp at k2
  have e3 : DataW.trod enc Try.prog W 0 (fun _ => true) true n 2 [v3] = some y3 := by simpa [h1b, h1i, h1r, Value.cells] using hx 3 _ rfl
  obtain ⟨z3, k3, _, w3⟩ := DataW.trod_int Try.underlying2 e3
  simp at k3
  have e4 : DataW.trod enc Try.prog W 0 (fun _ => true) true n 4 [v4] = some y4 := by simpa [h1b, h1i, h1r, Value.cells] using hx 4 _ rfl
  obtain ⟨z4, k4, _⟩ := DataW.trod_bool Try.underlying4 e4
  simp at k4
  have e5 : DataW.trod enc Try.prog W 0 (fun _ => true) true n 23 [v5] = some y5 := by simpa [h1b, h1i, h1r, Value.cells] using hx 5 _ rfl
  obtain ⟨A5, m5, c5, zs5, k5, r5⟩ := rowOpen e5
  subst k0 k1 k2 k3 k4 k5
  exact ⟨z0, z1, z2, z3, z4, A5, m5, c5, zs5, rfl, w0, w1, w2, w3, r5⟩

end Go.Proofs.Ytpaemmoopjkppaa
