import Derived.Test.YtpaemmoopjkppaaRowO
import Derived.Test.YtpaemmoopjkppaaEvnC
import Derived.Deep.Slices
/- A law's arguments with lists in them, opened. -/
namespace Go.Proofs.Ytpaemmoopjkppaa
open Go.ChangeShapes Go.WideShapes Go.ChangeAt Go.RowKit

set_option linter.unusedVariables false in
set_option maxRecDepth 100000 in
theorem elemEventOpen {H : Type} {enc : TypeId × Value → H} {W : World} {n : Nat} {cs : List Value} {y : DataW H × List MemPlace} (hf : DataW.trod enc Try.prog W 0 (fun _ => true) true n 101 cs = some y) :
    ∃ (z0 : Int) (z1 : Int) (A2 : Option Addr) (m2 c2 : Nat) (zs2 : List Int) (z3 : Int) (z4 : Int) (z5 : Int), cs = [.int .i64 z0, .int .i64 z1, .slice A2 m2 c2, .int .i64 z3, .int .i64 z4, .int .i64 z5] ∧ IsRow .u8 W A2 m2 c2 zs2 := by
  have hN : Try.prog.cellsOf 101 = 6 := by kernel_rfl
  have hi : Try.prog.cellsOf 2 = 1 := by kernel_rfl
  have hb : Try.prog.cellsOf 4 = 1 := by kernel_rfl
  have hs : Try.prog.cellsOf 23 = 1 := by kernel_rfl
  obtain ⟨xs, n', _, _, hl0, hlen, hx⟩ := DataW.trod_struct Try.underlying101 hf
  rw [hN] at hl0
  rcases cs with _ | ⟨v0, _ | ⟨v1, _ | ⟨v2, _ | ⟨v3, _ | ⟨v4, _ | ⟨v5, _ | ⟨v6, r⟩⟩⟩⟩⟩⟩⟩ <;> simp at hl0
  rcases xs with _ | ⟨y0, _ | ⟨y1, _ | ⟨y2, _ | ⟨y3, _ | ⟨y4, _ | ⟨y5, _ | ⟨y6, r⟩⟩⟩⟩⟩⟩⟩ <;> simp at hlen
  have e0 : DataW.trod enc Try.prog W 0 (fun _ => true) true n' 2 [v0] = some y0 := by simpa [hi, hb, hs] using hx 0 _ rfl
  obtain ⟨z0, k0, _, w0⟩ := DataW.trod_int Try.underlying2 e0
  simp at k0
  have e1 : DataW.trod enc Try.prog W 0 (fun _ => true) true n' 2 [v1] = some y1 := by simpa [hi, hb, hs] using hx 1 _ rfl
  obtain ⟨z1, k1, _, w1⟩ := DataW.trod_int Try.underlying2 e1
  simp at k1
  have e2 : DataW.trod enc Try.prog W 0 (fun _ => true) true n' 23 [v2] = some y2 := by simpa [hi, hb, hs] using hx 2 _ rfl
  obtain ⟨A2, m2, c2, zs2, k2, r2⟩ := rowOpen e2
  have e3 : DataW.trod enc Try.prog W 0 (fun _ => true) true n' 2 [v3] = some y3 := by simpa [hi, hb, hs] using hx 3 _ rfl
  obtain ⟨z3, k3, _, w3⟩ := DataW.trod_int Try.underlying2 e3
  simp at k3
  have e4 : DataW.trod enc Try.prog W 0 (fun _ => true) true n' 2 [v4] = some y4 := by simpa [hi, hb, hs] using hx 4 _ rfl
  obtain ⟨z4, k4, _, w4⟩ := DataW.trod_int Try.underlying2 e4
  simp at k4
  have e5 : DataW.trod enc Try.prog W 0 (fun _ => true) true n' 2 [v5] = some y5 := by simpa [hi, hb, hs] using hx 5 _ rfl
  obtain ⟨z5, k5, _, w5⟩ := DataW.trod_int Try.underlying2 e5
  simp at k5
  subst k0 k1 k2 k3 k4 k5
  exact ⟨z0, z1, A2, m2, c2, zs2, z3, z4, z5, rfl, r2⟩

set_option linter.unusedVariables false in
set_option maxRecDepth 100000 in
theorem listEventOpen {H : Type} {enc : TypeId × Value → H} {W : World} {n : Nat} {v : Value} {y : DataW H × List MemPlace} (hf : DataW.trod enc Try.prog W 0 (fun _ => true) true n 47 [v] = some y) :
    ∃ (A : Option Addr) (m c : Nat) (els : List EventD), v = .slice A m c ∧ Lst EventD.cels 6 W A m els ∧ m ≤ 9223372036854775807 ∧ (∀ e ∈ els, e.f2.length ≤ 9223372036854775807) := by
  have hN : Try.prog.cellsOf 101 = 6 := by kernel_rfl
  rcases Deep.open_slice Try.underlying47 hf with ⟨hcs, _⟩ | ⟨a, len, cap, m, n', D, Pl, hcs, _, hl, hm, hmm, _, hx⟩
  · simp at hcs
    exact ⟨none, 0, 0, [], hcs, Lst.nil_ _ _, by omega, fun e he => by cases he⟩
  simp at hcs
  subst hcs
  have hml : m = cap := by simpa using hmm
  have hx' : ∀ i, i < len → ∃ e : EventD, ∃ xs : List Value, (∀ j, j < 6 → W.cell? (a.add (i * 6 + j)) = xs[j]?) ∧ e.f2.length ≤ 9223372036854775807 ∧ ∀ (j : Nat) (d : Cel), e.cels[j]? = some d → ∃ x : Value, xs[j]? = some x ∧ Cel.rd W x d := by
    intro i hi
    obtain ⟨cs', hc, ht⟩ := hx i (by omega)
    rw [hN] at hc
    obtain ⟨_, hcl, hat⟩ := World.cells?_some hc
    obtain ⟨z0, z1, A2, m2, c2, zs2, z3, z4, z5, rfl, r2⟩ := elemEventOpen ht
    refine ⟨⟨z0, z1, zs2.take m2, z3, z4, z5⟩, [.int .i64 z0, .int .i64 z1, .slice A2 m2 c2, .int .i64 z3, .int .i64 z4, .int .i64 z5], fun j hj => ?_, ?_, fun j d hd => ?_⟩
    · rw [← Deep.add_add]
      exact hat j hj
    · show (zs2.take m2).length ≤ _
      rw [List.length_take]
      have := r2.small; omega
    · rcases j with _ | _ | _ | _ | _ | _ | j <;> simp [EventD.cels] at hd <;> subst hd
      · exact ⟨_, rfl, rfl⟩
      · exact ⟨_, rfl, rfl⟩
      · exact ⟨_, rfl, A2, m2, c2, rfl, r2.bs, r2.capz⟩
      · exact ⟨_, rfl, rfl⟩
      · exact ⟨_, rfl, rfl⟩
      · exact ⟨_, rfl, rfl⟩
  haveI : Inhabited EventD := ⟨⟨0, 0, [], 0, 0, 0⟩⟩
  obtain ⟨f, hf⟩ := Deep.choose_lt hx'
  refine ⟨some a, len, cap, (List.range len).map f, rfl, ⟨by simp, fun hn => ?_⟩, by unfold maxLen at hm; omega, fun e he => ?_⟩
  · obtain ⟨b, off, spot⟩ := a
    obtain ⟨xs, h1, _, h2⟩ := hf 0 hn
    obtain ⟨x, hx0, _⟩ := h2 0 _ rfl
    have h0 : W.cell? ((⟨b, off, spot⟩ : Addr).add 0) = some x := by
      have := h1 0 (by omega)
      rw [hx0] at this
      simpa using this
    have hspot : spot = none := by simpa [Addr.add] using World.cell?_spot h0
    subst hspot
    have hadd : ∀ j, (⟨b, off, none⟩ : Addr).add j = ⟨b, off + j, none⟩ := fun j => by unfold Addr.add; split <;> simp_all
    refine ⟨b, off, rfl, World.block_lt_of_cell? W _ (by rw [hadd] at h0; exact h0), fun i e hi j d hj => ?_⟩
    have hil : i < len := by
      have := (List.getElem?_eq_some_iff.1 hi).1
      simpa using this
    have he : e = f i := by
      rw [List.getElem?_map, List.getElem?_range hil] at hi
      simpa using hi.symm
    subst he
    obtain ⟨xs, h1, _, h2⟩ := hf i hil
    obtain ⟨x, hx0, hr⟩ := h2 j d hj
    have hjl : j < 6 := (List.getElem?_eq_some_iff.1 hj).1
    refine ⟨x, ?_, hr⟩
    rw [Nat.add_assoc, ← hadd, h1 j hjl, hx0]
  · obtain ⟨i, hi, rfl⟩ := List.mem_map.1 he
    obtain ⟨xs, _, h1, _⟩ := hf i (List.mem_range.1 hi)
    exact h1

end Go.Proofs.Ytpaemmoopjkppaa
