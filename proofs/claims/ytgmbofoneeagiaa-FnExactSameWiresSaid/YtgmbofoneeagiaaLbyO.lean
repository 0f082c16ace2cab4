/- A list of runs of bytes among a law's arguments, opened. -/
import Derived.Test.YtgmbofoneeagiaaBytC
import Derived.Test.YtgmbofoneeagiaaRowO
import Derived.Deep.Slices
namespace Go.Proofs.Ytgmbofoneeagiaa
open Go.ChangeShapes Go.WideShapes Go.ChangeAt Go.RowKit

set_option linter.unusedVariables false in
set_option maxRecDepth 100000 in
theorem listBytesOpen {H : Type} {enc : TypeId × Value → H} {W : World} {n : Nat} {v : Value} {y : DataW H × List MemPlace} (hf : DataW.trod enc Try.prog W 0 (fun _ => true) true n 39 [v] = some y) :
    ∃ (A : Option Addr) (m c : Nat) (els : List (List Int)), v = .slice A m c ∧ Lst bytC 1 W A m els ∧ m ≤ 9223372036854775807 ∧ (∀ e ∈ els, e.length ≤ 9223372036854775807) := by
  have hN : Try.prog.cellsOf 22 = 1 := by kernel_rfl
  rcases Deep.open_slice Try.underlying39 hf with ⟨hcs, _⟩ | ⟨a, len, cap, m, n', D, Pl, hcs, _, hl, hm, hmm, _, hx⟩
  · simp at hcs
    exact ⟨none, 0, 0, [], hcs, Lst.nil_ _ _, by omega, fun e he => by cases he⟩
  simp at hcs
  subst hcs
  have hml : m = cap := by simpa using hmm
  have hx' : ∀ i, i < len → ∃ e : List Int, ∃ xs : List Value, (∀ j, j < 1 → W.cell? (a.add (i * 1 + j)) = xs[j]?) ∧ e.length ≤ 9223372036854775807 ∧ ∀ (j : Nat) (d : Cel), (bytC e)[j]? = some d → ∃ x : Value, xs[j]? = some x ∧ Cel.rd W x d := by
    intro i hi
    obtain ⟨cs', hc, ht⟩ := hx i (by omega)
    rw [hN] at hc
    obtain ⟨_, hcl, hat⟩ := World.cells?_some hc
    rcases cs' with _ | ⟨v0, _ | ⟨v1, r⟩⟩ <;> simp at hcl
    obtain ⟨A0, m0, c0, zs0, k0, r0⟩ := rowOpen ht
    subst k0
    refine ⟨zs0.take m0, [.slice A0 m0 c0], fun j hj => ?_, ?_, fun j d hd => ?_⟩
    · rw [← Deep.add_add]
      exact hat j hj
    · rw [List.length_take]
      have := r0.small; omega
    · rcases j with _ | j <;> simp [bytC] at hd <;> subst hd
      exact ⟨_, rfl, A0, m0, c0, rfl, r0.bs, r0.capz⟩
  obtain ⟨f, hf⟩ := Deep.choose_lt hx'
  refine ⟨some a, len, cap, (List.range len).map f, rfl, ⟨by simp, fun hn => ?_⟩, by unfold maxLen at hm; omega, fun e he => ?_⟩
  · obtain ⟨b, off, spot⟩ := a
    obtain ⟨xs, h1, _, h2⟩ := hf 0 hn
    obtain ⟨x, hx0, _⟩ := h2 0 _ rfl
    have h0 : W.cell? ((⟨b, off, spot⟩ : Addr).add 0) = some x := by
      have := h1 0 (by omega)
      rw [hx0] at this
      simpa using this
    have hspot : spot = none := by simpa [Addr.add] using World.cell?_spot h0
    subst hspot
    have hadd : ∀ j, (⟨b, off, none⟩ : Addr).add j = ⟨b, off + j, none⟩ := fun j => by unfold Addr.add; split <;> simp_all
    refine ⟨b, off, rfl, World.block_lt_of_cell? W _ (by rw [hadd] at h0; exact h0), fun i e hi j d hj => ?_⟩
    have hil : i < len := by
      have := (List.getElem?_eq_some_iff.1 hi).1
      simpa using this
    have he : e = f i := by
      rw [List.getElem?_map, List.getElem?_range hil] at hi
      simpa using hi.symm
    subst he
    obtain ⟨xs, h1, _, h2⟩ := hf i hil
    obtain ⟨x, hx0, hr⟩ := h2 j d hj
    have hjl : j < 1 := (List.getElem?_eq_some_iff.1 hj).1
    refine ⟨x, ?_, hr⟩
    rw [Nat.add_assoc, ← hadd, h1 j hjl, hx0]
  · obtain ⟨i, hi, rfl⟩ := List.mem_map.1 he
    obtain ⟨xs, _, h1, _⟩ := hf i (List.mem_range.1 hi)
    exact h1
end Go.Proofs.Ytgmbofoneeagiaa
