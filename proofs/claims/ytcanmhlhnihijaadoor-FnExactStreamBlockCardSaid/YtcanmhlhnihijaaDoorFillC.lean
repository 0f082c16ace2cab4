/- Zeros up to a multiple of 16 bytes, of the model. -/
import Derived.Test.YtcanmhlhnihijaaDoorRowC
import Derived.Test.YtcanmhlhnihijaaDoorCopyC
namespace Go.Proofs.YtcanmhlhnihijaaDoor
open Go.RowKit

/-- how many zeros are wanted -/
def fillN (n : Nat) : Nat := (16 - n % 16) % 16
def fillL (l : List Int) : List Int := l ++ List.replicate (fillN l.length) 0
theorem fillL_len (l : List Int) : (fillL l).length = l.length + fillN l.length := by simp [fillL]
theorem fillL_byte (l : List Int) (h : By l) : By (fillL l) := h.append fun x hx => by
  have := (List.mem_replicate.1 hx).2
  omega

/-- how long a slice is -/
def spanOf : Value → Nat
  | .slice _ n _ => n
  | _ => 0

theorem l3Fill_any (A : Option Addr) (n c B : Nat) (l : List Int) (w : World) (h : Row w B (.slice A n c) l) (hl : l.length = n) (hB : B ≤ w.heap.size) (hn : n ≤ 1000000) :
    Calls Tryd.prog 92 #[.slice A n c] w fun e w' => (∃ A' c', e = .returned (.slice A' (n + fillN n) c') ∧ Row w' B (.slice A' (n + fillN n) c') (fillL l)) ∧ Below B w w' := by
  have Hl := Shut.mk hl
  have Hf : Shut (fillL l = l ++ List.replicate (fillN n) 0) := ⟨by rw [fillL, hl]⟩
  have h0 : Row w B (.slice A n c) (l ++ List.replicate 0 0) := by rw [List.replicate_zero, List.append_nil]; exact h
  generalize fillL l = F at *
  clear h
  go_enter Tryd.func92, Tryd.ntmps92
  go_wp2
  go_loopw [0] (fun v wr => ∃ k A' c', k ≤ fillN n ∧ v = .slice A' (n + k) c' ∧ Row wr B (.slice A' (n + k) c') (l ++ List.replicate k 0) ∧ Below B w wr) (fun v _ => n + fillN n - spanOf v)
  case atStart => exact ⟨0, A, c, Nat.zero_le _, rfl, h0, Below.refl _ _⟩
  case round =>
    clear h0
    obtain ⟨k, A3, c3, hk, rfl, hrow, hbel⟩ := hrel
    have hkl : (l ++ List.replicate k (0 : Int)).length = n + k := by rw [List.length_append, Hl.out, List.length_replicate]
    have Hkl := Shut.mk hkl
    have hsz := hbel.size
    have hN : fillN n = (16 - n % 16) % 16 := rfl
    by_cases hlt : k < fillN n
    · have hne : ¬ ((n : Int) + (k : Int)) % 16 = 0 := by omega
      have Hs : Shut (l ++ List.replicate (k + 1) (0 : Int) = l ++ List.replicate k 0 ++ [0]) := ⟨by rw [List.append_assoc, List.replicate_succ']⟩
      clear hkl
      go_wp2_with (at_builtin; refine wpList_row_append rfl _ _ rfl _ B (.slice A3 (n + k) c3) _ rfl (hrow.alloc _) (by simp; omega) ⟨wr.heap.size, 0, none⟩ 1 0 rfl (cell_one _ _ _) (by omega) (by omega) (by rw [Hkl.out]; omega) ?_; intro v4 w4 hr4 hb4 hs4)
      rw [← Hs.out] at hr4
      obtain ⟨A4, c4, rfl, _⟩ := hr4.ow (n := n + (k + 1)) (by rw [List.length_append, Hl.out, List.length_replicate])
      exact ⟨⟨k + 1, A4, c4, by omega, rfl, hr4, (hbel.alloc (by omega) _).trans hb4⟩, by simp [spanOf]; omega⟩
    · obtain rfl : k = fillN n := by omega
      have he : ((n : Int) + (fillN n : Int)) % 16 = 0 := by omega
      rw [← Hf.out] at hrow
      go_wp2
      go_ret
      exact ⟨⟨A3, c3, rfl, hrow⟩, hbel⟩
end Go.Proofs.YtcanmhlhnihijaaDoor
