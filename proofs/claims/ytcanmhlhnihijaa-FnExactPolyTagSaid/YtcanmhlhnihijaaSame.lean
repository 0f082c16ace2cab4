/- SameBytes: bytes as strings. -/
import Derived.Test.YtcanmhlhnihijaaBytesC
namespace Go.Proofs.Ytcanmhlhnihijaa
open Go.RowKit

theorem strOfNums_inj {l r : List Int} (hl : By l) (hr : By r) (h : strOfNums l = strOfNums r) : l = r := by
  have h1 : l.map (fun n => UInt8.ofNat n.toNat) = r.map (fun n => UInt8.ofNat n.toNat) := by
    rw [← strOfNums_data, ← strOfNums_data, h]
  have back : ∀ a : List Int, By a → (a.map (fun n => UInt8.ofNat n.toNat)).map (fun b => (b.toNat : Int)) = a := by
    intro a ha
    rw [List.map_map]
    conv => rhs; rw [← List.map_id a]
    apply List.map_congr_left
    intro x hx
    have hb := ha x hx
    simp only [Function.comp, id]
    rw [UInt8.toNat_ofNat']
    omega
  rw [← back l hl, ← back r hr, h1]

theorem run_str {w : World} {A : Option Addr} {n : Nat} {l : List Int} (h : Bs w A n l) (c : Nat) :
    (convert 22 9 (.slice A n c)).run Try.prog w = .ok (.string (strOfNums l)) w := by
  by_cases hn : 0 < n
  · obtain ⟨b, off, rfl, _, hc⟩ := h.at_ hn
    exact run_convert_bytes_arg w 22 5 Try.underlying22 Try.underlying5 b off n c l h.len hc 9 Try.underlying9
  · obtain rfl : n = 0 := by omega
    obtain rfl : l = [] := List.eq_nil_of_length_eq_zero h.len
    cases A with
    | none => exact run_convert_bytes_nil w 22 5 Try.underlying22 Try.underlying5 0 c 9 Try.underlying9
    | some a =>
      rw [run_convert_bytes_string w 22 9 5 _ 0 c Try.underlying22 Try.underlying5 Try.underlying9,
        run_bytesToString w a 0 c [] (by simp [loadCells, loadCellsFrom])]
      rfl

theorem str_beq {l r : List Int} (hl : By l) (hr : By r) : ((strOfNums l).toList == (strOfNums r).toList) = decide (l = r) := by
  rw [Bool.eq_iff_iff, beq_iff_eq, ByteArray.toList_eq, ByteArray.toList_eq, decide_eq_true_iff]
  exact ⟨fun e => strOfNums_inj hl hr (ByteArray.ext (Array.toList_inj.mp e)), fun e => by rw [e]⟩

end Go.Proofs.Ytcanmhlhnihijaa
