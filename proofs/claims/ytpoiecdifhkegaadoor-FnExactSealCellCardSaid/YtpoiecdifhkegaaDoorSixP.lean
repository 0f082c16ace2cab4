/- Sixteen words as an array's box holds them (gen_six.py). -/
import Derived.Test.YtpoiecdifhkegaaDoorStepP
import Derived.Test.YtpoiecdifhkegaaDoorCopyP
import Derived.Test.YtpoiecdifhkegaaDoorWlowP
namespace Go.Proofs.YtpoiecdifhkegaaDoor
open Go.RowKit

theorem list16 (l : List Int) (h : l.length = 16) : ∃ a0 a1 a2 a3 a4 a5 a6 a7 a8 a9 a10 a11 a12 a13 a14 a15, l = [a0, a1, a2, a3, a4, a5, a6, a7, a8, a9, a10, a11, a12, a13, a14, a15] := by
  match l, h with
  | [a0, a1, a2, a3, a4, a5, a6, a7, a8, a9, a10, a11, a12, a13, a14, a15], _ => exact ⟨_, _, _, _, _, _, _, _, _, _, _, _, _, _, _, _, rfl⟩
theorem set16 {w : World} {g : Nat} {l : List Int} (hl : l.length = 16) (h : KOw .u32 w g l) (a0 a1 a2 a3 a4 a5 a6 a7 a8 a9 a10 a11 a12 a13 a14 a15 : Int) :
    KOw .u32 ((((((((((((((((w.setCell ⟨g, 0, none⟩ (.int .u32 a0)).setCell ⟨g, 1, none⟩ (.int .u32 a1)).setCell ⟨g, 2, none⟩ (.int .u32 a2)).setCell ⟨g, 3, none⟩ (.int .u32 a3)).setCell ⟨g, 4, none⟩ (.int .u32 a4)).setCell ⟨g, 5, none⟩ (.int .u32 a5)).setCell ⟨g, 6, none⟩ (.int .u32 a6)).setCell ⟨g, 7, none⟩ (.int .u32 a7)).setCell ⟨g, 8, none⟩ (.int .u32 a8)).setCell ⟨g, 9, none⟩ (.int .u32 a9)).setCell ⟨g, 10, none⟩ (.int .u32 a10)).setCell ⟨g, 11, none⟩ (.int .u32 a11)).setCell ⟨g, 12, none⟩ (.int .u32 a12)).setCell ⟨g, 13, none⟩ (.int .u32 a13)).setCell ⟨g, 14, none⟩ (.int .u32 a14)).setCell ⟨g, 15, none⟩ (.int .u32 a15)) g [a0, a1, a2, a3, a4, a5, a6, a7, a8, a9, a10, a11, a12, a13, a14, a15] := by
  obtain ⟨x0, x1, x2, x3, x4, x5, x6, x7, x8, x9, x10, x11, x12, x13, x14, x15, rfl⟩ := list16 l hl
  have h0 := h.set_ 0 (by simp) a0
  have h1 := h0.set_ 1 (by simp) a1
  have h2 := h1.set_ 2 (by simp) a2
  have h3 := h2.set_ 3 (by simp) a3
  have h4 := h3.set_ 4 (by simp) a4
  have h5 := h4.set_ 5 (by simp) a5
  have h6 := h5.set_ 6 (by simp) a6
  have h7 := h6.set_ 7 (by simp) a7
  have h8 := h7.set_ 8 (by simp) a8
  have h9 := h8.set_ 9 (by simp) a9
  have h10 := h9.set_ 10 (by simp) a10
  have h11 := h10.set_ 11 (by simp) a11
  have h12 := h11.set_ 12 (by simp) a12
  have h13 := h12.set_ 13 (by simp) a13
  have h14 := h13.set_ 14 (by simp) a14
  have h15 := h14.set_ 15 (by simp) a15
  simp only [List.set_cons_succ, List.set_cons_zero] at h15
  exact h15
theorem below16 {w : World} {B g : Nat} {W : World} (h : Below B W w) (hB : B ≤ g) (v0 v1 v2 v3 v4 v5 v6 v7 v8 v9 v10 v11 v12 v13 v14 v15 : Value) : Below B W ((((((((((((((((w.setCell ⟨g, 0, none⟩ v0).setCell ⟨g, 1, none⟩ v1).setCell ⟨g, 2, none⟩ v2).setCell ⟨g, 3, none⟩ v3).setCell ⟨g, 4, none⟩ v4).setCell ⟨g, 5, none⟩ v5).setCell ⟨g, 6, none⟩ v6).setCell ⟨g, 7, none⟩ v7).setCell ⟨g, 8, none⟩ v8).setCell ⟨g, 9, none⟩ v9).setCell ⟨g, 10, none⟩ v10).setCell ⟨g, 11, none⟩ v11).setCell ⟨g, 12, none⟩ v12).setCell ⟨g, 13, none⟩ v13).setCell ⟨g, 14, none⟩ v14).setCell ⟨g, 15, none⟩ v15) := by
  have h0 := h.setCell (p := ⟨g, 0, none⟩) hB v0
  have h1 := h0.setCell (p := ⟨g, 1, none⟩) hB v1
  have h2 := h1.setCell (p := ⟨g, 2, none⟩) hB v2
  have h3 := h2.setCell (p := ⟨g, 3, none⟩) hB v3
  have h4 := h3.setCell (p := ⟨g, 4, none⟩) hB v4
  have h5 := h4.setCell (p := ⟨g, 5, none⟩) hB v5
  have h6 := h5.setCell (p := ⟨g, 6, none⟩) hB v6
  have h7 := h6.setCell (p := ⟨g, 7, none⟩) hB v7
  have h8 := h7.setCell (p := ⟨g, 8, none⟩) hB v8
  have h9 := h8.setCell (p := ⟨g, 9, none⟩) hB v9
  have h10 := h9.setCell (p := ⟨g, 10, none⟩) hB v10
  have h11 := h10.setCell (p := ⟨g, 11, none⟩) hB v11
  have h12 := h11.setCell (p := ⟨g, 12, none⟩) hB v12
  have h13 := h12.setCell (p := ⟨g, 13, none⟩) hB v13
  have h14 := h13.setCell (p := ⟨g, 14, none⟩) hB v14
  have h15 := h14.setCell (p := ⟨g, 15, none⟩) hB v15
  exact h15
structure Full16 (w : World) (g : Nat) (a0 a1 a2 a3 a4 a5 a6 a7 a8 a9 a10 a11 a12 a13 a14 a15 : Int) : Prop where
  c0 : w.cell? ⟨g, 0, none⟩ = some (.int .u32 a0)
  c1 : w.cell? ⟨g, 1, none⟩ = some (.int .u32 a1)
  c2 : w.cell? ⟨g, 2, none⟩ = some (.int .u32 a2)
  c3 : w.cell? ⟨g, 3, none⟩ = some (.int .u32 a3)
  c4 : w.cell? ⟨g, 4, none⟩ = some (.int .u32 a4)
  c5 : w.cell? ⟨g, 5, none⟩ = some (.int .u32 a5)
  c6 : w.cell? ⟨g, 6, none⟩ = some (.int .u32 a6)
  c7 : w.cell? ⟨g, 7, none⟩ = some (.int .u32 a7)
  c8 : w.cell? ⟨g, 8, none⟩ = some (.int .u32 a8)
  c9 : w.cell? ⟨g, 9, none⟩ = some (.int .u32 a9)
  c10 : w.cell? ⟨g, 10, none⟩ = some (.int .u32 a10)
  c11 : w.cell? ⟨g, 11, none⟩ = some (.int .u32 a11)
  c12 : w.cell? ⟨g, 12, none⟩ = some (.int .u32 a12)
  c13 : w.cell? ⟨g, 13, none⟩ = some (.int .u32 a13)
  c14 : w.cell? ⟨g, 14, none⟩ = some (.int .u32 a14)
  c15 : w.cell? ⟨g, 15, none⟩ = some (.int .u32 a15)
  f0 : w.frozen? ⟨g, 0, none⟩ = false
  f1 : w.frozen? ⟨g, 1, none⟩ = false
  f2 : w.frozen? ⟨g, 2, none⟩ = false
  f3 : w.frozen? ⟨g, 3, none⟩ = false
  f4 : w.frozen? ⟨g, 4, none⟩ = false
  f5 : w.frozen? ⟨g, 5, none⟩ = false
  f6 : w.frozen? ⟨g, 6, none⟩ = false
  f7 : w.frozen? ⟨g, 7, none⟩ = false
  f8 : w.frozen? ⟨g, 8, none⟩ = false
  f9 : w.frozen? ⟨g, 9, none⟩ = false
  f10 : w.frozen? ⟨g, 10, none⟩ = false
  f11 : w.frozen? ⟨g, 11, none⟩ = false
  f12 : w.frozen? ⟨g, 12, none⟩ = false
  f13 : w.frozen? ⟨g, 13, none⟩ = false
  f14 : w.frozen? ⟨g, 14, none⟩ = false
  f15 : w.frozen? ⟨g, 15, none⟩ = false
theorem KOw.full16 {w : World} {g : Nat} {a0 a1 a2 a3 a4 a5 a6 a7 a8 a9 a10 a11 a12 a13 a14 a15 : Int} (h : KOw .u32 w g [a0, a1, a2, a3, a4, a5, a6, a7, a8, a9, a10, a11, a12, a13, a14, a15]) : Full16 w g a0 a1 a2 a3 a4 a5 a6 a7 a8 a9 a10 a11 a12 a13 a14 a15 :=
  ⟨h.cell 0 (by simp), h.cell 1 (by simp), h.cell 2 (by simp), h.cell 3 (by simp), h.cell 4 (by simp), h.cell 5 (by simp), h.cell 6 (by simp), h.cell 7 (by simp), h.cell 8 (by simp), h.cell 9 (by simp), h.cell 10 (by simp), h.cell 11 (by simp), h.cell 12 (by simp), h.cell 13 (by simp), h.cell 14 (by simp), h.cell 15 (by simp), h.frozen 0, h.frozen 1, h.frozen 2, h.frozen 3, h.frozen 4, h.frozen 5, h.frozen 6, h.frozen 7, h.frozen 8, h.frozen 9, h.frozen 10, h.frozen 11, h.frozen 12, h.frozen 13, h.frozen 14, h.frozen 15⟩
theorem kow16 (w : World) (a0 a1 a2 a3 a4 a5 a6 a7 a8 a9 a10 a11 a12 a13 a14 a15 : Int) (t : TypeId) : KOw .u32 (w.alloc (.cells #[.int .u32 a0, .int .u32 a1, .int .u32 a2, .int .u32 a3, .int .u32 a4, .int .u32 a5, .int .u32 a6, .int .u32 a7, .int .u32 a8, .int .u32 a9, .int .u32 a10, .int .u32 a11, .int .u32 a12, .int .u32 a13, .int .u32 a14, .int .u32 a15] t)) w.heap.size [a0, a1, a2, a3, a4, a5, a6, a7, a8, a9, a10, a11, a12, a13, a14, a15] := (KB.new (t := t) w [a0, a1, a2, a3, a4, a5, a6, a7, a8, a9, a10, a11, a12, a13, a14, a15] _ rfl).kow

theorem wordsLow_any (b off m c k : Nat) (l : List Int) (w : World) (h : Bs w (some ⟨b, off, none⟩) m l) (hm : m = 4 * k) (hk : k ≤ 100) (hc : m ≤ c) :
    Calls Tryd.prog 73 #[.slice (some ⟨b, off, none⟩) m c] w fun e w' => (∃ v, e = .returned v ∧ KRow w' w.heap.size v (wordsLow l k)) ∧ Below w.heap.size w w' :=
  (callsIn_wide (n := 4)).1 (wordsLow_in Fence.wide 4 (fun _ => trivial) (fun _ _ _ _ _ hc => callsIn_wide.2 hc) rfl (by omega) b off m c k l w h hm hk hc)
end Go.Proofs.YtpoiecdifhkegaaDoor
