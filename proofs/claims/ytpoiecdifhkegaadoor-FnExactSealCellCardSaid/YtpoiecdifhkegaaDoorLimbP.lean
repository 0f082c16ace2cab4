/- Carries of five limbs, of the program (gen_limb.py). -/
import Derived.Test.YtpoiecdifhkegaaDoorFiveP
namespace Go.Proofs.YtpoiecdifhkegaaDoor
open Go.RowKit

def setTo (a b c d e : Int) : Nat → List Int
  | 0 => [0, 0, 0, 0, 0]
  | 1 => [a % 67108864, 0, 0, 0, 0]
  | 2 => [a % 67108864, (b + a / 67108864) % 67108864, 0, 0, 0]
  | 3 => [a % 67108864, (b + a / 67108864) % 67108864, (c + (b + a / 67108864) / 67108864) % 67108864, 0, 0]
  | 4 => [a % 67108864, (b + a / 67108864) % 67108864, (c + (b + a / 67108864) / 67108864) % 67108864, (d + (c + (b + a / 67108864) / 67108864) / 67108864) % 67108864, 0]
  | _ => [a % 67108864, (b + a / 67108864) % 67108864, (c + (b + a / 67108864) / 67108864) % 67108864, (d + (c + (b + a / 67108864) / 67108864) / 67108864) % 67108864, (e + (d + (c + (b + a / 67108864) / 67108864) / 67108864) / 67108864) % 67108864]
def ovTo (a b c d e : Int) : Nat → Int
  | 0 => 0
  | 1 => (a / 67108864)
  | 2 => ((b + a / 67108864) / 67108864)
  | 3 => ((c + (b + a / 67108864) / 67108864) / 67108864)
  | 4 => ((d + (c + (b + a / 67108864) / 67108864) / 67108864) / 67108864)
  | _ => ((e + (d + (c + (b + a / 67108864) / 67108864) / 67108864) / 67108864) / 67108864)

set_option maxRecDepth 100000 in
set_option maxHeartbeats 4000000 in
theorem carried_any (a b c d e : Int) (w : World) (h0 : 0 ≤ a ∧ a < 9223372036854775808) (h1 : 0 ≤ b ∧ b < 9223372036854775808) (h2 : 0 ≤ c ∧ c < 9223372036854775808) (h3 : 0 ≤ d ∧ d < 9223372036854775808) (h4 : 0 ≤ e ∧ e < 9223372036854775808) :
    Calls Tryd.prog 63 #[.agg #[.int .u64 a, .int .u64 b, .int .u64 c, .int .u64 d, .int .u64 e]] w fun r w' =>
      r = .returned (.tuple #[.agg #[.int .u64 (a % 67108864), .int .u64 ((b + a / 67108864) % 67108864), .int .u64 ((c + (b + a / 67108864) / 67108864) % 67108864), .int .u64 ((d + (c + (b + a / 67108864) / 67108864) / 67108864) % 67108864), .int .u64 ((e + (d + (c + (b + a / 67108864) / 67108864) / 67108864) / 67108864) % 67108864)], .int .u64 ((e + (d + (c + (b + a / 67108864) / 67108864) / 67108864) / 67108864) / 67108864)]) ∧ Below w.heap.size w w' := by
  obtain ⟨h00, h01⟩ := h0
  obtain ⟨h10, h11⟩ := h1
  obtain ⟨h20, h21⟩ := h2
  obtain ⟨h30, h31⟩ := h3
  obtain ⟨h40, h41⟩ := h4
  have B1 := ab (ab (Below.refl _ w) (.cells #[.int .u64 a, .int .u64 b, .int .u64 c, .int .u64 d, .int .u64 e] 83)) (.cells #[.int .u64 0, .int .u64 0, .int .u64 0, .int .u64 0, .int .u64 0] 83)
  have r1 := kow5 (w.alloc (.cells #[.int .u64 a, .int .u64 b, .int .u64 c, .int .u64 d, .int .u64 e] 83)) 0 0 0 0 0 83
  simp only [World.size_alloc] at r1
  go_enter Tryd.func63, Tryd.ntmps63
  go_wp2
  generalize (w.alloc (.cells #[.int .u64 a, .int .u64 b, .int .u64 c, .int .u64 d, .int .u64 e] 83)).alloc (.cells #[.int .u64 0, .int .u64 0, .int .u64 0, .int .u64 0, .int .u64 0] 83) = W1 at *
  have k2 : KOw .u64 W1 (w.heap.size + 1) (setTo a b c d e 0) := r1
  clear r1
  go_loopw [3, 7] (fun v i wr => ∃ k : Nat, k ≤ 5 ∧ i = .int .i64 (k : Int) ∧ v = .int .u64 (ovTo a b c d e k) ∧ KOw .u64 wr (w.heap.size + 1) (setTo a b c d e k) ∧ Below w.heap.size w wr) (fun _ i _ => 5 - (intOf i).toNat)
  case atStart => exact ⟨0, by omega, rfl, rfl, k2, B1⟩
  case round =>
    clear k2 B1
    obtain ⟨k, hk, rfl, rfl, hv, hB⟩ := hrel
    by_cases hlk : k < 5
    · have e5 : k = 0 ∨ k = 1 ∨ k = 2 ∨ k = 3 ∨ k = 4 := by omega
      rcases e5 with rfl | rfl | rfl | rfl | rfl
      · dsimp only [setTo, ovTo] at hv ⊢
        obtain ⟨i0, i1, i2, i3, i4⟩ := idx5s a b c d e wr
        have f0 := hv.frozen 0
        have q0 := hv.cell 0 (by simp)
        have ad : a + 0 = a := by rw [Int.add_zero]
        have nd := and26 a (by omega) (by omega)
        go_wp2
        refine ⟨⟨1, by omega, ?_, ?_, hv.set_ 0 (by simp) _, hB.setCell (by simp) _⟩, by simp [intOf]⟩
        · rfl
        · rfl
      · dsimp only [setTo, ovTo] at hv ⊢
        obtain ⟨i0, i1, i2, i3, i4⟩ := idx5s a b c d e wr
        have f0 := hv.frozen 1
        have q0 := hv.cell 1 (by simp)
        have ad : b + (a / 67108864) = (b + a / 67108864) := by rfl
        have nd := and26 (b + a / 67108864) (by omega) (by omega)
        go_wp2
        refine ⟨⟨2, by omega, ?_, ?_, hv.set_ 1 (by simp) _, hB.setCell (by simp) _⟩, by simp [intOf]⟩
        · rfl
        · rfl
      · dsimp only [setTo, ovTo] at hv ⊢
        obtain ⟨i0, i1, i2, i3, i4⟩ := idx5s a b c d e wr
        have f0 := hv.frozen 2
        have q0 := hv.cell 2 (by simp)
        have ad : c + ((b + a / 67108864) / 67108864) = (c + (b + a / 67108864) / 67108864) := by rfl
        have nd := and26 (c + (b + a / 67108864) / 67108864) (by omega) (by omega)
        go_wp2
        refine ⟨⟨3, by omega, ?_, ?_, hv.set_ 2 (by simp) _, hB.setCell (by simp) _⟩, by simp [intOf]⟩
        · rfl
        · rfl
      · dsimp only [setTo, ovTo] at hv ⊢
        obtain ⟨i0, i1, i2, i3, i4⟩ := idx5s a b c d e wr
        have f0 := hv.frozen 3
        have q0 := hv.cell 3 (by simp)
        have ad : d + ((c + (b + a / 67108864) / 67108864) / 67108864) = (d + (c + (b + a / 67108864) / 67108864) / 67108864) := by rfl
        have nd := and26 (d + (c + (b + a / 67108864) / 67108864) / 67108864) (by omega) (by omega)
        go_wp2
        refine ⟨⟨4, by omega, ?_, ?_, hv.set_ 3 (by simp) _, hB.setCell (by simp) _⟩, by simp [intOf]⟩
        · rfl
        · rfl
      · dsimp only [setTo, ovTo] at hv ⊢
        obtain ⟨i0, i1, i2, i3, i4⟩ := idx5s a b c d e wr
        have f0 := hv.frozen 4
        have q0 := hv.cell 4 (by simp)
        have ad : e + ((d + (c + (b + a / 67108864) / 67108864) / 67108864) / 67108864) = (e + (d + (c + (b + a / 67108864) / 67108864) / 67108864) / 67108864) := by rfl
        have nd := and26 (e + (d + (c + (b + a / 67108864) / 67108864) / 67108864) / 67108864) (by omega) (by omega)
        go_wp2
        refine ⟨⟨5, by omega, ?_, ?_, hv.set_ 4 (by simp) _, hB.setCell (by simp) _⟩, by simp [intOf]⟩
        · rfl
        · rfl
    · obtain rfl : k = 5 := by omega
      dsimp only [setTo, ovTo] at hv ⊢
      obtain ⟨p0, p1, p2, p3, p4, g0, g1, g2, g3, g4⟩ := hv.full5
      go_wp2
      have s4 := set5 rfl hv (a % 67108864) ((b + a / 67108864) % 67108864) ((c + (b + a / 67108864) / 67108864) % 67108864) ((d + (c + (b + a / 67108864) / 67108864) / 67108864) % 67108864) ((e + (d + (c + (b + a / 67108864) / 67108864) / 67108864) / 67108864) % 67108864)
      have b4 := below5 hB (show w.heap.size ≤ w.heap.size + 1 by omega) (.int .u64 (a % 67108864)) (.int .u64 ((b + a / 67108864) % 67108864)) (.int .u64 ((c + (b + a / 67108864) / 67108864) % 67108864)) (.int .u64 ((d + (c + (b + a / 67108864) / 67108864) / 67108864) % 67108864)) (.int .u64 ((e + (d + (c + (b + a / 67108864) / 67108864) / 67108864) / 67108864) % 67108864))
      clear p0 p1 p2 p3 p4 g0 g1 g2 g3 g4
      generalize World.setCell _ ⟨w.heap.size + 1, 4, none⟩ _ = W9 at *
      obtain ⟨c0, c1, c2, c3, c4, _⟩ := s4.full5
      exact bodyPost_ret (v := .tuple #[.agg #[.int .u64 (a % 67108864), .int .u64 ((b + a / 67108864) % 67108864), .int .u64 ((c + (b + a / 67108864) / 67108864) % 67108864), .int .u64 ((d + (c + (b + a / 67108864) / 67108864) / 67108864) % 67108864), .int .u64 ((e + (d + (c + (b + a / 67108864) / 67108864) / 67108864) / 67108864) % 67108864)], .int .u64 ((e + (d + (c + (b + a / 67108864) / 67108864) / 67108864) / 67108864) / 67108864)]) (by simp [results, Tryd.results63, go_sem, c0, c1, c2, c3, c4]) rfl ⟨rfl, b4⟩
end Go.Proofs.YtpoiecdifhkegaaDoor
