/- A number of bytes in limbs, of the model. -/
import Derived.Test.YtpoiecdifhkegaaDoorPolyM
import Derived.Test.YtpoiecdifhkegaaDoorStartC
import Derived.Test.YtpoiecdifhkegaaDoorShaC
import Derived.Test.YtpoiecdifhkegaaDoorBase
namespace Go.Proofs.YtpoiecdifhkegaaDoor
open Go.RowKit

theorem and26 (x : Int) (h0 : 0 ≤ x) (h1 : x < 18446744073709551616) : bits .and .u64 x 67108863 = x % 67108864 := by
  rw [u64_and x 67108863 h0 h1 (by omega) (by omega)]
  rw [show (67108863 : Int).toNat = 2 ^ 26 - 1 from rfl, Nat.and_two_pow_sub_one_eq_mod]
  omega
theorem lo_snoc (l : List Int) (x : Int) : lo (l ++ [x]) = lo l + x * 256 ^ l.length := by
  induction l with
  | nil => simp [lo, hi, hiStep]
  | cons a l ih =>
    have h1 : ∀ (a : Int) (l : List Int), lo (a :: l) = lo l * 256 + a := fun a l => by
      unfold lo; rw [List.reverse_cons, hi_snoc]
    rw [List.cons_append, h1, h1, ih, List.length_cons, Int.pow_succ, Int.add_mul, Int.mul_assoc]
    omega
theorem pow256 (k : Nat) : (256 : Int) ^ k = 2 ^ (8 * k) := by
  rw [Int.pow_mul]; rfl
theorem lo_step (l : List Int) (k : Nat) (hk : k < l.length) : lo (l.take (k + 1)) = lo (l.take k) + l.getD k 0 * 2 ^ (8 * k) := by
  rw [List.take_succ_eq_append_getElem hk, lo_snoc, List.length_take, Nat.min_eq_left (by omega), pow256]
  simp [List.getD, List.getElem?_eq_getElem hk]
theorem lo_take_bd (l : List Int) (h : By l) (k : Nat) (hk : k ≤ l.length) : 0 ≤ lo (l.take k) ∧ lo (l.take k) < 2 ^ (8 * k) := by
  have := lo_bd (l.take k) (fun x hx => h x (List.mem_of_mem_take hx))
  rwa [List.length_take, Nat.min_eq_left hk, pow256] at this

theorem KOw.of_eq {k : IntKind} {w : World} {b : Nat} {l l' : List Int} (e : l = l') (h : KOw k w b l') : KOw k w b l := e ▸ h
theorem limbs_len (N : Int) : (limbs N).length = 5 := rfl

theorem info_u64 : (Tryd.prog.info? 81).map (fun i => (i.zero, i.size, i.bytes)) = some (some (.int .u64 0), 1, 8) := by kernel_rfl
/-- five words that are zero, as make lays them -/
def fiveZ : Array Value := Array.replicate 5 (.int .u64 0)
theorem run_make_five (w : World) :
    (Instr.makeSlice 93 (.int .i64 5) (.int .i64 5)).run Tryd.prog w = .ok (.slice (some ⟨w.heap.size, 0, none⟩) 5 5) (w.alloc (.cells fiveZ 81)) := by
  obtain ⟨i, hi, hz0, hz1, hz2⟩ := info_parts info_u64
  have hr := run_make (P := Tryd.prog) w 93 81 i _ Tryd.underlying93 hi hz0 .i64 .i64 5 5 (by omega) (by omega) (by rw [hz2]; omega) (by omega)
  rw [hr, hz1, show madeCells (Value.int .u64 0).cells ((5 : Int).toNat * 1) = fiveZ from by rw [made_one _ rfl]; rfl]
  rfl
theorem five_kb (w : World) : KB .u64 81 (w.alloc (.cells fiveZ 81)) w.heap.size (limbs 0) := KB.new w (limbs 0) fiveZ rfl

set_option maxRecDepth 100000 in
set_option maxHeartbeats 4000000 in
theorem l3Limbs_any (A : Option Addr) (n c : Nat) (l : List Int) (w : World) (h : Bs w A n l) (hn : n ≤ 17) (ht : n = 17 → l.getD 16 0 < 4) :
    Calls Tryd.prog 67 #[.slice A n c] w fun e w' => (∃ g c', e = .returned (.slice (some ⟨g, 0, none⟩) 5 c') ∧ w.heap.size ≤ g ∧ KOw .u64 w' g (limbs (lo l))) ∧ Below w.heap.size w w' := by
  have hmk := run_make_five w
  have hz : limbs (lo (l.take 0)) = limbs 0 := rfl
  have hkb := five_kb w
  rw [← hz] at hkb
  clear hz
  have Hl := Shut.mk h.len
  have Hf : Shut (lo (l.take n) = lo l) := ⟨by rw [List.take_of_length_le (by rw [Hl.out]; exact Nat.le_refl _)]⟩
  have Hst : Shut (∀ k, k < n → limbs (lo (l.take (k + 1))) = limbStep (limbs (lo (l.take k))) k (l.getD k 0)) := ⟨fun k hk => by
    have hb := lo_take_bd l h.byte k (by rw [Hl.out]; omega)
    have hx := h.byte.get k
    rw [lo_step l k (by rw [Hl.out]; exact hk)]
    exact (limb_step _ _ k (by omega) hb.1 hb.2 hx.1 hx.2 (fun e => by subst e; exact ht (by omega))).symm⟩
  have Hbd : Shut (∀ k, k ≤ n → 0 ≤ lo (l.take k) ∧ lo (l.take k) < 2 ^ (8 * k)) := ⟨fun k hk => lo_take_bd l h.byte k (by rw [Hl.out]; omega)⟩
  go_enter Tryd.func67, Tryd.ntmps67
  go_wp2
  go_loopw [4] (fun i wr => ∃ k : Nat, k ≤ n ∧ i = .int .i64 (k : Int) ∧ KOw .u64 wr w.heap.size (limbs (lo (l.take k))) ∧ But w.heap.size (w.heap.size + 1) (w.alloc (.cells fiveZ 81)) wr) (fun i _ => n - (intOf i).toNat)
  case atStart => exact ⟨0, by omega, rfl, hkb.kow, But.refl _ _ _⟩
  case round =>
    clear hkb hmk
    obtain ⟨k, hk, rfl, hv, hbut⟩ := hrel
    by_cases hlt : k < n
    · obtain ⟨b, off, X, rfl, hbs, hX0, hX1, HX, hx⟩ := h.get hlt
      have hx' := (hbut.block b (by omega) (by omega))
      have hs := Hst.out k hlt
      rw [HX.out] at hs
      have hbd := Hbd.out k hk
      have hk17 : k ≤ 16 := by omega
      clear Hst Hbd Hf
      obtain ⟨p0, p1, p2, p3, p4, hp, b0, b1, b2, b3, b4⟩ : ∃ p0 p1 p2 p3 p4, limbs (lo (l.take k)) = [p0, p1, p2, p3, p4] ∧ (0 ≤ p0 ∧ p0 < 67108864) ∧ (0 ≤ p1 ∧ p1 < 67108864) ∧ (0 ≤ p2 ∧ p2 < 67108864) ∧ (0 ≤ p3 ∧ p3 < 67108864) ∧ (0 ≤ p4 ∧ p4 < 4294967296) := by
        refine ⟨_, _, _, _, _, rfl, ?_⟩
        have hp2 : (2 : Int) ^ (8 * k) ≤ 2 ^ 128 := (show ∀ k : Nat, k ≤ 16 → (2 : Int) ^ (8 * k) ≤ 2 ^ 128 by decide) k hk17
        omega
      have Hp := Shut.mk hp
      rw [hp] at hv hs
      have Hs := Shut.mk hs
      clear hs hp
      have hX := (World.cell?_of_block (a := ⟨b, off + k, none⟩) hx').trans ((World.cell?_of_block (a := ⟨b, off + k, none⟩) (Below.heap_alloc w _ b hbs)).trans hx)
      have c0 := hv.cell 0 (by simp)
      have c1 := hv.cell 1 (by simp)
      have c2 := hv.cell 2 (by simp)
      have c3 := hv.cell 3 (by simp)
      have c4 := hv.cell 4 (by simp)
      have f0 := hv.frozen 0
      have f1 := hv.frozen 1
      have f2 := hv.frozen 2
      have f3 := hv.frozen 3
      have f4 := hv.frozen 4
      simp only [List.getD_cons_zero, List.getD_cons_succ] at c0 c1 c2 c3 c4
      clear hx hx' hbd
      have e : (k = 0 ∨ k = 1 ∨ k = 2 ∨ k = 3) ∨ (k = 4 ∨ k = 5 ∨ k = 6) ∨ (k = 7 ∨ k = 8 ∨ k = 9) ∨ (k = 10 ∨ k = 11 ∨ k = 12) ∨ (k = 13 ∨ k = 14 ∨ k = 15 ∨ k = 16) := by omega
      rcases e with e | e | e | e | e
      · rcases e with rfl | rfl | rfl | rfl
        all_goals
          try simp only [Nat.add_zero] at hX
          go_wp2
          try simp (disch := omega) only [and26, IntWalk.u64_in]
          refine ⟨⟨_, by omega, ?_, KOw.of_eq Hs.out ?_, ?_⟩, by simp [intOf]; omega⟩
          · rfl
          · simp [limbStep]
            exact (hv.set_ 0 (by simp) _).set_ 1 (by simp) _
          · exact (hbut.setCell _ _).setCell _ _
      · rcases e with rfl | rfl | rfl
        all_goals
          go_wp2
          try simp (disch := omega) only [and26, IntWalk.u64_in]
          refine ⟨⟨_, by omega, ?_, KOw.of_eq Hs.out ?_, ?_⟩, by simp [intOf]; omega⟩
          · rfl
          · simp [limbStep]
            exact (hv.set_ 1 (by simp) _).set_ 2 (by simp) _
          · exact (hbut.setCell _ _).setCell _ _
      · rcases e with rfl | rfl | rfl
        all_goals
          go_wp2
          try simp (disch := omega) only [and26, IntWalk.u64_in]
          refine ⟨⟨_, by omega, ?_, KOw.of_eq Hs.out ?_, ?_⟩, by simp [intOf]; omega⟩
          · rfl
          · simp [limbStep]
            exact (hv.set_ 2 (by simp) _).set_ 3 (by simp) _
          · exact (hbut.setCell _ _).setCell _ _
      · rcases e with rfl | rfl | rfl
        all_goals
          go_wp2
          try simp (disch := omega) only [and26, IntWalk.u64_in]
          refine ⟨⟨_, by omega, ?_, KOw.of_eq Hs.out ?_, ?_⟩, by simp [intOf]; omega⟩
          · rfl
          · simp [limbStep]
            exact (hv.set_ 3 (by simp) _).set_ 4 (by simp) _
          · exact (hbut.setCell _ _).setCell _ _
      · rcases e with rfl | rfl | rfl | rfl
        all_goals
          go_wp2
          try simp (disch := omega) only [and26, IntWalk.u64_in]
          refine ⟨⟨_, by omega, ?_, KOw.of_eq Hs.out ?_, ?_⟩, by simp [intOf]; omega⟩
          · rfl
          · simp [limbStep]
            exact hv.set_ 4 (by simp) _
          · exact hbut.setCell _ _
    · obtain rfl : k = n := by omega
      rw [Hf.out] at hv
      go_wp2
      go_ret
      exact ⟨⟨_, _, rfl, Nat.le_refl _, hv⟩, (ab (Below.refl _ _) _).trans (hbut.below (by omega) (Nat.le_refl _))⟩
end Go.Proofs.YtpoiecdifhkegaaDoor
