/- The first half of a key for a tag, of the model. -/
import Derived.Test.YtpoiecdifhkegaaDoorLimbsC
import Derived.Test.YtpoiecdifhkegaaDoorBase
namespace Go.Proofs.YtpoiecdifhkegaaDoor
open Go.RowKit

def clampA (l : List Int) : Nat → List Int
  | 0 => l
  | k + 1 => (clampA l k).set (4 * k + 3) ((clampA l k).getD (4 * k + 3) 0 % 16)
def clampB (l : List Int) : Nat → List Int
  | 0 => clampA l 4
  | k + 1 => (clampB l k).set (4 * k + 4) ((clampB l k).getD (4 * k + 4) 0 / 4 * 4)
/-- sixteen bytes of which some bits are put to nought -/
def clampL (l : List Int) : List Int := clampB l 3
theorem clampA_len (l : List Int) (k : Nat) : (clampA l k).length = l.length := by
  induction k with
  | zero => rfl
  | succ k ih => rw [clampA, List.length_set, ih]
theorem clampB_len (l : List Int) (k : Nat) : (clampB l k).length = l.length := by
  induction k with
  | zero => exact clampA_len _ _
  | succ k ih => rw [clampB, List.length_set, ih]
theorem By.set_ {l : List Int} (h : By l) (i : Nat) {x : Int} (h0 : 0 ≤ x) (h1 : x < 256) : By (l.set i x) := fun y hy => by
  rcases List.mem_or_eq_of_mem_set hy with h2 | rfl
  · exact h y h2
  · exact ⟨h0, h1⟩
theorem clampA_byte (l : List Int) (h : By l) (k : Nat) : By (clampA l k) := by
  induction k with
  | zero => exact h
  | succ k ih => have := ih.get (4 * k + 3); rw [clampA]; exact ih.set_ _ (by omega) (by omega)
theorem clampB_byte (l : List Int) (h : By l) (k : Nat) : By (clampB l k) := by
  induction k with
  | zero => exact clampA_byte _ h _
  | succ k ih => have := ih.get (4 * k + 4); rw [clampB]; exact ih.set_ _ (by omega) (by omega)
theorem and15 (x : Int) (h0 : 0 ≤ x) (h1 : x < 256) : bits .and .u8 x 15 = x % 16 := by
  rw [u8_and x 15 h0 h1 (by omega) (by omega)]
  rw [show (15 : Int).toNat = 2 ^ 4 - 1 from rfl, Nat.and_two_pow_sub_one_eq_mod]
  omega
theorem and252 (x : Int) (h0 : 0 ≤ x) (h1 : x < 256) : bits .and .u8 x 252 = x / 4 * 4 := by
  rw [u8_and x 252 h0 h1 (by omega) (by omega)]
  obtain ⟨n, rfl⟩ := Int.eq_ofNat_of_zero_le h0
  have hn : n < 256 := by omega
  have hd : ∀ n : Fin 256, (n.val &&& 252) = n.val / 4 * 4 := by decide +kernel
  have := hd ⟨n, hn⟩
  simp only at this
  rw [show (252 : Int).toNat = 252 from rfl, show ((n : Int)).toNat = n from rfl, this]
  omega

set_option maxRecDepth 100000 in
set_option maxHeartbeats 4000000 in
theorem l3Clamp_any (A : Option Addr) (n c : Nat) (l : List Int) (w : World) (h : Bs w A n l) (hn : 16 ≤ n) (hc : n ≤ c) :
    Calls Tryd.prog 68 #[.slice A n c] w fun e w' => (∃ g c', e = .returned (.slice (some ⟨g, 0, none⟩) 16 c') ∧ w.heap.size ≤ g ∧ Ow w' w.heap.size (some ⟨g, 0, none⟩) 16 (clampL (l.take 16))) ∧ Below w.heap.size w w' := by
  obtain ⟨b, off, rfl, hb, _⟩ := h.at_ (by omega)
  have hp := h.part_ 0 16 (by omega)
  rw [Nat.add_zero, List.drop_zero] at hp
  have hL := Shut.mk hp.len
  have hby := Shut.mk hp.byte
  generalize l.take 16 = L at *
  go_enter Tryd.func68, Tryd.ntmps68
  go_wp2_with fail
  refine (copyb_any _ _ _ _ _ hp (fun e => by cases e) (by omega)).mono ?_
  rintro e w1 ⟨⟨A1, c1, rfl, hrow⟩, hb1⟩
  have how := hrow.ow' hp.len
  obtain ⟨g, rfl, hgB, hgl, hcell, hfz⟩ := how.at_ (by omega)
  have k0 : KOw .u8 w1 g (clampA L 0) := ⟨hgl, fun i hi => hcell i (by rw [clampA, hL.out] at hi; exact hi), hfz⟩
  have HF : Shut (clampL L = clampB L 3) := ⟨rfl⟩
  have HB0 : Shut (clampB L 0 = clampA L 4) := ⟨rfl⟩
  have HA : Shut (∀ k, clampA L (k + 1) = (clampA L k).set (4 * k + 3) ((clampA L k).getD (4 * k + 3) 0 % 16)) := ⟨fun _ => rfl⟩
  have HB : Shut (∀ k, clampB L (k + 1) = (clampB L k).set (4 * k + 4) ((clampB L k).getD (4 * k + 4) 0 / 4 * 4)) := ⟨fun _ => rfl⟩
  have BA : Shut (∀ k, By (clampA L k) ∧ (clampA L k).length = 16) := ⟨fun k => ⟨clampA_byte L hby.out k, (clampA_len L k).trans hL.out⟩⟩
  have BB : Shut (∀ k, By (clampB L k) ∧ (clampB L k).length = 16) := ⟨fun k => ⟨clampB_byte L hby.out k, (clampB_len L k).trans hL.out⟩⟩
  clear hrow how hcell hfz hp
  go_wp2
  have hq : KB .i64 3 (w1.alloc (.cells #[.int .i64 3, .int .i64 7, .int .i64 11, .int .i64 15] 3)) w1.heap.size [3, 7, 11, 15] := KB.new w1 _ _ rfl
  have k1 := k0.alloc (.cells #[.int .i64 3, .int .i64 7, .int .i64 11, .int .i64 15] 3)
  have B1 : Below w.heap.size w (w1.alloc (.cells #[.int .i64 3, .int .i64 7, .int .i64 11, .int .i64 15] 3)) := ab hb1 _
  generalize hW : w1.alloc (.cells #[.int .i64 3, .int .i64 7, .int .i64 11, .int .i64 15] 3) = W at *
  have hWs : W.heap.size = w1.heap.size + 1 := by rw [← hW, World.size_alloc]
  have hWs' : w1.heap.size < W.heap.size := by omega
  have hgW : g < W.heap.size := by omega
  have hgq : w1.heap.size ≠ g := by omega
  clear hWs hW
  go_loopw [13] (fun i wr => ∃ k : Nat, k ≤ 4 ∧ i = .int .i64 (k : Int) ∧ KOw .u8 wr g (clampA L k) ∧ But g W.heap.size W wr) (fun i _ => 4 - (intOf i).toNat)
  case atStart => exact ⟨0, by omega, rfl, k1, But.refl _ _ _⟩
  case round =>
    clear k0 k1
    obtain ⟨k, hk, rfl, hv, hbut⟩ := hrel
    by_cases hlk : k < 4
    · have hs := HA.out k
      obtain ⟨hby, hlen⟩ := BA.out k
      have hx := hby.get (4 * k + 3)
      have q1 := hv.cell (4 * k + 3) (by omega)
      have q2 := (hq.keep (hbut.block _ hWs' hgq)).cell (i := k) (by simpa using hlk)
      have f1 := hv.frozen (4 * k + 3)
      have hset := fun x => hv.set_ (4 * k + 3) (by omega) x
      generalize (clampA L k).getD (4 * k + 3) 0 = X at *
      have Hs := Shut.mk hs
      have a15 := and15 X hx.1 hx.2
      clear hs HA BA BB HB
      have e : k = 0 ∨ k = 1 ∨ k = 2 ∨ k = 3 := by omega
      rcases e with rfl | rfl | rfl | rfl
      all_goals
        simp at q1 q2 f1
        go_wp2
        refine ⟨⟨_, by omega, ?_, KOw.of_eq Hs.out (hset _), hbut.setCell _ _⟩, by simp [intOf]⟩
        rfl
    · obtain rfl : k = 4 := by omega
      have hv1 : KOw .u8 wr g (clampB L 0) := KOw.of_eq HB0.out hv
      obtain ⟨wh, rfl⟩ : ∃ x, x = wr := ⟨_, rfl⟩
      have hsz := hbut.size
      have B2 : Below w.heap.size w wh := B1.trans (hbut.below (by omega) (by omega))
      clear hv hq hbut HA BA HB0 B1 hb1
      go_wp2
      have hq : KB .i64 3 (wh.alloc (.cells #[.int .i64 4, .int .i64 8, .int .i64 12] 3)) wh.heap.size [4, 8, 12] := KB.new wh _ _ rfl
      have k1 := hv1.alloc (.cells #[.int .i64 4, .int .i64 8, .int .i64 12] 3)
      have B3 : Below w.heap.size w (wh.alloc (.cells #[.int .i64 4, .int .i64 8, .int .i64 12] 3)) := ab B2 _
      generalize hV : wh.alloc (.cells #[.int .i64 4, .int .i64 8, .int .i64 12] 3) = V at *
      have hVs : V.heap.size = wh.heap.size + 1 := by rw [← hV, World.size_alloc]
      have hVs' : wh.heap.size < V.heap.size := by omega
      have hgV : g < V.heap.size := by omega
      have hgq2 : wh.heap.size ≠ g := by omega
      clear hVs hV
      simp only [Int.cast_ofNat_Int]
      go_loopw [28] (fun i wr => ∃ k : Nat, k ≤ 3 ∧ i = .int .i64 (k : Int) ∧ KOw .u8 wr g (clampB L k) ∧ But g V.heap.size V wr) (fun i _ => 3 - (intOf i).toNat)
      case atStart => exact ⟨0, by omega, rfl, k1, But.refl _ _ _⟩
      case round =>
        clear hv1 k1
        obtain ⟨k, hk3, rfl, hv, hbut⟩ := hrel
        by_cases hlk : k < 3
        · have hs := HB.out k
          obtain ⟨hby, hlen⟩ := BB.out k
          have hx := hby.get (4 * k + 4)
          have q1 := hv.cell (4 * k + 4) (by omega)
          have q2 := (hq.keep (hbut.block _ hVs' hgq2)).cell (i := k) (by simpa using hlk)
          have f1 := hv.frozen (4 * k + 4)
          have hset := fun x => hv.set_ (4 * k + 4) (by omega) x
          generalize (clampB L k).getD (4 * k + 4) 0 = X at *
          have Hs := Shut.mk hs
          have a15 := and252 X hx.1 hx.2
          clear hs BB HB
          have e : k = 0 ∨ k = 1 ∨ k = 2 := by omega
          rcases e with rfl | rfl | rfl
          all_goals
            simp at q1 q2 f1
            go_wp2
            refine ⟨⟨_, by omega, ?_, KOw.of_eq Hs.out (hset _), hbut.setCell _ _⟩, by simp [intOf]⟩
            rfl
        · obtain rfl : k = 3 := by omega
          have hb16 := BB.out 3
          rw [← HF.out] at hb16 hv
          go_wp2
          go_ret
          refine ⟨⟨g, _, rfl, by omega, hb16.2, hb16.1, fun _ => ⟨g, rfl, by omega, hv.lt, fun i hi => hv.cell i (by rw [hb16.2]; exact hi), hv.frozen⟩⟩, B3.trans (hbut.below (by omega) (by omega))⟩
end Go.Proofs.YtpoiecdifhkegaaDoor
