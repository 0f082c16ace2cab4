/- Carries of limbs, of the model. -/
import Derived.Test.YtpoiecdifhkegaaDoorLimbsC
namespace Go.Proofs.YtpoiecdifhkegaaDoor
open Go.RowKit

def carL (l : List Int) : List Int := car (l.getD 0 0) (l.getD 1 0) (l.getD 2 0) (l.getD 3 0) (l.getD 4 0)
def carN (l : List Int) : Nat → List Int
  | 0 => l
  | t + 1 => carL (carN l t)
/-- five numbers from nought on, each below 2 to the power of 60 -/
def Five (l : List Int) : Prop := ∃ a b c d e : Int, l = [a, b, c, d, e] ∧ (0 ≤ a ∧ a < 1152921504606846976) ∧ (0 ≤ b ∧ b < 1152921504606846976) ∧ (0 ≤ c ∧ c < 1152921504606846976) ∧ (0 ≤ d ∧ d < 1152921504606846976) ∧ (0 ≤ e ∧ e < 1152921504606846976)
theorem five_car (l : List Int) (h : Five l) : Five (carL l) := by
  obtain ⟨a, b, c, d, e, rfl, ha, hb, hc, hd, he⟩ := h
  obtain ⟨a', b', c', d', e', h', h2⟩ := car_one a b c d e ha hb hc hd he
  exact ⟨a', b', c', d', e', h', by omega⟩
theorem five_carN (l : List Int) (h : Five l) (t : Nat) : Five (carN l t) := by
  induction t with
  | zero => exact h
  | succ t ih => exact five_car _ ih

/-- one step of a round of carries -/
def carStep (l : List Int) (k : Nat) : List Int :=
  if k < 4 then (l.set k (l.getD k 0 % 67108864)).set (k + 1) (l.getD (k + 1) 0 + l.getD k 0 / 67108864)
  else (l.set k (l.getD k 0 % 67108864)).set 0 (l.getD 0 0 + 5 * (l.getD k 0 / 67108864))
def carTo (l : List Int) : Nat → List Int
  | 0 => l
  | k + 1 => carStep (carTo l k) k
theorem carTo_all (a b c d e : Int) : carTo [a, b, c, d, e] 5 = carL [a, b, c, d, e] := rfl
theorem carTo_bd (l : List Int) (h : Five l) (k : Nat) (hk : k ≤ 4) : ∃ a b c d e : Int, carTo l k = [a, b, c, d, e] ∧ (0 ≤ a ∧ a < 2305843009213693952) ∧ (0 ≤ b ∧ b < 2305843009213693952) ∧ (0 ≤ c ∧ c < 2305843009213693952) ∧ (0 ≤ d ∧ d < 2305843009213693952) ∧ (0 ≤ e ∧ e < 2305843009213693952) := by
  obtain ⟨a, b, c, d, e, rfl, ha, hb, hc, hd, he⟩ := h
  have ek : k = 0 ∨ k = 1 ∨ k = 2 ∨ k = 3 ∨ k = 4 := by omega
  rcases ek with rfl | rfl | rfl | rfl | rfl
  · exact ⟨a, b, c, d, e, rfl, by omega⟩
  · exact ⟨a % 67108864, b + a / 67108864, c, d, e, rfl, by omega⟩
  · exact ⟨a % 67108864, (b + a / 67108864) % 67108864, c + (b + a / 67108864) / 67108864, d, e, rfl, by omega⟩
  · exact ⟨a % 67108864, (b + a / 67108864) % 67108864, (c + (b + a / 67108864) / 67108864) % 67108864, d + (c + (b + a / 67108864) / 67108864) / 67108864, e, rfl, by omega⟩
  · exact ⟨a % 67108864, (b + a / 67108864) % 67108864, (c + (b + a / 67108864) / 67108864) % 67108864, (d + (c + (b + a / 67108864) / 67108864) / 67108864) % 67108864, e + (d + (c + (b + a / 67108864) / 67108864) / 67108864) / 67108864, rfl, by omega⟩

set_option maxRecDepth 100000 in
set_option maxHeartbeats 4000000 in
theorem l3Carry_any (g c : Nat) (l : List Int) (w : World) (h : KOw .u64 w g l) (hl : Five l) :
    Calls Tryd.prog 81 #[.slice (some ⟨g, 0, none⟩) 5 c] w fun e w' => e = .returned (.tuple #[]) ∧ KOw .u64 w' g (carL (carL l)) ∧ But g w.heap.size w w' := by
  have Hf : Shut (∀ t, Five (carN l t)) := ⟨five_carN l hl⟩
  have H2 : Shut (carN l 2 = carL (carL l)) := ⟨rfl⟩
  have hk0 : KOw .u64 w g (carN l 0) := h
  go_enter Tryd.func81, Tryd.ntmps81
  go_wp2
  go_loopw [2] (fun i wr => ∃ t : Nat, t ≤ 2 ∧ i = .int .i64 (t : Int) ∧ KOw .u64 wr g (carN l t) ∧ But g w.heap.size w wr) (fun i _ => 2 - (intOf i).toNat)
  case atStart => exact ⟨0, by omega, rfl, hk0, But.refl _ _ _⟩
  case round =>
    obtain ⟨t, ht, rfl, hv, hbut⟩ := hrel
    by_cases hlt : t < 2
    · have hf := Hf.out t
      have Hn : Shut (carN l (t + 1) = carL (carN l t)) := ⟨rfl⟩
      generalize carN l t = L at *
      have Hb : Shut (∀ k, k ≤ 4 → ∃ a b c d e : Int, carTo L k = [a, b, c, d, e] ∧ (0 ≤ a ∧ a < 2305843009213693952) ∧ (0 ≤ b ∧ b < 2305843009213693952) ∧ (0 ≤ c ∧ c < 2305843009213693952) ∧ (0 ≤ d ∧ d < 2305843009213693952) ∧ (0 ≤ e ∧ e < 2305843009213693952)) := ⟨carTo_bd L hf⟩
      have H5 : Shut (carTo L 5 = carL L) := ⟨by obtain ⟨a, b, c, d, e, rfl, _⟩ := hf; rfl⟩
      have Hst : Shut (∀ k, carTo L (k + 1) = carStep (carTo L k) k) := ⟨fun _ => rfl⟩
      have hv0 : KOw .u64 wr g (carTo L 0) := hv
      clear hf hv
      obtain ⟨wh, rfl⟩ : ∃ x, x = wr := ⟨_, rfl⟩
      have hd : decide ((t : Int) < 2) = true := by simp; omega
      go_wp2
      go_loopw [3] (fun i wq => ∃ k : Nat, k ≤ 5 ∧ i = .int .i64 (k : Int) ∧ KOw .u64 wq g (carTo L k) ∧ But g w.heap.size w wq) (fun i _ => 5 - (intOf i).toNat)
      case atStart => exact ⟨0, by omega, rfl, hv0, hbut⟩
      case round =>
        clear hv0 hbut
        obtain ⟨k, hk5, rfl, hv, hbut⟩ := hrel
        by_cases hlk : k < 5
        · obtain ⟨p0, p1, p2, p3, p4, hp, b0, b1, b2, b3, b4⟩ := Hb.out k (by omega)
          have hs := Hst.out k
          rw [hp] at hv hs
          have Hs := Shut.mk hs
          clear hs hp Hst Hb
          have c0 := hv.cell 0 (by simp)
          have c1 := hv.cell 1 (by simp)
          have c2 := hv.cell 2 (by simp)
          have c3 := hv.cell 3 (by simp)
          have c4 := hv.cell 4 (by simp)
          have f0 := hv.frozen 0
          have f1 := hv.frozen 1
          have f2 := hv.frozen 2
          have f3 := hv.frozen 3
          have f4 := hv.frozen 4
          simp only [List.getD_cons_zero, List.getD_cons_succ] at c0 c1 c2 c3 c4
          have e : k = 0 ∨ k = 1 ∨ k = 2 ∨ k = 3 ∨ k = 4 := by omega
          rcases e with rfl | rfl | rfl | rfl | rfl
          · go_wp2
            simp (disch := omega) only [and26]
            refine ⟨⟨_, by omega, ?_, KOw.of_eq Hs.out ?_, ?_⟩, by simp [intOf]⟩
            · rfl
            · simp [carStep]
              exact (hv.set_ 0 (by simp) _).set_ 1 (by simp) _
            · exact (hbut.setCell _ _).setCell _ _
          · go_wp2
            simp (disch := omega) only [and26]
            refine ⟨⟨_, by omega, ?_, KOw.of_eq Hs.out ?_, ?_⟩, by simp [intOf]⟩
            · rfl
            · simp [carStep]
              exact (hv.set_ 1 (by simp) _).set_ 2 (by simp) _
            · exact (hbut.setCell _ _).setCell _ _
          · go_wp2
            simp (disch := omega) only [and26]
            refine ⟨⟨_, by omega, ?_, KOw.of_eq Hs.out ?_, ?_⟩, by simp [intOf]⟩
            · rfl
            · simp [carStep]
              exact (hv.set_ 2 (by simp) _).set_ 3 (by simp) _
            · exact (hbut.setCell _ _).setCell _ _
          · go_wp2
            simp (disch := omega) only [and26]
            refine ⟨⟨_, by omega, ?_, KOw.of_eq Hs.out ?_, ?_⟩, by simp [intOf]⟩
            · rfl
            · simp [carStep]
              exact (hv.set_ 3 (by simp) _).set_ 4 (by simp) _
            · exact (hbut.setCell _ _).setCell _ _
          · go_wp2
            simp (disch := omega) only [and26]
            refine ⟨⟨_, by omega, ?_, KOw.of_eq Hs.out ?_, ?_⟩, by simp [intOf]⟩
            · rfl
            · simp [carStep]
              exact (hv.set_ 4 (by simp) _).set_ 0 (by simp) _
            · exact (hbut.setCell _ _).setCell _ _
        · obtain rfl : k = 5 := by omega
          rw [H5.out, ← Hn.out] at hv
          go_wp2
          exact ⟨⟨t + 1, by omega, by go_num, hv, hbut⟩, by simp [intOf]; omega⟩
    · obtain rfl : t = 2 := by omega
      rw [H2.out] at hv
      go_wp2
      go_end0
      exact ⟨rfl, hv, hbut⟩
end Go.Proofs.YtpoiecdifhkegaaDoor
