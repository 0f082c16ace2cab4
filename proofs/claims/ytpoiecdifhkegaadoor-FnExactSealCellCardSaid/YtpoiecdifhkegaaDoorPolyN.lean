/- A tag's number: plain mathematics over the lists that the model's limbs hold. -/
import Derived.Test.YtpoiecdifhkegaaDoorLeastC
import Derived.Test.YtpoiecdifhkegaaDoorOutC
import Derived.Test.YtpoiecdifhkegaaDoorClampC
namespace Go.Proofs.YtpoiecdifhkegaaDoor
open Go.RowKit

/-- limbs between two steps: carried twice, and what 2 to the power of 130, less 5, leaves of them -/
def Pre (L : List Int) (acc : Int) : Prop := ∃ a b c d e : Int, L = [a, b, c, d, e] ∧ (0 ≤ a ∧ a ≤ 67108868) ∧ (0 ≤ b ∧ b < 67108864) ∧ (0 ≤ c ∧ c < 67108864) ∧ (0 ≤ d ∧ d < 67108864) ∧ (0 ≤ e ∧ e < 67108864) ∧ val5 L % pp = acc
def addTo (H M : List Int) : Nat → List Int
  | 0 => H
  | k + 1 => (addTo H M k).set k ((addTo H M k).getD k 0 + M.getD k 0)
theorem pre_zero : Pre (limbs 0) 0 := ⟨0, 0, 0, 0, 0, rfl, by omega, by omega, by omega, by omega, by omega, by simp [limbs, val5]⟩
/-- the products of limbs, written out -/
theorem mulTo_eq (a b c d e r s t u v : Int) : mulTo [a, b, c, d, e] [r, s, t, u, v] 5 =
    [a * r + 5 * (b * v + c * u + d * t + e * s), a * s + b * r + 5 * (c * v + d * u + e * t), a * t + b * s + c * r + 5 * (d * v + e * u), a * u + b * t + c * s + d * r + 5 * (e * v), a * v + b * u + c * t + d * s + e * r] := by
  simp [mulTo, mulRow, mulStep, mulTerm, limbs]
  omega
theorem limbs_bd (m : Int) (h0 : 0 ≤ m) (h1 : m < 1361129467683753853853498429727072845824) : ∃ a b c d e : Int, limbs m = [a, b, c, d, e] ∧ (0 ≤ a ∧ a < 67108864) ∧ (0 ≤ b ∧ b < 67108864) ∧ (0 ≤ c ∧ c < 67108864) ∧ (0 ≤ d ∧ d < 67108864) ∧ (0 ≤ e ∧ e < 67108864) := by
  refine ⟨_, _, _, _, _, rfl, ?_⟩
  omega
theorem limbs_upto (m : Int) (h0 : 0 ≤ m) (h1 : m < 1361129467683753853853498429727072845824) : Upto (limbs m) 67108864 := by
  obtain ⟨a, b, c, d, e, h, ha, hb, hc, hd, he⟩ := limbs_bd m h0 h1
  rw [h]
  exact ⟨rfl, fun i => by rcases i with _ | _ | _ | _ | _ | i <;> simp <;> omega⟩
theorem add_upto (H : List Int) (acc m : Int) (hp : Pre H acc) (h0 : 0 ≤ m) (h1 : m < 1361129467683753853853498429727072845824) (k : Nat) (hk : k ≤ 5) :
    (addTo H (limbs m) k).length = 5 ∧ ∀ i, 0 ≤ (addTo H (limbs m) k).getD i 0 ∧ (addTo H (limbs m) k).getD i 0 ≤ 268435456 := by
  obtain ⟨a, b, c, d, e, rfl, ha, hb, hc, hd, he, _⟩ := hp
  obtain ⟨f, g, x, y, z, h, hf, hg, hx, hy, hz⟩ := limbs_bd m h0 h1
  rw [h]
  have ek : k = 0 ∨ k = 1 ∨ k = 2 ∨ k = 3 ∨ k = 4 ∨ k = 5 := by omega
  rcases ek with rfl | rfl | rfl | rfl | rfl | rfl
  all_goals
    refine ⟨rfl, fun i => ?_⟩
    rcases i with _ | _ | _ | _ | _ | i <;> simp [addTo] <;> omega
/-- a step of a tag: a block put to it, and taken times r -/
theorem poly_step (H : List Int) (acc m r : Int) (hp : Pre H acc) (h0 : 0 ≤ m) (h1 : m < 1361129467683753853853498429727072845824) (r0 : 0 ≤ r) (r1 : r < 1361129467683753853853498429727072845824) :
    Five (mulTo (addTo H (limbs m) 5) (limbs r) 5) ∧ Pre (carL (carL (mulTo (addTo H (limbs m) 5) (limbs r) 5))) ((acc + m) * r % pp) := by
  obtain ⟨a, b, c, d, e, rfl, ha, hb, hc, hd, he, hacc⟩ := hp
  obtain ⟨f, g, x, y, z, h, hf, hg, hx, hy, hz⟩ := limbs_bd m h0 h1
  obtain ⟨p, q, s, t, u, h', hp, hq, hs, ht, hu⟩ := limbs_bd r r0 r1
  have hm := limbs_val m
  have hr := limbs_val r
  rw [h] at hm ⊢
  rw [h'] at hr ⊢
  rw [show addTo [a, b, c, d, e] [f, g, x, y, z] 5 = [a + f, b + g, c + x, d + y, e + z] from rfl]
  have hv : val5 [a + f, b + g, c + x, d + y, e + z] = val5 [a, b, c, d, e] + m := by
    rw [← hm]
    simp only [val5, List.getD_cons_zero, List.getD_cons_succ]
    omega
  have hA : 0 ≤ a + f ∧ a + f ≤ 268435456 := by omega
  have hB : 0 ≤ b + g ∧ b + g ≤ 268435456 := by omega
  have hC : 0 ≤ c + x ∧ c + x ≤ 268435456 := by omega
  have hD : 0 ≤ d + y ∧ d + y ≤ 268435456 := by omega
  have hE : 0 ≤ e + z ∧ e + z ≤ 268435456 := by omega
  generalize a + f = A at *
  generalize b + g = B at *
  generalize c + x = C at *
  generalize d + y = D at *
  generalize e + z = E at *
  have P : 0 ≤ p ∧ p ≤ 67108864 := by omega
  have Q : 0 ≤ q ∧ q ≤ 67108864 := by omega
  have S : 0 ≤ s ∧ s ≤ 67108864 := by omega
  have T : 0 ≤ t ∧ t ≤ 67108864 := by omega
  have U : 0 ≤ u ∧ u ≤ 67108864 := by omega
  have b0 : (0 ≤ A * p ∧ A * p ≤ 18014398509481984) ∧ (0 ≤ A * q ∧ A * q ≤ 18014398509481984) ∧ (0 ≤ A * s ∧ A * s ≤ 18014398509481984) ∧ (0 ≤ A * t ∧ A * t ≤ 18014398509481984) ∧ (0 ≤ A * u ∧ A * u ≤ 18014398509481984) := ⟨mul_pos hA P, mul_pos hA Q, mul_pos hA S, mul_pos hA T, mul_pos hA U⟩
  have b1 : (0 ≤ B * p ∧ B * p ≤ 18014398509481984) ∧ (0 ≤ B * q ∧ B * q ≤ 18014398509481984) ∧ (0 ≤ B * s ∧ B * s ≤ 18014398509481984) ∧ (0 ≤ B * t ∧ B * t ≤ 18014398509481984) ∧ (0 ≤ B * u ∧ B * u ≤ 18014398509481984) := ⟨mul_pos hB P, mul_pos hB Q, mul_pos hB S, mul_pos hB T, mul_pos hB U⟩
  have b2 : (0 ≤ C * p ∧ C * p ≤ 18014398509481984) ∧ (0 ≤ C * q ∧ C * q ≤ 18014398509481984) ∧ (0 ≤ C * s ∧ C * s ≤ 18014398509481984) ∧ (0 ≤ C * t ∧ C * t ≤ 18014398509481984) ∧ (0 ≤ C * u ∧ C * u ≤ 18014398509481984) := ⟨mul_pos hC P, mul_pos hC Q, mul_pos hC S, mul_pos hC T, mul_pos hC U⟩
  have b3 : (0 ≤ D * p ∧ D * p ≤ 18014398509481984) ∧ (0 ≤ D * q ∧ D * q ≤ 18014398509481984) ∧ (0 ≤ D * s ∧ D * s ≤ 18014398509481984) ∧ (0 ≤ D * t ∧ D * t ≤ 18014398509481984) ∧ (0 ≤ D * u ∧ D * u ≤ 18014398509481984) := ⟨mul_pos hD P, mul_pos hD Q, mul_pos hD S, mul_pos hD T, mul_pos hD U⟩
  have b4 : (0 ≤ E * p ∧ E * p ≤ 18014398509481984) ∧ (0 ≤ E * q ∧ E * q ≤ 18014398509481984) ∧ (0 ≤ E * s ∧ E * s ≤ 18014398509481984) ∧ (0 ≤ E * t ∧ E * t ≤ 18014398509481984) ∧ (0 ≤ E * u ∧ E * u ≤ 18014398509481984) := ⟨mul_pos hE P, mul_pos hE Q, mul_pos hE S, mul_pos hE T, mul_pos hE U⟩
  obtain ⟨q0, hq0⟩ := mul_val A B C D E p q s t u
  rw [mulTo_eq]
  have hX0 : 0 ≤ A * p + 5 * (B * u + C * t + D * s + E * q) ∧ A * p + 5 * (B * u + C * t + D * s + E * q) < 1152921504606846976 := by omega
  have hX1 : 0 ≤ A * q + B * p + 5 * (C * u + D * t + E * s) ∧ A * q + B * p + 5 * (C * u + D * t + E * s) < 1152921504606846976 := by omega
  have hX2 : 0 ≤ A * s + B * q + C * p + 5 * (D * u + E * t) ∧ A * s + B * q + C * p + 5 * (D * u + E * t) < 1152921504606846976 := by omega
  have hX3 : 0 ≤ A * t + B * s + C * q + D * p + 5 * (E * u) ∧ A * t + B * s + C * q + D * p + 5 * (E * u) < 1152921504606846976 := by omega
  have hX4 : 0 ≤ A * u + B * t + C * s + D * q + E * p ∧ A * u + B * t + C * s + D * q + E * p < 1152921504606846976 := by omega
  generalize A * p + 5 * (B * u + C * t + D * s + E * q) = X0 at *
  generalize A * q + B * p + 5 * (C * u + D * t + E * s) = X1 at *
  generalize A * s + B * q + C * p + 5 * (D * u + E * t) = X2 at *
  generalize A * t + B * s + C * q + D * p + 5 * (E * u) = X3 at *
  generalize A * u + B * t + C * s + D * q + E * p = X4 at *
  refine ⟨⟨_, _, _, _, _, rfl, hX0, hX1, hX2, hX3, hX4⟩, ?_⟩
  obtain ⟨q1, hq1⟩ := car_val X0 X1 X2 X3 X4
  obtain ⟨a1, a2, a3, a4, a5, hcar, bd⟩ := car_one X0 X1 X2 X3 X4 hX0 hX1 hX2 hX3 hX4
  rw [show carL [X0, X1, X2, X3, X4] = car X0 X1 X2 X3 X4 from rfl]
  rw [hcar] at hq1 ⊢
  obtain ⟨q2, hq2⟩ := car_val a1 a2 a3 a4 a5
  obtain ⟨e1, e2, e3, e4, e5, hcar2, bd2⟩ := car_two a1 a2 a3 a4 a5 (by omega) (by omega) (by omega) (by omega) (by omega)
  rw [show carL [a1, a2, a3, a4, a5] = car a1 a2 a3 a4 a5 from rfl]
  rw [hcar2] at hq2 ⊢
  refine ⟨e1, e2, e3, e4, e5, rfl, by omega, by omega, by omega, by omega, by omega, ?_⟩
  rw [hv, hr] at hq0
  generalize val5 [e1, e2, e3, e4, e5] = v2 at *
  generalize val5 [a1, a2, a3, a4, a5] = v1 at *
  generalize val5 [X0, X1, X2, X3, X4] = v0 at *
  generalize val5 [a, b, c, d, e] = v at *
  rw [← hacc]
  have e1 : (v + m) * r = v2 + pp * (q0 + q1 + q2) := by rw [hq0, hq1, hq2, Int.mul_add, Int.mul_add]; omega
  rw [Int.mul_emod, Int.emod_add_emod, ← Int.mul_emod, e1, Int.add_mul_emod_self_left]
theorem pre_five (H : List Int) (acc : Int) (hp : Pre H acc) : Five H := by
  obtain ⟨a, b, c, d, e, rfl, ha, hb, hc, hd, he, _⟩ := hp
  exact ⟨a, b, c, d, e, rfl, by omega, by omega, by omega, by omega, by omega⟩
theorem pre_norm (H : List Int) (acc : Int) (hp : Pre H acc) : Norm (carL (carL H)) ∧ val5 (carL (carL H)) % pp = acc := by
  obtain ⟨a, b, c, d, e, rfl, ha, hb, hc, hd, he, hacc⟩ := hp
  obtain ⟨q1, hq1⟩ := car_val a b c d e
  obtain ⟨a1, a2, a3, a4, a5, hcar, bd⟩ := car_norm a b c d e ha hb hc hd he
  rw [show carL [a, b, c, d, e] = car a b c d e from rfl]
  rw [hcar] at hq1 ⊢
  rw [show carL [a1, a2, a3, a4, a5] = car a1 a2 a3 a4 a5 from rfl, car_still a1 a2 a3 a4 a5 (by omega) (by omega) (by omega) (by omega) (by omega)]
  refine ⟨⟨a1, a2, a3, a4, a5, rfl, by omega, by omega, by omega, by omega, by omega⟩, ?_⟩
  rw [← hacc, hq1, Int.add_mul_emod_self_left]

/-- the block t of data, with a byte 1 behind it -/
def polyBlk (data : List Int) (t : Nat) : Int := lo ((data.drop (16 * t)).take 16 ++ [1])
/-- what stands behind t blocks -/
def polyAcc (r : Int) (data : List Int) : Nat → Int
  | 0 => 0
  | t + 1 => (polyAcc r data t + polyBlk data t) * r % pp
/-- the tag of a key and data -/
def polyTag (key data : List Int) : List Int := lowOf (polyAcc (lo (clampL (key.take 16))) data ((data.length + 15) / 16) + lo (key.drop 16)) 16
theorem polyTag_len (key data : List Int) : (polyTag key data).length = 16 := lowOf_len _ _
theorem polyAcc_bd (r : Int) (data : List Int) (t : Nat) : 0 ≤ polyAcc r data t ∧ polyAcc r data t < pp := by
  rcases t with _ | t
  · simp [polyAcc, pp]
  · exact ⟨Int.emod_nonneg _ (by decide), Int.emod_lt_of_pos _ (by decide)⟩
theorem polyBlk_bd (data : List Int) (h : By data) (t : Nat) : 0 ≤ polyBlk data t ∧ polyBlk data t < 1361129467683753853853498429727072845824 := by
  have hb : By ((data.drop (16 * t)).take 16) := fun x hx => h x (List.mem_of_mem_drop (List.mem_of_mem_take hx))
  have h1 := lo_bd _ hb
  have hl : ((data.drop (16 * t)).take 16).length ≤ 16 := by rw [List.length_take]; omega
  have hp := (show ∀ k : Nat, k ≤ 16 → (256 : Int) ^ k ≤ 256 ^ 16 by decide) _ hl
  unfold polyBlk
  rw [lo_snoc]
  have : (256 : Int) ^ 16 = 340282366920938463463374607431768211456 := by decide
  omega
end Go.Proofs.YtpoiecdifhkegaaDoor
