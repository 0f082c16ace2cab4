/- What 2 to the power of 130, less 5, leaves: limbs of 26 bits. Plain mathematics. -/
import Derived.Test.YtpoiecdifhkegaaDoorBase
namespace Go.Proofs.YtpoiecdifhkegaaDoor
open Go.RowKit

/-- the number of five limbs of 26 bits -/
def val5 (l : List Int) : Int := l.getD 0 0 + l.getD 1 0 * 67108864 + l.getD 2 0 * 4503599627370496 + l.getD 3 0 * 302231454903657293676544 + l.getD 4 0 * 20282409603651670423947251286016
/-- 2 to the power of 130, less 5 -/
def pp : Int := 1361129467683753853853498429727072845819
/-- the limbs of a number, the last one all that is left -/
def limbs (N : Int) : List Int := [N % 67108864, N / 67108864 % 67108864, N / 4503599627370496 % 67108864, N / 302231454903657293676544 % 67108864, N / 20282409603651670423947251286016]
theorem limbs_val (N : Int) : val5 (limbs N) = N := by
  simp only [val5, limbs, List.getD_cons_zero, List.getD_cons_succ]
  omega
/-- what one more byte does to the limbs -/
def limbStep (l : List Int) (k : Nat) (b : Int) : List Int :=
  let at_ := 8 * k / 26
  let x := b * 2 ^ (8 * k % 26)
  let l1 := l.set at_ (l.getD at_ 0 + x % 67108864)
  if at_ < 4 then l1.set (at_ + 1) (l1.getD (at_ + 1) 0 + x / 67108864) else l1
set_option maxRecDepth 100000 in
theorem limb_step (N b : Int) (k : Nat) (hk : k ≤ 16) (h0 : 0 ≤ N) (h1 : N < 2 ^ (8 * k)) (b0 : 0 ≤ b) (b1 : b < 256) (b2 : k = 16 → b < 4) : limbStep (limbs N) k b = limbs (N + b * 2 ^ (8 * k)) := by
  have e : k = 0 ∨ k = 1 ∨ k = 2 ∨ k = 3 ∨ k = 4 ∨ k = 5 ∨ k = 6 ∨ k = 7 ∨ k = 8 ∨ k = 9 ∨ k = 10 ∨ k = 11 ∨ k = 12 ∨ k = 13 ∨ k = 14 ∨ k = 15 ∨ k = 16 := by omega
  rcases e with rfl | rfl | rfl | rfl | rfl | rfl | rfl | rfl | rfl | rfl | rfl | rfl | rfl | rfl | rfl | rfl | rfl
  all_goals
    simp [limbStep, limbs] at h1 b2 ⊢
    omega
/-- one round of carries: what is above the last limb comes in five times from below -/
def car (a b c d e : Int) : List Int :=
  let x1 := b + a / 67108864
  let x2 := c + x1 / 67108864
  let x3 := d + x2 / 67108864
  let x4 := e + x3 / 67108864
  [a % 67108864 + 5 * (x4 / 67108864), x1 % 67108864, x2 % 67108864, x3 % 67108864, x4 % 67108864]
theorem car_val (a b c d e : Int) : ∃ q, val5 [a, b, c, d, e] = val5 (car a b c d e) + pp * q := by
  refine ⟨(e + (d + (c + (b + a / 67108864) / 67108864) / 67108864) / 67108864) / 67108864, ?_⟩
  simp only [val5, car, pp, List.getD_cons_zero, List.getD_cons_succ]
  omega
theorem mul_val (a b c d e r s t u v : Int) : ∃ q, val5 [a, b, c, d, e] * val5 [r, s, t, u, v] =
    val5 [a * r + 5 * (b * v + c * u + d * t + e * s), a * s + b * r + 5 * (c * v + d * u + e * t), a * t + b * s + c * r + 5 * (d * v + e * u), a * u + b * t + c * s + d * r + 5 * (e * v), a * v + b * u + c * t + d * s + e * r] + pp * q := by
  refine ⟨(b * v + c * u + d * t + e * s) + (c * v + d * u + e * t) * 67108864 + (d * v + e * u) * 4503599627370496 + (e * v) * 302231454903657293676544, ?_⟩
  simp only [val5, pp, List.getD_cons_zero, List.getD_cons_succ]
  grind
theorem car_one (a b c d e : Int) (ha : 0 ≤ a ∧ a < 1152921504606846976) (hb : 0 ≤ b ∧ b < 1152921504606846976) (hc : 0 ≤ c ∧ c < 1152921504606846976) (hd : 0 ≤ d ∧ d < 1152921504606846976) (he : 0 ≤ e ∧ e < 1152921504606846976) :
    ∃ a' b' c' d' e', car a b c d e = [a', b', c', d', e'] ∧ 0 ≤ a' ∧ a' < 137438953472 ∧ 0 ≤ b' ∧ b' < 67108864 ∧ 0 ≤ c' ∧ c' < 67108864 ∧ 0 ≤ d' ∧ d' < 67108864 ∧ 0 ≤ e' ∧ e' < 67108864 := by
  refine ⟨_, _, _, _, _, rfl, ?_⟩
  omega
theorem car_two (a b c d e : Int) (ha : 0 ≤ a ∧ a < 137438953472) (hb : 0 ≤ b ∧ b < 67108864) (hc : 0 ≤ c ∧ c < 67108864) (hd : 0 ≤ d ∧ d < 67108864) (he : 0 ≤ e ∧ e < 67108864) :
    ∃ a' b' c' d' e', car a b c d e = [a', b', c', d', e'] ∧ 0 ≤ a' ∧ a' ≤ 67108868 ∧ 0 ≤ b' ∧ b' < 67108864 ∧ 0 ≤ c' ∧ c' < 67108864 ∧ 0 ≤ d' ∧ d' < 67108864 ∧ 0 ≤ e' ∧ e' < 67108864 := by
  refine ⟨_, _, _, _, _, rfl, ?_⟩
  omega
theorem car_norm (a b c d e : Int) (ha : 0 ≤ a ∧ a ≤ 67108868) (hb : 0 ≤ b ∧ b < 67108864) (hc : 0 ≤ c ∧ c < 67108864) (hd : 0 ≤ d ∧ d < 67108864) (he : 0 ≤ e ∧ e < 67108864) :
    ∃ a' b' c' d' e', car a b c d e = [a', b', c', d', e'] ∧ 0 ≤ a' ∧ a' < 67108864 ∧ 0 ≤ b' ∧ b' < 67108864 ∧ 0 ≤ c' ∧ c' < 67108864 ∧ 0 ≤ d' ∧ d' < 67108864 ∧ 0 ≤ e' ∧ e' < 67108864 := by
  refine ⟨_, _, _, _, _, rfl, ?_⟩
  omega
theorem car_still (a b c d e : Int) (ha : 0 ≤ a ∧ a < 67108864) (hb : 0 ≤ b ∧ b < 67108864) (hc : 0 ≤ c ∧ c < 67108864) (hd : 0 ≤ d ∧ d < 67108864) (he : 0 ≤ e ∧ e < 67108864) : car a b c d e = [a, b, c, d, e] := by
  simp only [car, List.cons.injEq, and_true]
  omega
/-- whole limbs, with five put to them, pass 2 to the power of 130 -/
theorem least_yes (a b c d e : Int) (ha : 0 ≤ a ∧ a < 67108864) (hb : 0 ≤ b ∧ b < 67108864) (hc : 0 ≤ c ∧ c < 67108864) (hd : 0 ≤ d ∧ d < 67108864) (he : 0 ≤ e ∧ e < 67108864)
    (h : 0 < (e + (d + (c + (b + (a + 5) / 67108864) / 67108864) / 67108864) / 67108864) / 67108864) :
    [(a + 5) % 67108864, (b + (a + 5) / 67108864) % 67108864, (c + (b + (a + 5) / 67108864) / 67108864) % 67108864, (d + (c + (b + (a + 5) / 67108864) / 67108864) / 67108864) % 67108864, (e + (d + (c + (b + (a + 5) / 67108864) / 67108864) / 67108864) / 67108864) % 67108864] = limbs (val5 [a, b, c, d, e] % pp) := by
  have e1 : val5 [a, b, c, d, e] % pp = val5 [a, b, c, d, e] - pp := by
    simp only [val5, pp, List.getD_cons_zero, List.getD_cons_succ]
    omega
  rw [e1]
  simp only [limbs, val5, pp, List.getD_cons_zero, List.getD_cons_succ, List.cons.injEq, and_true]
  omega
/-- or they don't -/
theorem least_no (a b c d e : Int) (ha : 0 ≤ a ∧ a < 67108864) (hb : 0 ≤ b ∧ b < 67108864) (hc : 0 ≤ c ∧ c < 67108864) (hd : 0 ≤ d ∧ d < 67108864) (he : 0 ≤ e ∧ e < 67108864)
    (h : ¬ 0 < (e + (d + (c + (b + (a + 5) / 67108864) / 67108864) / 67108864) / 67108864) / 67108864) :
    [a, b, c, d, e] = limbs (val5 [a, b, c, d, e] % pp) := by
  have e1 : val5 [a, b, c, d, e] % pp = val5 [a, b, c, d, e] := by
    simp only [val5, pp, List.getD_cons_zero, List.getD_cons_succ]
    omega
  rw [e1]
  simp only [limbs, val5, List.getD_cons_zero, List.getD_cons_succ, List.cons.injEq, and_true]
  omega
end Go.Proofs.YtpoiecdifhkegaaDoor
