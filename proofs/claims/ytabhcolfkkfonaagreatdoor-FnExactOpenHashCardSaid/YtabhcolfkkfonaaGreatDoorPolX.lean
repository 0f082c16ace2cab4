import Derived.Test.YtabhcolfkkfonaaGreatDoorBase
import Derived.Test.YtabhcolfkkfonaaGreatDoorStartC
import Derived.Test.YtabhcolfkkfonaaGreatDoorShaC

/-! PolyM -/
/- What 2 to the power of 130, less 5, leaves: limbs of 26 bits. Plain mathematics. -/
namespace Go.Proofs.YtabhcolfkkfonaaGreatDoor
open Go.RowKit

/-- the number of five limbs of 26 bits -/
def val5 (l : List Int) : Int := l.getD 0 0 + l.getD 1 0 * 67108864 + l.getD 2 0 * 4503599627370496 + l.getD 3 0 * 302231454903657293676544 + l.getD 4 0 * 20282409603651670423947251286016
/-- 2 to the power of 130, less 5 -/
def pp : Int := 1361129467683753853853498429727072845819
/-- the limbs of a number, the last one all that is left -/
def limbs (N : Int) : List Int := [N % 67108864, N / 67108864 % 67108864, N / 4503599627370496 % 67108864, N / 302231454903657293676544 % 67108864, N / 20282409603651670423947251286016]
theorem limbs_val (N : Int) : val5 (limbs N) = N := by
  simp only [val5, limbs, List.getD_cons_zero, List.getD_cons_succ]
  omega
/-- what one more byte does to the limbs -/
def limbStep (l : List Int) (k : Nat) (b : Int) : List Int :=
  let at_ := 8 * k / 26
  let x := b * 2 ^ (8 * k % 26)
  let l1 := l.set at_ (l.getD at_ 0 + x % 67108864)
  if at_ < 4 then l1.set (at_ + 1) (l1.getD (at_ + 1) 0 + x / 67108864) else l1
set_option maxRecDepth 100000 in
theorem limb_step (N b : Int) (k : Nat) (hk : k ≤ 16) (h0 : 0 ≤ N) (h1 : N < 2 ^ (8 * k)) (b0 : 0 ≤ b) (b1 : b < 256) (b2 : k = 16 → b < 4) : limbStep (limbs N) k b = limbs (N + b * 2 ^ (8 * k)) := by
  have e : k = 0 ∨ k = 1 ∨ k = 2 ∨ k = 3 ∨ k = 4 ∨ k = 5 ∨ k = 6 ∨ k = 7 ∨ k = 8 ∨ k = 9 ∨ k = 10 ∨ k = 11 ∨ k = 12 ∨ k = 13 ∨ k = 14 ∨ k = 15 ∨ k = 16 := by omega
  rcases e with rfl | rfl | rfl | rfl | rfl | rfl | rfl | rfl | rfl | rfl | rfl | rfl | rfl | rfl | rfl | rfl | rfl
  all_goals
    simp [limbStep, limbs] at h1 b2 ⊢
    omega
/-- one round of carries: what is above the last limb comes in five times from below -/
def car (a b c d e : Int) : List Int :=
  let x1 := b + a / 67108864
  let x2 := c + x1 / 67108864
  let x3 := d + x2 / 67108864
  let x4 := e + x3 / 67108864
  [a % 67108864 + 5 * (x4 / 67108864), x1 % 67108864, x2 % 67108864, x3 % 67108864, x4 % 67108864]
theorem car_val (a b c d e : Int) : ∃ q, val5 [a, b, c, d, e] = val5 (car a b c d e) + pp * q := by
  refine ⟨(e + (d + (c + (b + a / 67108864) / 67108864) / 67108864) / 67108864) / 67108864, ?_⟩
  simp only [val5, car, pp, List.getD_cons_zero, List.getD_cons_succ]
  omega
theorem mul_val (a b c d e r s t u v : Int) : ∃ q, val5 [a, b, c, d, e] * val5 [r, s, t, u, v] =
    val5 [a * r + 5 * (b * v + c * u + d * t + e * s), a * s + b * r + 5 * (c * v + d * u + e * t), a * t + b * s + c * r + 5 * (d * v + e * u), a * u + b * t + c * s + d * r + 5 * (e * v), a * v + b * u + c * t + d * s + e * r] + pp * q := by
  refine ⟨(b * v + c * u + d * t + e * s) + (c * v + d * u + e * t) * 67108864 + (d * v + e * u) * 4503599627370496 + (e * v) * 302231454903657293676544, ?_⟩
  simp only [val5, pp, List.getD_cons_zero, List.getD_cons_succ]
  grind
theorem car_one (a b c d e : Int) (ha : 0 ≤ a ∧ a < 1152921504606846976) (hb : 0 ≤ b ∧ b < 1152921504606846976) (hc : 0 ≤ c ∧ c < 1152921504606846976) (hd : 0 ≤ d ∧ d < 1152921504606846976) (he : 0 ≤ e ∧ e < 1152921504606846976) :
    ∃ a' b' c' d' e', car a b c d e = [a', b', c', d', e'] ∧ 0 ≤ a' ∧ a' < 137438953472 ∧ 0 ≤ b' ∧ b' < 67108864 ∧ 0 ≤ c' ∧ c' < 67108864 ∧ 0 ≤ d' ∧ d' < 67108864 ∧ 0 ≤ e' ∧ e' < 67108864 := by
  refine ⟨_, _, _, _, _, rfl, ?_⟩
  omega
theorem car_two (a b c d e : Int) (ha : 0 ≤ a ∧ a < 137438953472) (hb : 0 ≤ b ∧ b < 67108864) (hc : 0 ≤ c ∧ c < 67108864) (hd : 0 ≤ d ∧ d < 67108864) (he : 0 ≤ e ∧ e < 67108864) :
    ∃ a' b' c' d' e', car a b c d e = [a', b', c', d', e'] ∧ 0 ≤ a' ∧ a' ≤ 67108868 ∧ 0 ≤ b' ∧ b' < 67108864 ∧ 0 ≤ c' ∧ c' < 67108864 ∧ 0 ≤ d' ∧ d' < 67108864 ∧ 0 ≤ e' ∧ e' < 67108864 := by
  refine ⟨_, _, _, _, _, rfl, ?_⟩
  omega
theorem car_norm (a b c d e : Int) (ha : 0 ≤ a ∧ a ≤ 67108868) (hb : 0 ≤ b ∧ b < 67108864) (hc : 0 ≤ c ∧ c < 67108864) (hd : 0 ≤ d ∧ d < 67108864) (he : 0 ≤ e ∧ e < 67108864) :
    ∃ a' b' c' d' e', car a b c d e = [a', b', c', d', e'] ∧ 0 ≤ a' ∧ a' < 67108864 ∧ 0 ≤ b' ∧ b' < 67108864 ∧ 0 ≤ c' ∧ c' < 67108864 ∧ 0 ≤ d' ∧ d' < 67108864 ∧ 0 ≤ e' ∧ e' < 67108864 := by
  refine ⟨_, _, _, _, _, rfl, ?_⟩
  omega
theorem car_still (a b c d e : Int) (ha : 0 ≤ a ∧ a < 67108864) (hb : 0 ≤ b ∧ b < 67108864) (hc : 0 ≤ c ∧ c < 67108864) (hd : 0 ≤ d ∧ d < 67108864) (he : 0 ≤ e ∧ e < 67108864) : car a b c d e = [a, b, c, d, e] := by
  simp only [car, List.cons.injEq, and_true]
  omega
/-- whole limbs, with five put to them, pass 2 to the power of 130 -/
theorem least_yes (a b c d e : Int) (ha : 0 ≤ a ∧ a < 67108864) (hb : 0 ≤ b ∧ b < 67108864) (hc : 0 ≤ c ∧ c < 67108864) (hd : 0 ≤ d ∧ d < 67108864) (he : 0 ≤ e ∧ e < 67108864)
    (h : 0 < (e + (d + (c + (b + (a + 5) / 67108864) / 67108864) / 67108864) / 67108864) / 67108864) :
    [(a + 5) % 67108864, (b + (a + 5) / 67108864) % 67108864, (c + (b + (a + 5) / 67108864) / 67108864) % 67108864, (d + (c + (b + (a + 5) / 67108864) / 67108864) / 67108864) % 67108864, (e + (d + (c + (b + (a + 5) / 67108864) / 67108864) / 67108864) / 67108864) % 67108864] = limbs (val5 [a, b, c, d, e] % pp) := by
  have e1 : val5 [a, b, c, d, e] % pp = val5 [a, b, c, d, e] - pp := by
    simp only [val5, pp, List.getD_cons_zero, List.getD_cons_succ]
    omega
  rw [e1]
  simp only [limbs, val5, pp, List.getD_cons_zero, List.getD_cons_succ, List.cons.injEq, and_true]
  omega
/-- or they don't -/
theorem least_no (a b c d e : Int) (ha : 0 ≤ a ∧ a < 67108864) (hb : 0 ≤ b ∧ b < 67108864) (hc : 0 ≤ c ∧ c < 67108864) (hd : 0 ≤ d ∧ d < 67108864) (he : 0 ≤ e ∧ e < 67108864)
    (h : ¬ 0 < (e + (d + (c + (b + (a + 5) / 67108864) / 67108864) / 67108864) / 67108864) / 67108864) :
    [a, b, c, d, e] = limbs (val5 [a, b, c, d, e] % pp) := by
  have e1 : val5 [a, b, c, d, e] % pp = val5 [a, b, c, d, e] := by
    simp only [val5, pp, List.getD_cons_zero, List.getD_cons_succ]
    omega
  rw [e1]
  simp only [limbs, val5, List.getD_cons_zero, List.getD_cons_succ, List.cons.injEq, and_true]
  omega
end Go.Proofs.YtabhcolfkkfonaaGreatDoor

/-! LimbsC -/
/- A number of bytes in limbs, of the model. -/
namespace Go.Proofs.YtabhcolfkkfonaaGreatDoor
open Go.RowKit

theorem and26 (x : Int) (h0 : 0 ≤ x) (h1 : x < 18446744073709551616) : bits .and .u64 x 67108863 = x % 67108864 := by
  rw [u64_and x 67108863 h0 h1 (by omega) (by omega)]
  rw [show (67108863 : Int).toNat = 2 ^ 26 - 1 from rfl, Nat.and_two_pow_sub_one_eq_mod]
  omega
theorem lo_snoc (l : List Int) (x : Int) : lo (l ++ [x]) = lo l + x * 256 ^ l.length := by
  induction l with
  | nil => simp [lo, hi, hiStep]
  | cons a l ih =>
    have h1 : ∀ (a : Int) (l : List Int), lo (a :: l) = lo l * 256 + a := fun a l => by
      unfold lo; rw [List.reverse_cons, hi_snoc]
    rw [List.cons_append, h1, h1, ih, List.length_cons, Int.pow_succ, Int.add_mul, Int.mul_assoc]
    omega
theorem pow256 (k : Nat) : (256 : Int) ^ k = 2 ^ (8 * k) := by
  rw [Int.pow_mul]; rfl
theorem lo_step (l : List Int) (k : Nat) (hk : k < l.length) : lo (l.take (k + 1)) = lo (l.take k) + l.getD k 0 * 2 ^ (8 * k) := by
  rw [List.take_succ_eq_append_getElem hk, lo_snoc, List.length_take, Nat.min_eq_left (by omega), pow256]
  simp [List.getD, List.getElem?_eq_getElem hk]
theorem lo_take_bd (l : List Int) (h : By l) (k : Nat) (hk : k ≤ l.length) : 0 ≤ lo (l.take k) ∧ lo (l.take k) < 2 ^ (8 * k) := by
  have := lo_bd (l.take k) (fun x hx => h x (List.mem_of_mem_take hx))
  rwa [List.length_take, Nat.min_eq_left hk, pow256] at this

theorem KOw.of_eq {k : IntKind} {w : World} {b : Nat} {l l' : List Int} (e : l = l') (h : KOw k w b l') : KOw k w b l := e ▸ h
theorem limbs_len (N : Int) : (limbs N).length = 5 := rfl

theorem info_u64 : (Tryz.prog.info? 118).map (fun i => (i.zero, i.size, i.bytes)) = some (some (.int .u64 0), 1, 8) := by kernel_rfl
/-- five words that are zero, as make lays them -/
def fiveZ : Array Value := Array.replicate 5 (.int .u64 0)
theorem run_make_five (w : World) :
    (Instr.makeSlice 228 (.int .i64 5) (.int .i64 5)).run Tryz.prog w = .ok (.slice (some ⟨w.heap.size, 0, none⟩) 5 5) (w.alloc (.cells fiveZ 118)) := by
  obtain ⟨i, hi, hz0, hz1, hz2⟩ := info_parts info_u64
  have hr := run_make (P := Tryz.prog) w 228 118 i _ Tryz.underlying228 hi hz0 .i64 .i64 5 5 (by omega) (by omega) (by rw [hz2]; omega) (by omega)
  rw [hr, hz1, show madeCells (Value.int .u64 0).cells ((5 : Int).toNat * 1) = fiveZ from by rw [made_one _ rfl]; rfl]
  rfl
theorem five_kb (w : World) : KB .u64 118 (w.alloc (.cells fiveZ 118)) w.heap.size (limbs 0) := KB.new w (limbs 0) fiveZ rfl

set_option maxRecDepth 100000 in
set_option maxHeartbeats 4000000 in
theorem l3Limbs_any (A : Option Addr) (n c : Nat) (l : List Int) (w : World) (h : Bs w A n l) (hn : n ≤ 17) (ht : n = 17 → l.getD 16 0 < 4) :
    Calls Tryz.prog 225 #[.slice A n c] w fun e w' => (∃ g c', e = .returned (.slice (some ⟨g, 0, none⟩) 5 c') ∧ w.heap.size ≤ g ∧ KOw .u64 w' g (limbs (lo l))) ∧ Below w.heap.size w w' := by
  have hmk := run_make_five w
  have hz : limbs (lo (l.take 0)) = limbs 0 := rfl
  have hkb := five_kb w
  rw [← hz] at hkb
  clear hz
  have Hl := Shut.mk h.len
  have Hf : Shut (lo (l.take n) = lo l) := ⟨by rw [List.take_of_length_le (by rw [Hl.out]; exact Nat.le_refl _)]⟩
  have Hst : Shut (∀ k, k < n → limbs (lo (l.take (k + 1))) = limbStep (limbs (lo (l.take k))) k (l.getD k 0)) := ⟨fun k hk => by
    have hb := lo_take_bd l h.byte k (by rw [Hl.out]; omega)
    have hx := h.byte.get k
    rw [lo_step l k (by rw [Hl.out]; exact hk)]
    exact (limb_step _ _ k (by omega) hb.1 hb.2 hx.1 hx.2 (fun e => by subst e; exact ht (by omega))).symm⟩
  have Hbd : Shut (∀ k, k ≤ n → 0 ≤ lo (l.take k) ∧ lo (l.take k) < 2 ^ (8 * k)) := ⟨fun k hk => lo_take_bd l h.byte k (by rw [Hl.out]; omega)⟩
  go_enter Tryz.func225, Tryz.ntmps225
  go_wp2
  go_loopw [4] (fun i wr => ∃ k : Nat, k ≤ n ∧ i = .int .i64 (k : Int) ∧ KOw .u64 wr w.heap.size (limbs (lo (l.take k))) ∧ But w.heap.size (w.heap.size + 1) (w.alloc (.cells fiveZ 118)) wr) (fun i _ => n - (intOf i).toNat)
  case atStart => exact ⟨0, by omega, rfl, hkb.kow, But.refl _ _ _⟩
  case round =>
    clear hkb hmk
    obtain ⟨k, hk, rfl, hv, hbut⟩ := hrel
    by_cases hlt : k < n
    · obtain ⟨b, off, X, rfl, hbs, hX0, hX1, HX, hx⟩ := h.get hlt
      have hx' := (hbut.block b (by omega) (by omega))
      have hs := Hst.out k hlt
      rw [HX.out] at hs
      have hbd := Hbd.out k hk
      have hk17 : k ≤ 16 := by omega
      clear Hst Hbd Hf
      obtain ⟨p0, p1, p2, p3, p4, hp, b0, b1, b2, b3, b4⟩ : ∃ p0 p1 p2 p3 p4, limbs (lo (l.take k)) = [p0, p1, p2, p3, p4] ∧ (0 ≤ p0 ∧ p0 < 67108864) ∧ (0 ≤ p1 ∧ p1 < 67108864) ∧ (0 ≤ p2 ∧ p2 < 67108864) ∧ (0 ≤ p3 ∧ p3 < 67108864) ∧ (0 ≤ p4 ∧ p4 < 4294967296) := by
        refine ⟨_, _, _, _, _, rfl, ?_⟩
        have hp2 : (2 : Int) ^ (8 * k) ≤ 2 ^ 128 := (show ∀ k : Nat, k ≤ 16 → (2 : Int) ^ (8 * k) ≤ 2 ^ 128 by decide) k hk17
        omega
      have Hp := Shut.mk hp
      rw [hp] at hv hs
      have Hs := Shut.mk hs
      clear hs hp
      have hX := (World.cell?_of_block (a := ⟨b, off + k, none⟩) hx').trans ((World.cell?_of_block (a := ⟨b, off + k, none⟩) (Below.heap_alloc w _ b hbs)).trans hx)
      have c0 := hv.cell 0 (by simp)
      have c1 := hv.cell 1 (by simp)
      have c2 := hv.cell 2 (by simp)
      have c3 := hv.cell 3 (by simp)
      have c4 := hv.cell 4 (by simp)
      have f0 := hv.frozen 0
      have f1 := hv.frozen 1
      have f2 := hv.frozen 2
      have f3 := hv.frozen 3
      have f4 := hv.frozen 4
      simp only [List.getD_cons_zero, List.getD_cons_succ] at c0 c1 c2 c3 c4
      clear hx hx' hbd
      have e : (k = 0 ∨ k = 1 ∨ k = 2 ∨ k = 3) ∨ (k = 4 ∨ k = 5 ∨ k = 6) ∨ (k = 7 ∨ k = 8 ∨ k = 9) ∨ (k = 10 ∨ k = 11 ∨ k = 12) ∨ (k = 13 ∨ k = 14 ∨ k = 15 ∨ k = 16) := by omega
      rcases e with e | e | e | e | e
      · rcases e with rfl | rfl | rfl | rfl
        all_goals
          try simp only [Nat.add_zero] at hX
          go_wp2
          try simp (disch := omega) only [and26, IntWalk.u64_in]
          refine ⟨⟨_, by omega, ?_, KOw.of_eq Hs.out ?_, ?_⟩, by simp [intOf]; omega⟩
          · rfl
          · simp [limbStep]
            exact (hv.set_ 0 (by simp) _).set_ 1 (by simp) _
          · exact (hbut.setCell _ _).setCell _ _
      · rcases e with rfl | rfl | rfl
        all_goals
          go_wp2
          try simp (disch := omega) only [and26, IntWalk.u64_in]
          refine ⟨⟨_, by omega, ?_, KOw.of_eq Hs.out ?_, ?_⟩, by simp [intOf]; omega⟩
          · rfl
          · simp [limbStep]
            exact (hv.set_ 1 (by simp) _).set_ 2 (by simp) _
          · exact (hbut.setCell _ _).setCell _ _
      · rcases e with rfl | rfl | rfl
        all_goals
          go_wp2
          try simp (disch := omega) only [and26, IntWalk.u64_in]
          refine ⟨⟨_, by omega, ?_, KOw.of_eq Hs.out ?_, ?_⟩, by simp [intOf]; omega⟩
          · rfl
          · simp [limbStep]
            exact (hv.set_ 2 (by simp) _).set_ 3 (by simp) _
          · exact (hbut.setCell _ _).setCell _ _
      · rcases e with rfl | rfl | rfl
        all_goals
          go_wp2
          try simp (disch := omega) only [and26, IntWalk.u64_in]
          refine ⟨⟨_, by omega, ?_, KOw.of_eq Hs.out ?_, ?_⟩, by simp [intOf]; omega⟩
          · rfl
          · simp [limbStep]
            exact (hv.set_ 3 (by simp) _).set_ 4 (by simp) _
          · exact (hbut.setCell _ _).setCell _ _
      · rcases e with rfl | rfl | rfl | rfl
        all_goals
          go_wp2
          try simp (disch := omega) only [and26, IntWalk.u64_in]
          refine ⟨⟨_, by omega, ?_, KOw.of_eq Hs.out ?_, ?_⟩, by simp [intOf]; omega⟩
          · rfl
          · simp [limbStep]
            exact hv.set_ 4 (by simp) _
          · exact hbut.setCell _ _
    · obtain rfl : k = n := by omega
      rw [Hf.out] at hv
      go_wp2
      go_ret
      exact ⟨⟨_, _, rfl, Nat.le_refl _, hv⟩, (ab (Below.refl _ _) _).trans (hbut.below (by omega) (Nat.le_refl _))⟩
end Go.Proofs.YtabhcolfkkfonaaGreatDoor

/-! CarryC -/
/- Carries of limbs, of the model. -/
namespace Go.Proofs.YtabhcolfkkfonaaGreatDoor
open Go.RowKit

def carL (l : List Int) : List Int := car (l.getD 0 0) (l.getD 1 0) (l.getD 2 0) (l.getD 3 0) (l.getD 4 0)
def carN (l : List Int) : Nat → List Int
  | 0 => l
  | t + 1 => carL (carN l t)
/-- five numbers from nought on, each below 2 to the power of 60 -/
def Five (l : List Int) : Prop := ∃ a b c d e : Int, l = [a, b, c, d, e] ∧ (0 ≤ a ∧ a < 1152921504606846976) ∧ (0 ≤ b ∧ b < 1152921504606846976) ∧ (0 ≤ c ∧ c < 1152921504606846976) ∧ (0 ≤ d ∧ d < 1152921504606846976) ∧ (0 ≤ e ∧ e < 1152921504606846976)
theorem five_car (l : List Int) (h : Five l) : Five (carL l) := by
  obtain ⟨a, b, c, d, e, rfl, ha, hb, hc, hd, he⟩ := h
  obtain ⟨a', b', c', d', e', h', h2⟩ := car_one a b c d e ha hb hc hd he
  exact ⟨a', b', c', d', e', h', by omega⟩
theorem five_carN (l : List Int) (h : Five l) (t : Nat) : Five (carN l t) := by
  induction t with
  | zero => exact h
  | succ t ih => exact five_car _ ih

/-- one step of a round of carries -/
def carStep (l : List Int) (k : Nat) : List Int :=
  if k < 4 then (l.set k (l.getD k 0 % 67108864)).set (k + 1) (l.getD (k + 1) 0 + l.getD k 0 / 67108864)
  else (l.set k (l.getD k 0 % 67108864)).set 0 (l.getD 0 0 + 5 * (l.getD k 0 / 67108864))
def carTo (l : List Int) : Nat → List Int
  | 0 => l
  | k + 1 => carStep (carTo l k) k
theorem carTo_all (a b c d e : Int) : carTo [a, b, c, d, e] 5 = carL [a, b, c, d, e] := rfl
theorem carTo_bd (l : List Int) (h : Five l) (k : Nat) (hk : k ≤ 4) : ∃ a b c d e : Int, carTo l k = [a, b, c, d, e] ∧ (0 ≤ a ∧ a < 2305843009213693952) ∧ (0 ≤ b ∧ b < 2305843009213693952) ∧ (0 ≤ c ∧ c < 2305843009213693952) ∧ (0 ≤ d ∧ d < 2305843009213693952) ∧ (0 ≤ e ∧ e < 2305843009213693952) := by
  obtain ⟨a, b, c, d, e, rfl, ha, hb, hc, hd, he⟩ := h
  have ek : k = 0 ∨ k = 1 ∨ k = 2 ∨ k = 3 ∨ k = 4 := by omega
  rcases ek with rfl | rfl | rfl | rfl | rfl
  · exact ⟨a, b, c, d, e, rfl, by omega⟩
  · exact ⟨a % 67108864, b + a / 67108864, c, d, e, rfl, by omega⟩
  · exact ⟨a % 67108864, (b + a / 67108864) % 67108864, c + (b + a / 67108864) / 67108864, d, e, rfl, by omega⟩
  · exact ⟨a % 67108864, (b + a / 67108864) % 67108864, (c + (b + a / 67108864) / 67108864) % 67108864, d + (c + (b + a / 67108864) / 67108864) / 67108864, e, rfl, by omega⟩
  · exact ⟨a % 67108864, (b + a / 67108864) % 67108864, (c + (b + a / 67108864) / 67108864) % 67108864, (d + (c + (b + a / 67108864) / 67108864) / 67108864) % 67108864, e + (d + (c + (b + a / 67108864) / 67108864) / 67108864) / 67108864, rfl, by omega⟩

set_option maxRecDepth 100000 in
set_option maxHeartbeats 4000000 in
theorem l3Carry_any (g c : Nat) (l : List Int) (w : World) (h : KOw .u64 w g l) (hl : Five l) :
    Calls Tryz.prog 242 #[.slice (some ⟨g, 0, none⟩) 5 c] w fun e w' => e = .returned (.tuple #[]) ∧ KOw .u64 w' g (carL (carL l)) ∧ But g w.heap.size w w' := by
  have Hf : Shut (∀ t, Five (carN l t)) := ⟨five_carN l hl⟩
  have H2 : Shut (carN l 2 = carL (carL l)) := ⟨rfl⟩
  have hk0 : KOw .u64 w g (carN l 0) := h
  go_enter Tryz.func242, Tryz.ntmps242
  go_wp2
  go_loopw [2] (fun i wr => ∃ t : Nat, t ≤ 2 ∧ i = .int .i64 (t : Int) ∧ KOw .u64 wr g (carN l t) ∧ But g w.heap.size w wr) (fun i _ => 2 - (intOf i).toNat)
  case atStart => exact ⟨0, by omega, rfl, hk0, But.refl _ _ _⟩
  case round =>
    obtain ⟨t, ht, rfl, hv, hbut⟩ := hrel
    by_cases hlt : t < 2
    · have hf := Hf.out t
      have Hn : Shut (carN l (t + 1) = carL (carN l t)) := ⟨rfl⟩
      generalize carN l t = L at *
      have Hb : Shut (∀ k, k ≤ 4 → ∃ a b c d e : Int, carTo L k = [a, b, c, d, e] ∧ (0 ≤ a ∧ a < 2305843009213693952) ∧ (0 ≤ b ∧ b < 2305843009213693952) ∧ (0 ≤ c ∧ c < 2305843009213693952) ∧ (0 ≤ d ∧ d < 2305843009213693952) ∧ (0 ≤ e ∧ e < 2305843009213693952)) := ⟨carTo_bd L hf⟩
      have H5 : Shut (carTo L 5 = carL L) := ⟨by obtain ⟨a, b, c, d, e, rfl, _⟩ := hf; rfl⟩
      have Hst : Shut (∀ k, carTo L (k + 1) = carStep (carTo L k) k) := ⟨fun _ => rfl⟩
      have hv0 : KOw .u64 wr g (carTo L 0) := hv
      clear hf hv
      obtain ⟨wh, rfl⟩ : ∃ x, x = wr := ⟨_, rfl⟩
      have hd : decide ((t : Int) < 2) = true := by simp; omega
      go_wp2
      go_loopw [3] (fun i wq => ∃ k : Nat, k ≤ 5 ∧ i = .int .i64 (k : Int) ∧ KOw .u64 wq g (carTo L k) ∧ But g w.heap.size w wq) (fun i _ => 5 - (intOf i).toNat)
      case atStart => exact ⟨0, by omega, rfl, hv0, hbut⟩
      case round =>
        clear hv0 hbut
        obtain ⟨k, hk5, rfl, hv, hbut⟩ := hrel
        by_cases hlk : k < 5
        · obtain ⟨p0, p1, p2, p3, p4, hp, b0, b1, b2, b3, b4⟩ := Hb.out k (by omega)
          have hs := Hst.out k
          rw [hp] at hv hs
          have Hs := Shut.mk hs
          clear hs hp Hst Hb
          have c0 := hv.cell 0 (by simp)
          have c1 := hv.cell 1 (by simp)
          have c2 := hv.cell 2 (by simp)
          have c3 := hv.cell 3 (by simp)
          have c4 := hv.cell 4 (by simp)
          have f0 := hv.frozen 0
          have f1 := hv.frozen 1
          have f2 := hv.frozen 2
          have f3 := hv.frozen 3
          have f4 := hv.frozen 4
          simp only [List.getD_cons_zero, List.getD_cons_succ] at c0 c1 c2 c3 c4
          have e : k = 0 ∨ k = 1 ∨ k = 2 ∨ k = 3 ∨ k = 4 := by omega
          rcases e with rfl | rfl | rfl | rfl | rfl
          · go_wp2
            simp (disch := omega) only [and26]
            refine ⟨⟨_, by omega, ?_, KOw.of_eq Hs.out ?_, ?_⟩, by simp [intOf]⟩
            · rfl
            · simp [carStep]
              exact (hv.set_ 0 (by simp) _).set_ 1 (by simp) _
            · exact (hbut.setCell _ _).setCell _ _
          · go_wp2
            simp (disch := omega) only [and26]
            refine ⟨⟨_, by omega, ?_, KOw.of_eq Hs.out ?_, ?_⟩, by simp [intOf]⟩
            · rfl
            · simp [carStep]
              exact (hv.set_ 1 (by simp) _).set_ 2 (by simp) _
            · exact (hbut.setCell _ _).setCell _ _
          · go_wp2
            simp (disch := omega) only [and26]
            refine ⟨⟨_, by omega, ?_, KOw.of_eq Hs.out ?_, ?_⟩, by simp [intOf]⟩
            · rfl
            · simp [carStep]
              exact (hv.set_ 2 (by simp) _).set_ 3 (by simp) _
            · exact (hbut.setCell _ _).setCell _ _
          · go_wp2
            simp (disch := omega) only [and26]
            refine ⟨⟨_, by omega, ?_, KOw.of_eq Hs.out ?_, ?_⟩, by simp [intOf]⟩
            · rfl
            · simp [carStep]
              exact (hv.set_ 3 (by simp) _).set_ 4 (by simp) _
            · exact (hbut.setCell _ _).setCell _ _
          · go_wp2
            simp (disch := omega) only [and26]
            refine ⟨⟨_, by omega, ?_, KOw.of_eq Hs.out ?_, ?_⟩, by simp [intOf]⟩
            · rfl
            · simp [carStep]
              exact (hv.set_ 4 (by simp) _).set_ 0 (by simp) _
            · exact (hbut.setCell _ _).setCell _ _
        · obtain rfl : k = 5 := by omega
          rw [H5.out, ← Hn.out] at hv
          go_wp2
          exact ⟨⟨t + 1, by omega, by go_num, hv, hbut⟩, by simp [intOf]; omega⟩
    · obtain rfl : t = 2 := by omega
      rw [H2.out] at hv
      go_wp2
      go_end0
      exact ⟨rfl, hv, hbut⟩
end Go.Proofs.YtabhcolfkkfonaaGreatDoor

/-! MulC -/
/- A product of limbs, of the model. -/
namespace Go.Proofs.YtabhcolfkkfonaaGreatDoor
open Go.RowKit

/-- what place k of r does to a product, for place i of h -/
def mulTerm (H R : List Int) (i k : Nat) : Int := if 5 ≤ i + k then 5 * (H.getD i 0 * R.getD k 0) else H.getD i 0 * R.getD k 0
def mulStep (H R L : List Int) (i k : Nat) : List Int := L.set ((i + k) % 5) (L.getD ((i + k) % 5) 0 + mulTerm H R i k)
def mulRow (H R L : List Int) (i : Nat) : Nat → List Int
  | 0 => L
  | k + 1 => mulStep H R (mulRow H R L i k) i k
def mulTo (H R : List Int) : Nat → List Int
  | 0 => limbs 0
  | i + 1 => mulRow H R (mulTo H R i) i 5
/-- five numbers from nought on, none above B -/
structure Upto (L : List Int) (B : Int) : Prop where
  len : L.length = 5
  bd : ∀ m, 0 ≤ L.getD m 0 ∧ L.getD m 0 ≤ B
theorem upto_step {H R L : List Int} {B : Int} (h : Upto L B) (hp : ∀ i k, 0 ≤ H.getD i 0 * R.getD k 0 ∧ H.getD i 0 * R.getD k 0 ≤ 18014398509481984) (i k : Nat) : Upto (mulStep H R L i k) (B + 90071992547409920) := by
  refine ⟨by rw [mulStep, List.length_set, h.len], fun m => ?_⟩
  have hb := h.bd m
  have hb2 := h.bd ((i + k) % 5)
  have hx := hp i k
  have ht : 0 ≤ mulTerm H R i k ∧ mulTerm H R i k ≤ 90071992547409920 := by unfold mulTerm; split <;> omega
  unfold mulStep
  generalize mulTerm H R i k = T at *
  by_cases e : m = (i + k) % 5
  · subst e
    rw [show ∀ v, (L.set ((i + k) % 5) v).getD ((i + k) % 5) 0 = v from fun v => by rw [List.getD, List.getElem?_set_self (by rw [h.len]; omega)]; rfl]
    omega
  · rw [show ∀ v, (L.set ((i + k) % 5) v).getD m 0 = L.getD m 0 from fun v => by simp [List.getD, List.getElem?_set_ne (Ne.symm e)]]
    omega
theorem upto_row {H R L : List Int} {B : Int} (h : Upto L B) (hp : ∀ i k, 0 ≤ H.getD i 0 * R.getD k 0 ∧ H.getD i 0 * R.getD k 0 ≤ 18014398509481984) (i k : Nat) : Upto (mulRow H R L i k) (B + 90071992547409920 * (k : Int)) := by
  induction k with
  | zero => exact ⟨h.len, fun m => by have := h.bd m; simpa [mulRow] using this⟩
  | succ k ih => have := upto_step ih hp i k; exact ⟨this.len, fun m => by have := this.bd m; rw [mulRow]; omega⟩
theorem upto_to {H R : List Int} (hp : ∀ i k, 0 ≤ H.getD i 0 * R.getD k 0 ∧ H.getD i 0 * R.getD k 0 ≤ 18014398509481984) (i : Nat) : Upto (mulTo H R i) (450359962737049600 * (i : Int)) := by
  induction i with
  | zero => exact ⟨rfl, fun m => by rcases m with _ | _ | _ | _ | _ | m <;> simp [mulTo, limbs]⟩
  | succ i ih => have := upto_row ih hp i 5; exact ⟨this.len, fun m => by have := this.bd m; rw [mulTo]; omega⟩
theorem mul_pos {a b : Int} (ha : 0 ≤ a ∧ a ≤ 268435456) (hb : 0 ≤ b ∧ b ≤ 67108864) : 0 ≤ a * b ∧ a * b ≤ 18014398509481984 :=
  ⟨Int.mul_nonneg ha.1 hb.1, by have := Int.mul_le_mul ha.2 hb.2 hb.1 (by omega : (0 : Int) ≤ 268435456); omega⟩

set_option maxRecDepth 100000 in
set_option maxHeartbeats 4000000 in
theorem l3Mul_any (g c g2 c2 : Nat) (H R : List Int) (w : World) (h : KOw .u64 w g H) (h2 : KOw .u64 w g2 R) (hH : Upto H 268435456) (hR : Upto R 67108864) (hF : Five (mulTo H R 5)) :
    Calls Tryz.prog 228 #[.slice (some ⟨g, 0, none⟩) 5 c, .slice (some ⟨g2, 0, none⟩) 5 c2] w fun e w' => (∃ g' c', e = .returned (.slice (some ⟨g', 0, none⟩) 5 c') ∧ w.heap.size ≤ g' ∧ KOw .u64 w' g' (carL (carL (mulTo H R 5)))) ∧ Below w.heap.size w w' := by
  have hmk := run_make_five w
  have hkb : KB .u64 118 _ _ (mulTo H R 0) := five_kb w
  have hp : ∀ i k, 0 ≤ H.getD i 0 * R.getD k 0 ∧ H.getD i 0 * R.getD k 0 ≤ 18014398509481984 := fun i k => mul_pos (hH.bd i) (hR.bd k)
  have Hp := Shut.mk hp
  have Hu := Shut.mk (fun i => upto_to hp i)
  have hg1 := h.lt
  have hg2 := h2.lt
  have lH := Shut.mk hH.len
  have lR := Shut.mk hR.len
  obtain ⟨Zf, hZ⟩ : ∃ Z, mulTo H R 5 = Z := ⟨_, rfl⟩
  rw [hZ] at hF ⊢
  have HZ := Shut.mk hZ
  clear hZ
  go_enter Tryz.func228, Tryz.ntmps228
  go_wp2
  go_loopw [6] (fun i wr => ∃ k : Nat, k ≤ 5 ∧ i = .int .i64 (k : Int) ∧ KOw .u64 wr w.heap.size (mulTo H R k) ∧ But w.heap.size (w.heap.size + 1) (w.alloc (.cells fiveZ 118)) wr) (fun i _ => 5 - (intOf i).toNat)
  case atStart => exact ⟨0, by omega, rfl, hkb.kow, But.refl _ _ _⟩
  case round =>
    clear hkb hmk
    obtain ⟨i, hi, rfl, hv, hbut⟩ := hrel
    by_cases hlt : i < 5
    · obtain ⟨wh, rfl⟩ : ∃ x, x = wr := ⟨_, rfl⟩
      have Hn : Shut (mulTo H R (i + 1) = mulRow H R (mulTo H R i) i 5) := ⟨rfl⟩
      have hu := Hu.out i
      generalize mulTo H R i = L at *
      have Hr : Shut (∀ k, Upto (mulRow H R L i k) (450359962737049600 * (i : Int) + 90071992547409920 * (k : Int))) := ⟨fun k => upto_row hu hp i k⟩
      have Hst : Shut (∀ k, mulRow H R L i (k + 1) = mulStep H R (mulRow H R L i k) i k) := ⟨fun _ => rfl⟩
      have hv0 : KOw .u64 wh w.heap.size (mulRow H R L i 0) := hv
      clear hu hv
      have hd : decide ((i : Int) < 5) = true := by simp; omega
      go_wp2
      go_loopw [7] (fun v wq => ∃ k : Nat, k ≤ 5 ∧ v = .int .i64 (k : Int) ∧ KOw .u64 wq w.heap.size (mulRow H R L i k) ∧ But w.heap.size (w.heap.size + 1) (w.alloc (.cells fiveZ 118)) wq) (fun i _ => 5 - (intOf i).toNat)
      case atStart => exact ⟨0, by omega, rfl, hv0, hbut⟩
      case round =>
        clear hv0 hbut
        obtain ⟨k, hk5, rfl, hv, hbut⟩ := hrel
        by_cases hlk : k < 5
        · have hs := Hst.out k
          have hu := Hr.out k
          generalize mulRow H R L i k = L2 at *
          have q0 := hv.cell ((i + k) % 5) (by rw [hu.len]; omega)
          have f0 := hv.frozen ((i + k) % 5)
          have q1 := ((h.alloc (.cells fiveZ 118)).keep (hbut.block g (by omega) (by omega)) hbut.size).cell i (by rw [lH.out]; omega)
          have q2 := ((h2.alloc (.cells fiveZ 118)).keep (hbut.block g2 (by omega) (by omega)) hbut.size).cell k (by rw [lR.out]; omega)
          have hx := Hp.out i k
          have hb := hu.bd ((i + k) % 5)
          unfold mulStep mulTerm at hs
          have hset := fun x => hv.set_ ((i + k) % 5) (by rw [hu.len]; omega) x
          clear hu
          generalize H.getD i 0 = X at *
          generalize R.getD k 0 = Y at *
          generalize L2.getD ((i + k) % 5) 0 = Z at *
          obtain ⟨P, hP⟩ : ∃ P, X * Y = P := ⟨_, rfl⟩
          rw [hP] at hx hs
          have hxy : IntKind.u64.wrap (X * Y) = P := by rw [hP]; exact IntWalk.u64_in _ (by omega)
          clear hP
          have Hs := Shut.mk hs
          clear hs Hr Hst Hp Hu Hn
          have hm : ((i : Int) + (k : Int)) % 5 = (((i + k) % 5 : Nat) : Int) := by omega
          have hm5 : (i + k) % 5 < 5 := by omega
          generalize (i + k) % 5 = m at *
          have hk6 : (k : Int) < 5 := by omega
          have hi6 : (i : Int) < 5 := by omega
          by_cases h5 : 5 ≤ i + k
          · rw [if_pos h5] at Hs
            have hik : (5 : Int) ≤ (i : Int) + (k : Int) := by omega
            go_wp2
            go_region
            all_goals
              go_wp2
              exact ⟨⟨k + 1, by omega, by go_num, KOw.of_eq Hs.out (hset _).drew, (hbut.setCell _ _).drewN 1⟩, by simp [intOf]; omega⟩
          · rw [if_neg h5] at Hs
            have hik : ¬ (5 : Int) ≤ (i : Int) + (k : Int) := by omega
            go_wp2
            go_region
            all_goals
              go_wp2
              exact ⟨⟨k + 1, by omega, by go_num, KOw.of_eq Hs.out (hset _).drew, (hbut.setCell _ _).drewN 1⟩, by simp [intOf]; omega⟩
        · obtain rfl : k = 5 := by omega
          rw [← Hn.out] at hv
          go_wp2
          exact ⟨⟨i + 1, by omega, by go_num, hv, hbut⟩, by simp [intOf]; omega⟩
    · obtain rfl : i = 5 := by omega
      rw [HZ.out] at hv
      have hcar := l3Carry_any w.heap.size 5 Zf wr hv hF
      have Bw : Below w.heap.size w wr := (ab (Below.refl _ _) _).trans (hbut.below (by omega) (Nat.le_refl _))
      have hsz := hbut.size
      clear hv Hp Hu
      go_wp2_with fail
      refine hcar.mono ?_
      rintro e w2 ⟨rfl, hv2, hb2⟩
      clear hcar
      go_wp2
      go_ret
      refine ⟨⟨_, _, rfl, Nat.le_refl _, hv2⟩, Bw.trans (hb2.below ?_ (Nat.le_refl _))⟩
      rw [World.size_alloc] at hsz
      omega
end Go.Proofs.YtabhcolfkkfonaaGreatDoor

/-! LeastC -/
/- What 2 to the power of 130, less 5, leaves of limbs, of the model. -/
namespace Go.Proofs.YtabhcolfkkfonaaGreatDoor
open Go.RowKit

/-- words of 64 bits appended to a row of the call's own that is empty: what a copy is -/
theorem wpList_longs_copy {ops : Array Oper} {rest : List Oper} {o : Oper} {a : Act} {Q : Exit → Act → World → Prop} (hgd : o.guard = none) (s x : Operand)
    (ho : o.op = .call { callee := .builtin .append, args := #[s, x], argTypes := #[228, 228] })
    (w : World) (g b n c : Nat) (l : List Int) (hs : a.eval s = .slice (some ⟨g, 0, none⟩) 0 0) (hg : w.heap[g]? = some (.cells #[] 118 (0, 0)))
    (hx : a.eval x = .slice (some ⟨b, 0, none⟩) n c) (hl : l.length = n) (hkb : KOw .u64 w b l) (hn : n ≤ 1000000)
    (h : ∀ g' c' w', KOw .u64 w' g' l → g ≤ g' → Below g w w' → w.heap.size ≤ w'.heap.size → wpList Tryz.prog ops Q rest (a.put o.dst (.slice (some ⟨g', 0, none⟩) n c')) w') (hn0 : 0 < n) : wpList Tryz.prog ops Q (o :: rest) a w := by
  obtain ⟨i0, hi, hz0, hz1, hz2⟩ := info_parts info_u64
  have hgl : g < w.heap.size := (Array.getElem?_eq_some_iff.1 hg).1
  have hown : w.ownsRow g 118 1 (.slice (some ⟨g, 0, none⟩) 0 0) 0 [] := ⟨by simp, .inr ⟨g, 0, #[], rfl, Nat.le_refl _, hg, Nat.le_refl _, by unfold maxLen; omega, by simp, by simp⟩⟩
  have hadd : ∀ (b j : Nat), (⟨b, 0, none⟩ : Addr).add j = ⟨b, j, none⟩ := fun b j => by unfold Addr.add; split <;> simp_all
  refine wpList_append_own _ hgd s x 228 ho g 118 i0 (.int .u64 0) 1 8 Tryz.underlying228 hi hz0 hz1 hz2 rfl (by decide) _ 0 [] hs hown ⟨b, 0, none⟩ n c (l.map (Value.int .u64)) hx (by simp [hl])
    (fun j u hu => by
      have hj : j < l.length := by
        rcases Nat.lt_or_ge j l.length with h1 | h1
        · exact h1
        · rw [List.getElem?_eq_none (by simpa using h1)] at hu; cases hu
      rw [hadd, hkb.cell j hj]
      rw [List.getElem?_map, List.getElem?_eq_getElem hj] at hu
      simpa [List.getD, List.getElem?_eq_getElem hj] using hu)
    (fun u hu => by obtain ⟨y, _, rfl⟩ := List.mem_map.1 hu; rfl) (by unfold maxLen; omega) (by omega) (by omega) ?_
  intro v' w' hown' hgrow _
  rw [Nat.zero_add, List.nil_append] at hown'
  rcases hown'.2 with ⟨_, hz⟩ | ⟨g', cap, cur, rfl, hB, hg', _, _, _, _⟩
  · omega
  · refine h g' cap w' ⟨(Array.getElem?_eq_some_iff.1 hg').1, fun i hi => ?_, fun i => by simp [World.frozen?, hg']⟩ hB ⟨hgrow.os, hgrow.tape, hgrow.output, hgrow.size, fun k hk => hgrow.block k (by omega) (fun e => by simp [Value.ownBlock] at e; omega)⟩ hgrow.size
    have := hown'.cells (g := g') rfl i (.int .u64 (l.getD i 0)) (by simp [List.getD, List.getElem?_eq_getElem hi])
    rwa [hadd] at this

/-- five numbers of 26 bits -/
def Norm (l : List Int) : Prop := ∃ a b c d e : Int, l = [a, b, c, d, e] ∧ (0 ≤ a ∧ a < 67108864) ∧ (0 ≤ b ∧ b < 67108864) ∧ (0 ≤ c ∧ c < 67108864) ∧ (0 ≤ d ∧ d < 67108864) ∧ (0 ≤ e ∧ e < 67108864)
def leastStep (L : List Int) (k : Nat) : List Int := (L.set (k + 1) (L.getD (k + 1) 0 + L.getD k 0 / 67108864)).set k (L.getD k 0 % 67108864)
def leastTo (N : List Int) : Nat → List Int
  | 0 => N.set 0 (N.getD 0 0 + 5)
  | k + 1 => leastStep (leastTo N k) k
theorem leastTo_bd (N : List Int) (h : Norm N) (k : Nat) (hk : k ≤ 4) : ∃ a b c d e : Int, leastTo N k = [a, b, c, d, e] ∧ (0 ≤ a ∧ a < 134217728) ∧ (0 ≤ b ∧ b < 134217728) ∧ (0 ≤ c ∧ c < 134217728) ∧ (0 ≤ d ∧ d < 134217728) ∧ (0 ≤ e ∧ e < 134217728) := by
  obtain ⟨a, b, c, d, e, rfl, ha, hb, hc, hd, he⟩ := h
  have ek : k = 0 ∨ k = 1 ∨ k = 2 ∨ k = 3 ∨ k = 4 := by omega
  rcases ek with rfl | rfl | rfl | rfl | rfl
  · exact ⟨a + 5, b, c, d, e, rfl, by omega⟩
  · exact ⟨(a + 5) % 67108864, b + (a + 5) / 67108864, c, d, e, rfl, by omega⟩
  · exact ⟨(a + 5) % 67108864, (b + (a + 5) / 67108864) % 67108864, c + (b + (a + 5) / 67108864) / 67108864, d, e, rfl, by omega⟩
  · exact ⟨(a + 5) % 67108864, (b + (a + 5) / 67108864) % 67108864, (c + (b + (a + 5) / 67108864) / 67108864) % 67108864, d + (c + (b + (a + 5) / 67108864) / 67108864) / 67108864, e, rfl, by omega⟩
  · exact ⟨(a + 5) % 67108864, (b + (a + 5) / 67108864) % 67108864, (c + (b + (a + 5) / 67108864) / 67108864) % 67108864, (d + (c + (b + (a + 5) / 67108864) / 67108864) / 67108864) % 67108864, e + (d + (c + (b + (a + 5) / 67108864) / 67108864) / 67108864) / 67108864, rfl, by omega⟩
theorem least_end (N : List Int) (h : Norm N) : (0 < (leastTo N 4).getD 4 0 / 67108864 → (leastTo N 4).set 4 ((leastTo N 4).getD 4 0 % 67108864) = limbs (val5 N % pp)) ∧ (¬ 0 < (leastTo N 4).getD 4 0 / 67108864 → N = limbs (val5 N % pp)) := by
  obtain ⟨a, b, c, d, e, rfl, ha, hb, hc, hd, he⟩ := h
  exact ⟨least_yes a b c d e ha hb hc hd he, least_no a b c d e ha hb hc hd he⟩
theorem norm_len {N : List Int} (h : Norm N) : N.length = 5 := by obtain ⟨a, b, c, d, e, rfl, _⟩ := h; rfl

set_option maxRecDepth 100000 in
set_option maxHeartbeats 4000000 in
theorem l3Least_any (g c : Nat) (H N : List Int) (w : World) (h : KOw .u64 w g H) (hF : Five H) (hN : carL (carL H) = N) (hn : Norm N) :
    Calls Tryz.prog 230 #[.slice (some ⟨g, 0, none⟩) 5 c] w fun e w' => (∃ g' c', e = .returned (.slice (some ⟨g', 0, none⟩) 5 c') ∧ (g' = g ∨ w.heap.size ≤ g') ∧ KOw .u64 w' g' (limbs (val5 N % pp))) ∧ But g w.heap.size w w' := by
  have hcar := l3Carry_any g c H w h hF
  rw [hN] at hcar
  have Hl := Shut.mk (norm_len hn)
  have Hb := Shut.mk (leastTo_bd N hn)
  have He := Shut.mk (least_end N hn)
  have H0 : Shut (leastTo N 0 = N.set 0 (N.getD 0 0 + 5)) := ⟨rfl⟩
  have Hst : Shut (∀ k, leastTo N (k + 1) = leastStep (leastTo N k) k) := ⟨fun _ => rfl⟩
  have hglt := h.lt
  generalize limbs (val5 N % pp) = F at *
  obtain ⟨n0, n1, n2, n3, n4, rfl, d0, d1, d2, d3, d4⟩ := hn
  clear h hN
  go_enter Tryz.func230, Tryz.ntmps230
  go_wp2_with fail
  refine hcar.mono ?_
  rintro e w1 ⟨rfl, hv, hb1⟩
  clear hcar
  go_wp2_with (at_builtin; refine wpList_longs_copy rfl _ _ rfl _ w1.heap.size g 5 c [n0, n1, n2, n3, n4] rfl (heap_alloc_new w1 _) rfl Hl.out (hv.alloc _) (by omega) ?_ (by omega); intro g2 c2 w2 k2 hg2 hb2 hs2; have q0 := k2.cell 0 (by simp); have f0 := k2.frozen 0; simp only [List.getD_cons_zero] at q0)
  have k3 := k2.set_ 0 (by simp) (n0 + 5)
  rw [show [n0, n1, n2, n3, n4].set 0 (n0 + 5) = leastTo [n0, n1, n2, n3, n4] 0 from rfl] at k3
  have hs1 := hb1.size
  rw [World.size_alloc] at hs2
  have kv2 : KOw .u64 w2 g [n0, n1, n2, n3, n4] := (hv.alloc (.cells #[] 118)).below hb2 (by omega)
  have B2 : But g w.heap.size w w2 := (hb1.trans ((But.of_below (ab (Below.refl _ _) (.cells #[] 118))).mono (by omega))).trans ((But.of_below hb2).mono (by omega))
  have hg2l := k2.lt
  clear hb2 hv k2 q0 f0 hb1
  go_loopw [4] (fun i wr => ∃ k : Nat, k ≤ 4 ∧ i = .int .i64 (k : Int) ∧ KOw .u64 wr g2 (leastTo [n0, n1, n2, n3, n4] k) ∧ But g2 (w2.heap.size) w2 wr) (fun i _ => 4 - (intOf i).toNat)
  case atStart => exact ⟨0, by omega, rfl, k3, (But.refl _ _ _).setCell _ _⟩
  case round =>
    clear k3
    obtain ⟨k, hk, rfl, hv, hbut⟩ := hrel
    obtain ⟨p0, p1, p2, p3, p4, hp, b0, b1, b2, b3, b4⟩ := Hb.out k (by omega)
    by_cases hlk : k < 4
    · have hs := Hst.out k
      rw [hp] at hv hs
      have Hs := Shut.mk hs
      clear hs hp Hst Hb He
      have c0 := hv.cell 0 (by simp)
      have c1 := hv.cell 1 (by simp)
      have c2 := hv.cell 2 (by simp)
      have c3 := hv.cell 3 (by simp)
      have c4 := hv.cell 4 (by simp)
      have f0 := hv.frozen 0
      have f1 := hv.frozen 1
      have f2 := hv.frozen 2
      have f3 := hv.frozen 3
      have f4 := hv.frozen 4
      simp only [List.getD_cons_zero, List.getD_cons_succ] at c0 c1 c2 c3 c4
      have e : k = 0 ∨ k = 1 ∨ k = 2 ∨ k = 3 := by omega
      rcases e with rfl | rfl | rfl | rfl
      · go_wp2
        go_region
        all_goals
          go_wp2
          simp (disch := omega) only [and26]
          refine ⟨⟨_, by omega, ?_, KOw.of_eq Hs.out (KOw.drew ?_), ((hbut.setCell _ _).setCell _ _).drewN 1⟩, by simp [intOf]⟩
          · rfl
          · simp [leastStep]
            exact (hv.set_ 1 (by simp) _).set_ 0 (by simp) _
      · go_wp2
        go_region
        all_goals
          go_wp2
          simp (disch := omega) only [and26]
          refine ⟨⟨_, by omega, ?_, KOw.of_eq Hs.out (KOw.drew ?_), ((hbut.setCell _ _).setCell _ _).drewN 1⟩, by simp [intOf]⟩
          · rfl
          · simp [leastStep]
            exact (hv.set_ 2 (by simp) _).set_ 1 (by simp) _
      · go_wp2
        go_region
        all_goals
          go_wp2
          simp (disch := omega) only [and26]
          refine ⟨⟨_, by omega, ?_, KOw.of_eq Hs.out (KOw.drew ?_), ((hbut.setCell _ _).setCell _ _).drewN 1⟩, by simp [intOf]⟩
          · rfl
          · simp [leastStep]
            exact (hv.set_ 3 (by simp) _).set_ 2 (by simp) _
      · go_wp2
        go_region
        all_goals
          go_wp2
          simp (disch := omega) only [and26]
          refine ⟨⟨_, by omega, ?_, KOw.of_eq Hs.out (KOw.drew ?_), ((hbut.setCell _ _).setCell _ _).drewN 1⟩, by simp [intOf]⟩
          · rfl
          · simp [leastStep]
            exact (hv.set_ 4 (by simp) _).set_ 3 (by simp) _
    · obtain rfl : k = 4 := by omega
      have he := He.out
      rw [hp] at hv he
      simp only [List.getD_cons_zero, List.getD_cons_succ, List.set_cons_zero, List.set_cons_succ] at he
      have c4 := hv.cell 4 (by simp)
      have f4 := hv.frozen 4
      simp only [List.getD_cons_zero, List.getD_cons_succ] at c4
      have kv3 : KOw .u64 wr g [n0, n1, n2, n3, n4] := kv2.keep (hbut.block g kv2.lt (by omega)) hbut.size
      have hsz := hbut.size
      have B3 : But g w.heap.size w wr := B2.trans (But.of_below (hbut.below (by omega) (by omega)))
      have He2 := Shut.mk he
      clear he hp Hst Hb He H0 hbut kv2 B2
      by_cases h5 : 0 < p4 / 67108864
      · have a4 : bits .and .u64 p4 67108863 = p4 % 67108864 := and26 p4 (by omega) (by omega)
        go_wp2
        go_ret
        refine ⟨⟨_, _, rfl, .inr (by omega), KOw.of_eq (He2.out.1 h5).symm ?_⟩, B3.trans ((But.of_below ((Below.refl g2 wr).setCell (Nat.le_refl g2) _)).mono (by omega))⟩
        exact hv.set_ 4 (by simp) _
      · have h6 : p4 / 67108864 ≤ 0 := by omega
        go_wp2
        go_ret
        exact ⟨⟨_, ⟨_, rfl⟩, .inl rfl, KOw.of_eq (He2.out.2 (by omega)).symm kv3⟩, B3⟩
end Go.Proofs.YtabhcolfkkfonaaGreatDoor

/-! OutC -/
/- The sixteen lowest bytes of limbs and of sixteen bytes together, of the model. -/
namespace Go.Proofs.YtabhcolfkkfonaaGreatDoor
open Go.RowKit

theorem and255 (x : Int) (h0 : 0 ≤ x) (h1 : x < 18446744073709551616) : bits .and .u64 x 255 = x % 256 := by
  rw [u64_and x 255 h0 h1 (by omega) (by omega)]
  rw [show (255 : Int).toNat = 2 ^ 8 - 1 from rfl, Nat.and_two_pow_sub_one_eq_mod]
  omega
theorem or64 (k : Nat) (x y : Int) (hx0 : 0 ≤ x) (hx1 : x < 2 ^ k) (hk : k ≤ 26) (hy0 : 0 ≤ y) (hy1 : y < 67108864) : bits .or .u64 x (y * 2 ^ k) = x + y * 2 ^ k := by
  have hp : (2 : Int) ^ k ≤ 67108864 := (show ∀ k : Nat, k ≤ 26 → (2 : Int) ^ k ≤ 67108864 by decide) k hk
  have hp0 : (0 : Int) < 2 ^ k := Int.pow_pos (by omega)
  have hm : 0 ≤ y * 2 ^ k := Int.mul_nonneg hy0 (by omega)
  have hm2 : y * 2 ^ k ≤ 67108864 * 67108864 := Int.mul_le_mul (by omega) hp (by omega) (by omega)
  rw [u64_or x (y * 2 ^ k) hx0 (by omega) hm (by omega)]
  obtain ⟨a, rfl⟩ := Int.eq_ofNat_of_zero_le hx0
  obtain ⟨b, rfl⟩ := Int.eq_ofNat_of_zero_le hy0
  have e : ((b : Int) * 2 ^ k).toNat = b * 2 ^ k := by
    have : ((b * 2 ^ k : Nat) : Int) = (b : Int) * 2 ^ k := by push_cast; rfl
    omega
  have ha : a < 2 ^ k := by
    have : ((2 ^ k : Nat) : Int) = (2 : Int) ^ k := by push_cast; rfl
    omega
  rw [e, show ((a : Int)).toNat = a from rfl, Nat.or_comm, nat_join k (b * 2 ^ k) a (Nat.mul_mod_left _ _) ha]
  push_cast
  omega
theorem lo_cons (a : Int) (l : List Int) : lo (a :: l) = lo l * 256 + a := by unfold lo; rw [List.reverse_cons, hi_snoc]
theorem lo_digit (l : List Int) (h : By l) (i : Nat) (hi : i < l.length) : lo l / 256 ^ i % 256 = l.getD i 0 := by
  induction l generalizing i with
  | nil => cases hi
  | cons a l ih =>
    have ha := h a (List.mem_cons_self)
    rcases i with _ | i
    · rw [lo_cons]; simp; omega
    · rw [lo_cons, Int.pow_succ', ← Int.ediv_ediv_of_nonneg (by omega : (0 : Int) ≤ 256), show (lo l * 256 + a) / 256 = lo l by omega]
      have := ih (fun x hx => h x (List.mem_cons_of_mem _ hx)) i (by simpa using hi)
      simpa using this
/-- what is carried into place i when N and S are put together -/
def carryAt (N S : Int) (i : Nat) : Int := (N + S) / 256 ^ i - N / 256 ^ i - S / 256 ^ i
theorem carry_step (N S : Int) (i : Nat) : (N / 256 ^ i % 256 + S / 256 ^ i % 256 + carryAt N S i) % 256 = (N + S) / 256 ^ i % 256 ∧ (N / 256 ^ i % 256 + S / 256 ^ i % 256 + carryAt N S i) / 256 = carryAt N S (i + 1) := by
  have hd : ∀ x : Int, x / 256 ^ (i + 1) = x / 256 ^ i / 256 := fun x => by
    rw [Int.pow_succ, ← Int.ediv_ediv_of_nonneg (Int.pow_nonneg (by omega))]
  unfold carryAt
  rw [hd, hd, hd]
  generalize (N + S) / 256 ^ i = m
  generalize N / 256 ^ i = a
  generalize S / 256 ^ i = b
  omega
theorem carry_bd (N S : Int) (i : Nat) (hi : i ≤ 16) : 0 ≤ carryAt N S i ∧ carryAt N S i ≤ 1 := by
  have e : i = 0 ∨ i = 1 ∨ i = 2 ∨ i = 3 ∨ i = 4 ∨ i = 5 ∨ i = 6 ∨ i = 7 ∨ i = 8 ∨ i = 9 ∨ i = 10 ∨ i = 11 ∨ i = 12 ∨ i = 13 ∨ i = 14 ∨ i = 15 ∨ i = 16 := by omega
  unfold carryAt
  rcases e with rfl | rfl | rfl | rfl | rfl | rfl | rfl | rfl | rfl | rfl | rfl | rfl | rfl | rfl | rfl | rfl | rfl
  all_goals
    simp
    omega
theorem lowOf_succ' (n : Int) (k : Nat) : lowOf n (k + 1) = lowOf n k ++ [n / 256 ^ k % 256] := by simp [lowOf, List.range_succ]

set_option maxRecDepth 100000 in
set_option maxHeartbeats 8000000 in
theorem l3Out_any (g c : Nat) (N : Int) (A : Option Addr) (c2 : Nat) (s : List Int) (w : World) (h : KOw .u64 w g (limbs N)) (hN0 : 0 ≤ N) (hN1 : N < 1361129467683753853853498429727072845824) (hs : Bs w A 16 s) :
    Calls Tryz.prog 229 #[.slice (some ⟨g, 0, none⟩) 5 c, .slice A 16 c2] w fun e w' => (∃ A' c', e = .returned (.slice A' 16 c') ∧ Row w' w.heap.size (.slice A' 16 c') (lowOf (N + lo s) 16)) ∧ Below w.heap.size w w' := by
  have Hc : Shut (∀ i, i < 16 → (N / 256 ^ i % 256 + s.getD i 0 + carryAt N (lo s) i) % 256 = (N + lo s) / 256 ^ i % 256 ∧ (N / 256 ^ i % 256 + s.getD i 0 + carryAt N (lo s) i) / 256 = carryAt N (lo s) (i + 1)) := ⟨fun i hi => by
    have := carry_step N (lo s) i
    rwa [lo_digit s hs.byte i (by rw [hs.len]; exact hi)] at this⟩
  have Hb : Shut (∀ i, i ≤ 16 → 0 ≤ carryAt N (lo s) i ∧ carryAt N (lo s) i ≤ 1) := ⟨fun i hi => carry_bd N (lo s) i hi⟩
  have H0 : Shut (carryAt N (lo s) 0 = 0) := ⟨by simp [carryAt]; omega⟩
  obtain ⟨p0, p1, p2, p3, p4, hp, b0, b1, b2, b3, b4, hNp⟩ : ∃ p0 p1 p2 p3 p4, limbs N = [p0, p1, p2, p3, p4] ∧ (0 ≤ p0 ∧ p0 < 67108864) ∧ (0 ≤ p1 ∧ p1 < 67108864) ∧ (0 ≤ p2 ∧ p2 < 67108864) ∧ (0 ≤ p3 ∧ p3 < 67108864) ∧ (0 ≤ p4 ∧ p4 < 67108864) ∧ N = p0 + p1 * 67108864 + p2 * 4503599627370496 + p3 * 302231454903657293676544 + p4 * 20282409603651670423947251286016 := by
    refine ⟨_, _, _, _, _, rfl, ?_⟩
    omega
  rw [hp] at h
  have HN := Shut.mk hNp
  clear hp hNp
  obtain ⟨b, off, rfl, hbs, _⟩ := hs.at_ (by omega)
  go_enter Tryz.func229, Tryz.ntmps229
  go_wp2
  go_loopw [5, 6, 7] (fun v q i wr => ∃ k : Nat, k ≤ 16 ∧ i = .int .i64 (k : Int) ∧ q = .int .u64 (carryAt N (lo s) k) ∧ Row wr w.heap.size v (lowOf (N + lo s) k) ∧ Below w.heap.size w wr) (fun _ _ i _ => 16 - (intOf i).toNat)
  case atStart => exact ⟨0, by omega, rfl, by rw [H0.out], Row.empty w _ (Nat.le_refl _) rfl, ab (Below.refl _ _) _⟩
  case round =>
    obtain ⟨k, hk, rfl, rfl, hrow, hbel⟩ := hrel
    have hlen := Shut.mk (lowOf_len (N + lo s) k)
    obtain ⟨A3, cq, rfl, _⟩ := hrow.ow hlen.out
    by_cases hlt : k < 16
    · obtain ⟨b', off', X, e, hbs', hX0, hX1, HX, hx⟩ := hs.get hlt
      injection e with e
      injection e with e1 e2
      subst e1 e2
      have hx' := (hbel.cell (p := ⟨b, off + k, none⟩) hbs).trans hx
      have hv := h.below hbel h.lt
      have hc := Hc.out k hlt
      rw [HX.out] at hc
      have hb := Hb.out k hk
      have Hs := Shut.mk (lowOf_succ' (N + lo s) k)
      rw [← hc.1] at Hs
      have hc2 := hc.2
      have hsz := hbel.size
      clear hx Hc Hb H0 hc
      have c0 := hv.cell 0 (by simp)
      have c1 := hv.cell 1 (by simp)
      have c2 := hv.cell 2 (by simp)
      have c3 := hv.cell 3 (by simp)
      have c4 := hv.cell 4 (by simp)
      simp only [List.getD_cons_zero, List.getD_cons_succ] at c0 c1 c2 c3 c4
      generalize carryAt N (lo s) k = C at *
      have hD : ∃ D, N / 256 ^ k % 256 = D := ⟨_, rfl⟩
      obtain ⟨D, hD⟩ := hD
      rw [hD] at hc2 Hs
      have hD0 : 0 ≤ D ∧ D < 256 := by omega
      have Hc2 := Shut.mk hc2
      clear hc2
      have e : k = 0 ∨ k = 1 ∨ k = 2 ∨ k = 3 ∨ k = 4 ∨ k = 5 ∨ k = 6 ∨ k = 7 ∨ k = 8 ∨ k = 9 ∨ k = 10 ∨ k = 11 ∨ k = 12 ∨ k = 13 ∨ k = 14 ∨ k = 15 := by omega
      rcases e with rfl | rfl | rfl | rfl | rfl | rfl | rfl | rfl | rfl | rfl | rfl | rfl | rfl | rfl | rfl | rfl
      · have hd : bits .and .u64 (p0) 255 = D := by
          rw [and255 _ (by omega) (by omega), ← hD, HN.out]
          omega
        simp only [Nat.add_zero] at hx'
        clear HN
        go_wp2_with (at_builtin; refine wpList_row_append rfl _ _ rfl _ w.heap.size (.slice A3 0 cq) _ rfl (hrow.alloc _) (by simp; omega) ⟨wr.heap.size, 0, none⟩ 1 ((D + X + C) % 256) rfl (cell_one _ _ _) (by omega) (by omega) (by rw [hlen.out]; omega) ?_; intro v2 w2 hr2 hb2 hs2)
        rw [← Hs.out] at hr2
        exact ⟨⟨0 + 1, by omega, rfl, congrArg (Value.int .u64) Hc2.out, hr2, (ab hbel _).trans hb2⟩, by simp [intOf]⟩
      · have hd : bits .and .u64 (p0 / 256) 255 = D := by
          rw [and255 _ (by omega) (by omega), ← hD, HN.out]
          omega
        clear HN
        go_wp2_with (at_builtin; refine wpList_row_append rfl _ _ rfl _ w.heap.size (.slice A3 1 cq) _ rfl (hrow.alloc _) (by simp; omega) ⟨wr.heap.size, 0, none⟩ 1 ((D + X + C) % 256) rfl (cell_one _ _ _) (by omega) (by omega) (by rw [hlen.out]; omega) ?_; intro v2 w2 hr2 hb2 hs2)
        rw [← Hs.out] at hr2
        exact ⟨⟨1 + 1, by omega, rfl, congrArg (Value.int .u64) Hc2.out, hr2, (ab hbel _).trans hb2⟩, by simp [intOf]⟩
      · have hd : bits .and .u64 (p0 / 65536) 255 = D := by
          rw [and255 _ (by omega) (by omega), ← hD, HN.out]
          omega
        clear HN
        go_wp2_with (at_builtin; refine wpList_row_append rfl _ _ rfl _ w.heap.size (.slice A3 2 cq) _ rfl (hrow.alloc _) (by simp; omega) ⟨wr.heap.size, 0, none⟩ 1 ((D + X + C) % 256) rfl (cell_one _ _ _) (by omega) (by omega) (by rw [hlen.out]; omega) ?_; intro v2 w2 hr2 hb2 hs2)
        rw [← Hs.out] at hr2
        exact ⟨⟨2 + 1, by omega, rfl, congrArg (Value.int .u64) Hc2.out, hr2, (ab hbel _).trans hb2⟩, by simp [intOf]⟩
      · have ho : bits .or .u64 (p0 / 16777216) (p1 * 4) = p0 / 16777216 + p1 * 4 := or64 2 _ _ (by omega) (by omega) (by omega) (by omega) (by omega)
        have hd : bits .and .u64 (p0 / 16777216 + p1 * 4) 255 = D := by
          rw [and255 _ (by omega) (by omega), ← hD, HN.out]
          omega
        clear HN
        go_wp2_with (at_builtin; refine wpList_row_append rfl _ _ rfl _ w.heap.size (.slice A3 3 cq) _ rfl (hrow.alloc _) (by simp; omega) ⟨wr.heap.size, 0, none⟩ 1 ((D + X + C) % 256) rfl (cell_one _ _ _) (by omega) (by omega) (by rw [hlen.out]; omega) ?_; intro v2 w2 hr2 hb2 hs2)
        rw [← Hs.out] at hr2
        exact ⟨⟨3 + 1, by omega, rfl, congrArg (Value.int .u64) Hc2.out, hr2, (ab hbel _).trans hb2⟩, by simp [intOf]⟩
      · have hd : bits .and .u64 (p1 / 64) 255 = D := by
          rw [and255 _ (by omega) (by omega), ← hD, HN.out]
          omega
        clear HN
        go_wp2_with (at_builtin; refine wpList_row_append rfl _ _ rfl _ w.heap.size (.slice A3 4 cq) _ rfl (hrow.alloc _) (by simp; omega) ⟨wr.heap.size, 0, none⟩ 1 ((D + X + C) % 256) rfl (cell_one _ _ _) (by omega) (by omega) (by rw [hlen.out]; omega) ?_; intro v2 w2 hr2 hb2 hs2)
        rw [← Hs.out] at hr2
        exact ⟨⟨4 + 1, by omega, rfl, congrArg (Value.int .u64) Hc2.out, hr2, (ab hbel _).trans hb2⟩, by simp [intOf]⟩
      · have hd : bits .and .u64 (p1 / 16384) 255 = D := by
          rw [and255 _ (by omega) (by omega), ← hD, HN.out]
          omega
        clear HN
        go_wp2_with (at_builtin; refine wpList_row_append rfl _ _ rfl _ w.heap.size (.slice A3 5 cq) _ rfl (hrow.alloc _) (by simp; omega) ⟨wr.heap.size, 0, none⟩ 1 ((D + X + C) % 256) rfl (cell_one _ _ _) (by omega) (by omega) (by rw [hlen.out]; omega) ?_; intro v2 w2 hr2 hb2 hs2)
        rw [← Hs.out] at hr2
        exact ⟨⟨5 + 1, by omega, rfl, congrArg (Value.int .u64) Hc2.out, hr2, (ab hbel _).trans hb2⟩, by simp [intOf]⟩
      · have ho : bits .or .u64 (p1 / 4194304) (p2 * 16) = p1 / 4194304 + p2 * 16 := or64 4 _ _ (by omega) (by omega) (by omega) (by omega) (by omega)
        have hd : bits .and .u64 (p1 / 4194304 + p2 * 16) 255 = D := by
          rw [and255 _ (by omega) (by omega), ← hD, HN.out]
          omega
        clear HN
        go_wp2_with (at_builtin; refine wpList_row_append rfl _ _ rfl _ w.heap.size (.slice A3 6 cq) _ rfl (hrow.alloc _) (by simp; omega) ⟨wr.heap.size, 0, none⟩ 1 ((D + X + C) % 256) rfl (cell_one _ _ _) (by omega) (by omega) (by rw [hlen.out]; omega) ?_; intro v2 w2 hr2 hb2 hs2)
        rw [← Hs.out] at hr2
        exact ⟨⟨6 + 1, by omega, rfl, congrArg (Value.int .u64) Hc2.out, hr2, (ab hbel _).trans hb2⟩, by simp [intOf]⟩
      · have hd : bits .and .u64 (p2 / 16) 255 = D := by
          rw [and255 _ (by omega) (by omega), ← hD, HN.out]
          omega
        clear HN
        go_wp2_with (at_builtin; refine wpList_row_append rfl _ _ rfl _ w.heap.size (.slice A3 7 cq) _ rfl (hrow.alloc _) (by simp; omega) ⟨wr.heap.size, 0, none⟩ 1 ((D + X + C) % 256) rfl (cell_one _ _ _) (by omega) (by omega) (by rw [hlen.out]; omega) ?_; intro v2 w2 hr2 hb2 hs2)
        rw [← Hs.out] at hr2
        exact ⟨⟨7 + 1, by omega, rfl, congrArg (Value.int .u64) Hc2.out, hr2, (ab hbel _).trans hb2⟩, by simp [intOf]⟩
      · have hd : bits .and .u64 (p2 / 4096) 255 = D := by
          rw [and255 _ (by omega) (by omega), ← hD, HN.out]
          omega
        clear HN
        go_wp2_with (at_builtin; refine wpList_row_append rfl _ _ rfl _ w.heap.size (.slice A3 8 cq) _ rfl (hrow.alloc _) (by simp; omega) ⟨wr.heap.size, 0, none⟩ 1 ((D + X + C) % 256) rfl (cell_one _ _ _) (by omega) (by omega) (by rw [hlen.out]; omega) ?_; intro v2 w2 hr2 hb2 hs2)
        rw [← Hs.out] at hr2
        exact ⟨⟨8 + 1, by omega, rfl, congrArg (Value.int .u64) Hc2.out, hr2, (ab hbel _).trans hb2⟩, by simp [intOf]⟩
      · have ho : bits .or .u64 (p2 / 1048576) (p3 * 64) = p2 / 1048576 + p3 * 64 := or64 6 _ _ (by omega) (by omega) (by omega) (by omega) (by omega)
        have hd : bits .and .u64 (p2 / 1048576 + p3 * 64) 255 = D := by
          rw [and255 _ (by omega) (by omega), ← hD, HN.out]
          omega
        clear HN
        go_wp2_with (at_builtin; refine wpList_row_append rfl _ _ rfl _ w.heap.size (.slice A3 9 cq) _ rfl (hrow.alloc _) (by simp; omega) ⟨wr.heap.size, 0, none⟩ 1 ((D + X + C) % 256) rfl (cell_one _ _ _) (by omega) (by omega) (by rw [hlen.out]; omega) ?_; intro v2 w2 hr2 hb2 hs2)
        rw [← Hs.out] at hr2
        exact ⟨⟨9 + 1, by omega, rfl, congrArg (Value.int .u64) Hc2.out, hr2, (ab hbel _).trans hb2⟩, by simp [intOf]⟩
      · have hd : bits .and .u64 (p3 / 4) 255 = D := by
          rw [and255 _ (by omega) (by omega), ← hD, HN.out]
          omega
        clear HN
        go_wp2_with (at_builtin; refine wpList_row_append rfl _ _ rfl _ w.heap.size (.slice A3 10 cq) _ rfl (hrow.alloc _) (by simp; omega) ⟨wr.heap.size, 0, none⟩ 1 ((D + X + C) % 256) rfl (cell_one _ _ _) (by omega) (by omega) (by rw [hlen.out]; omega) ?_; intro v2 w2 hr2 hb2 hs2)
        rw [← Hs.out] at hr2
        exact ⟨⟨10 + 1, by omega, rfl, congrArg (Value.int .u64) Hc2.out, hr2, (ab hbel _).trans hb2⟩, by simp [intOf]⟩
      · have hd : bits .and .u64 (p3 / 1024) 255 = D := by
          rw [and255 _ (by omega) (by omega), ← hD, HN.out]
          omega
        clear HN
        go_wp2_with (at_builtin; refine wpList_row_append rfl _ _ rfl _ w.heap.size (.slice A3 11 cq) _ rfl (hrow.alloc _) (by simp; omega) ⟨wr.heap.size, 0, none⟩ 1 ((D + X + C) % 256) rfl (cell_one _ _ _) (by omega) (by omega) (by rw [hlen.out]; omega) ?_; intro v2 w2 hr2 hb2 hs2)
        rw [← Hs.out] at hr2
        exact ⟨⟨11 + 1, by omega, rfl, congrArg (Value.int .u64) Hc2.out, hr2, (ab hbel _).trans hb2⟩, by simp [intOf]⟩
      · have hd : bits .and .u64 (p3 / 262144) 255 = D := by
          rw [and255 _ (by omega) (by omega), ← hD, HN.out]
          omega
        clear HN
        go_wp2_with (at_builtin; refine wpList_row_append rfl _ _ rfl _ w.heap.size (.slice A3 12 cq) _ rfl (hrow.alloc _) (by simp; omega) ⟨wr.heap.size, 0, none⟩ 1 ((D + X + C) % 256) rfl (cell_one _ _ _) (by omega) (by omega) (by rw [hlen.out]; omega) ?_; intro v2 w2 hr2 hb2 hs2)
        rw [← Hs.out] at hr2
        exact ⟨⟨12 + 1, by omega, rfl, congrArg (Value.int .u64) Hc2.out, hr2, (ab hbel _).trans hb2⟩, by simp [intOf]⟩
      · have hd : bits .and .u64 (p4) 255 = D := by
          rw [and255 _ (by omega) (by omega), ← hD, HN.out]
          omega
        clear HN
        go_wp2_with (at_builtin; refine wpList_row_append rfl _ _ rfl _ w.heap.size (.slice A3 13 cq) _ rfl (hrow.alloc _) (by simp; omega) ⟨wr.heap.size, 0, none⟩ 1 ((D + X + C) % 256) rfl (cell_one _ _ _) (by omega) (by omega) (by rw [hlen.out]; omega) ?_; intro v2 w2 hr2 hb2 hs2)
        rw [← Hs.out] at hr2
        exact ⟨⟨13 + 1, by omega, rfl, congrArg (Value.int .u64) Hc2.out, hr2, (ab hbel _).trans hb2⟩, by simp [intOf]⟩
      · have hd : bits .and .u64 (p4 / 256) 255 = D := by
          rw [and255 _ (by omega) (by omega), ← hD, HN.out]
          omega
        clear HN
        go_wp2_with (at_builtin; refine wpList_row_append rfl _ _ rfl _ w.heap.size (.slice A3 14 cq) _ rfl (hrow.alloc _) (by simp; omega) ⟨wr.heap.size, 0, none⟩ 1 ((D + X + C) % 256) rfl (cell_one _ _ _) (by omega) (by omega) (by rw [hlen.out]; omega) ?_; intro v2 w2 hr2 hb2 hs2)
        rw [← Hs.out] at hr2
        exact ⟨⟨14 + 1, by omega, rfl, congrArg (Value.int .u64) Hc2.out, hr2, (ab hbel _).trans hb2⟩, by simp [intOf]⟩
      · have hd : bits .and .u64 (p4 / 65536) 255 = D := by
          rw [and255 _ (by omega) (by omega), ← hD, HN.out]
          omega
        clear HN
        go_wp2_with (at_builtin; refine wpList_row_append rfl _ _ rfl _ w.heap.size (.slice A3 15 cq) _ rfl (hrow.alloc _) (by simp; omega) ⟨wr.heap.size, 0, none⟩ 1 ((D + X + C) % 256) rfl (cell_one _ _ _) (by omega) (by omega) (by rw [hlen.out]; omega) ?_; intro v2 w2 hr2 hb2 hs2)
        rw [← Hs.out] at hr2
        exact ⟨⟨15 + 1, by omega, rfl, congrArg (Value.int .u64) Hc2.out, hr2, (ab hbel _).trans hb2⟩, by simp [intOf]⟩
    · obtain rfl : k = 16 := by omega
      go_wp2
      go_ret
      exact ⟨⟨_, _, rfl, hrow⟩, hbel⟩
end Go.Proofs.YtabhcolfkkfonaaGreatDoor

/-! ClampC -/
/- The first half of a key for a tag, of the model. -/
namespace Go.Proofs.YtabhcolfkkfonaaGreatDoor
open Go.RowKit

def clampA (l : List Int) : Nat → List Int
  | 0 => l
  | k + 1 => (clampA l k).set (4 * k + 3) ((clampA l k).getD (4 * k + 3) 0 % 16)
def clampB (l : List Int) : Nat → List Int
  | 0 => clampA l 4
  | k + 1 => (clampB l k).set (4 * k + 4) ((clampB l k).getD (4 * k + 4) 0 / 4 * 4)
/-- sixteen bytes of which some bits are put to nought -/
def clampL (l : List Int) : List Int := clampB l 3
theorem clampA_len (l : List Int) (k : Nat) : (clampA l k).length = l.length := by
  induction k with
  | zero => rfl
  | succ k ih => rw [clampA, List.length_set, ih]
theorem clampB_len (l : List Int) (k : Nat) : (clampB l k).length = l.length := by
  induction k with
  | zero => exact clampA_len _ _
  | succ k ih => rw [clampB, List.length_set, ih]
theorem By.set_ {l : List Int} (h : By l) (i : Nat) {x : Int} (h0 : 0 ≤ x) (h1 : x < 256) : By (l.set i x) := fun y hy => by
  rcases List.mem_or_eq_of_mem_set hy with h2 | rfl
  · exact h y h2
  · exact ⟨h0, h1⟩
theorem clampA_byte (l : List Int) (h : By l) (k : Nat) : By (clampA l k) := by
  induction k with
  | zero => exact h
  | succ k ih => have := ih.get (4 * k + 3); rw [clampA]; exact ih.set_ _ (by omega) (by omega)
theorem clampB_byte (l : List Int) (h : By l) (k : Nat) : By (clampB l k) := by
  induction k with
  | zero => exact clampA_byte _ h _
  | succ k ih => have := ih.get (4 * k + 4); rw [clampB]; exact ih.set_ _ (by omega) (by omega)
theorem and15 (x : Int) (h0 : 0 ≤ x) (h1 : x < 256) : bits .and .u8 x 15 = x % 16 := by
  rw [u8_and x 15 h0 h1 (by omega) (by omega)]
  rw [show (15 : Int).toNat = 2 ^ 4 - 1 from rfl, Nat.and_two_pow_sub_one_eq_mod]
  omega
theorem and252 (x : Int) (h0 : 0 ≤ x) (h1 : x < 256) : bits .and .u8 x 252 = x / 4 * 4 := by
  rw [u8_and x 252 h0 h1 (by omega) (by omega)]
  obtain ⟨n, rfl⟩ := Int.eq_ofNat_of_zero_le h0
  have hn : n < 256 := by omega
  have hd : ∀ n : Fin 256, (n.val &&& 252) = n.val / 4 * 4 := by decide +kernel
  have := hd ⟨n, hn⟩
  simp only at this
  rw [show (252 : Int).toNat = 252 from rfl, show ((n : Int)).toNat = n from rfl, this]
  omega

set_option maxRecDepth 100000 in
set_option maxHeartbeats 4000000 in
theorem l3Clamp_any (A : Option Addr) (n c : Nat) (l : List Int) (w : World) (h : Bs w A n l) (hn : 16 ≤ n) (hc : n ≤ c) :
    Calls Tryz.prog 226 #[.slice A n c] w fun e w' => (∃ g c', e = .returned (.slice (some ⟨g, 0, none⟩) 16 c') ∧ w.heap.size ≤ g ∧ Ow w' w.heap.size (some ⟨g, 0, none⟩) 16 (clampL (l.take 16))) ∧ Below w.heap.size w w' := by
  obtain ⟨b, off, rfl, hb, _⟩ := h.at_ (by omega)
  have hp := h.part_ 0 16 (by omega)
  rw [Nat.add_zero, List.drop_zero] at hp
  have hL := Shut.mk hp.len
  have hby := Shut.mk hp.byte
  generalize l.take 16 = L at *
  go_enter Tryz.func226, Tryz.ntmps226
  go_wp2_with fail
  refine (copyb_any _ _ _ _ _ hp (fun e => by cases e) (by omega)).mono ?_
  rintro e w1 ⟨⟨A1, c1, rfl, hrow⟩, hb1⟩
  have how := hrow.ow' hp.len
  obtain ⟨g, rfl, hgB, hgl, hcell, hfz⟩ := how.at_ (by omega)
  have k0 : KOw .u8 w1 g (clampA L 0) := ⟨hgl, fun i hi => hcell i (by rw [clampA, hL.out] at hi; exact hi), hfz⟩
  have HF : Shut (clampL L = clampB L 3) := ⟨rfl⟩
  have HB0 : Shut (clampB L 0 = clampA L 4) := ⟨rfl⟩
  have HA : Shut (∀ k, clampA L (k + 1) = (clampA L k).set (4 * k + 3) ((clampA L k).getD (4 * k + 3) 0 % 16)) := ⟨fun _ => rfl⟩
  have HB : Shut (∀ k, clampB L (k + 1) = (clampB L k).set (4 * k + 4) ((clampB L k).getD (4 * k + 4) 0 / 4 * 4)) := ⟨fun _ => rfl⟩
  have BA : Shut (∀ k, By (clampA L k) ∧ (clampA L k).length = 16) := ⟨fun k => ⟨clampA_byte L hby.out k, (clampA_len L k).trans hL.out⟩⟩
  have BB : Shut (∀ k, By (clampB L k) ∧ (clampB L k).length = 16) := ⟨fun k => ⟨clampB_byte L hby.out k, (clampB_len L k).trans hL.out⟩⟩
  clear hrow how hcell hfz hp
  go_wp2
  have hq : KB .i64 3 (w1.alloc (.cells #[.int .i64 3, .int .i64 7, .int .i64 11, .int .i64 15] 3)) w1.heap.size [3, 7, 11, 15] := KB.new w1 _ _ rfl
  have k1 := k0.alloc (.cells #[.int .i64 3, .int .i64 7, .int .i64 11, .int .i64 15] 3)
  have B1 : Below w.heap.size w (w1.alloc (.cells #[.int .i64 3, .int .i64 7, .int .i64 11, .int .i64 15] 3)) := ab hb1 _
  generalize hW : w1.alloc (.cells #[.int .i64 3, .int .i64 7, .int .i64 11, .int .i64 15] 3) = W at *
  have hWs : W.heap.size = w1.heap.size + 1 := by rw [← hW, World.size_alloc]
  have hWs' : w1.heap.size < W.heap.size := by omega
  have hgW : g < W.heap.size := by omega
  have hgq : w1.heap.size ≠ g := by omega
  clear hWs hW
  go_loopw [13] (fun i wr => ∃ k : Nat, k ≤ 4 ∧ i = .int .i64 (k : Int) ∧ KOw .u8 wr g (clampA L k) ∧ But g W.heap.size W wr) (fun i _ => 4 - (intOf i).toNat)
  case atStart => exact ⟨0, by omega, rfl, k1, But.refl _ _ _⟩
  case round =>
    clear k0 k1
    obtain ⟨k, hk, rfl, hv, hbut⟩ := hrel
    by_cases hlk : k < 4
    · have hs := HA.out k
      obtain ⟨hby, hlen⟩ := BA.out k
      have hx := hby.get (4 * k + 3)
      have q1 := hv.cell (4 * k + 3) (by omega)
      have q2 := (hq.keep (hbut.block _ hWs' hgq)).cell (i := k) (by simpa using hlk)
      have f1 := hv.frozen (4 * k + 3)
      have hset := fun x => hv.set_ (4 * k + 3) (by omega) x
      generalize (clampA L k).getD (4 * k + 3) 0 = X at *
      have Hs := Shut.mk hs
      have a15 := and15 X hx.1 hx.2
      clear hs HA BA BB HB
      have e : k = 0 ∨ k = 1 ∨ k = 2 ∨ k = 3 := by omega
      rcases e with rfl | rfl | rfl | rfl
      all_goals
        simp at q1 q2 f1
        go_wp2
        refine ⟨⟨_, by omega, ?_, KOw.of_eq Hs.out (hset _), hbut.setCell _ _⟩, by simp [intOf]⟩
        rfl
    · obtain rfl : k = 4 := by omega
      have hv1 : KOw .u8 wr g (clampB L 0) := KOw.of_eq HB0.out hv
      obtain ⟨wh, rfl⟩ : ∃ x, x = wr := ⟨_, rfl⟩
      have hsz := hbut.size
      have B2 : Below w.heap.size w wh := B1.trans (hbut.below (by omega) (by omega))
      clear hv hq hbut HA BA HB0 B1 hb1
      go_wp2
      have hq : KB .i64 3 (wh.alloc (.cells #[.int .i64 4, .int .i64 8, .int .i64 12] 3)) wh.heap.size [4, 8, 12] := KB.new wh _ _ rfl
      have k1 := hv1.alloc (.cells #[.int .i64 4, .int .i64 8, .int .i64 12] 3)
      have B3 : Below w.heap.size w (wh.alloc (.cells #[.int .i64 4, .int .i64 8, .int .i64 12] 3)) := ab B2 _
      generalize hV : wh.alloc (.cells #[.int .i64 4, .int .i64 8, .int .i64 12] 3) = V at *
      have hVs : V.heap.size = wh.heap.size + 1 := by rw [← hV, World.size_alloc]
      have hVs' : wh.heap.size < V.heap.size := by omega
      have hgV : g < V.heap.size := by omega
      have hgq2 : wh.heap.size ≠ g := by omega
      clear hVs hV
      simp only [Int.cast_ofNat_Int]
      go_loopw [28] (fun i wr => ∃ k : Nat, k ≤ 3 ∧ i = .int .i64 (k : Int) ∧ KOw .u8 wr g (clampB L k) ∧ But g V.heap.size V wr) (fun i _ => 3 - (intOf i).toNat)
      case atStart => exact ⟨0, by omega, rfl, k1, But.refl _ _ _⟩
      case round =>
        clear hv1 k1
        obtain ⟨k, hk3, rfl, hv, hbut⟩ := hrel
        by_cases hlk : k < 3
        · have hs := HB.out k
          obtain ⟨hby, hlen⟩ := BB.out k
          have hx := hby.get (4 * k + 4)
          have q1 := hv.cell (4 * k + 4) (by omega)
          have q2 := (hq.keep (hbut.block _ hVs' hgq2)).cell (i := k) (by simpa using hlk)
          have f1 := hv.frozen (4 * k + 4)
          have hset := fun x => hv.set_ (4 * k + 4) (by omega) x
          generalize (clampB L k).getD (4 * k + 4) 0 = X at *
          have Hs := Shut.mk hs
          have a15 := and252 X hx.1 hx.2
          clear hs BB HB
          have e : k = 0 ∨ k = 1 ∨ k = 2 := by omega
          rcases e with rfl | rfl | rfl
          all_goals
            simp at q1 q2 f1
            go_wp2
            refine ⟨⟨_, by omega, ?_, KOw.of_eq Hs.out (hset _), hbut.setCell _ _⟩, by simp [intOf]⟩
            rfl
        · obtain rfl : k = 3 := by omega
          have hb16 := BB.out 3
          rw [← HF.out] at hb16 hv
          go_wp2
          go_ret
          refine ⟨⟨g, _, rfl, by omega, hb16.2, hb16.1, fun _ => ⟨g, rfl, by omega, hv.lt, fun i hi => hv.cell i (by rw [hb16.2]; exact hi), hv.frozen⟩⟩, B3.trans (hbut.below (by omega) (by omega))⟩
end Go.Proofs.YtabhcolfkkfonaaGreatDoor

/-! PolyN -/
/- A tag's number: plain mathematics over the lists that the model's limbs hold. -/
namespace Go.Proofs.YtabhcolfkkfonaaGreatDoor
open Go.RowKit

/-- limbs between two steps: carried twice, and what 2 to the power of 130, less 5, leaves of them -/
def Pre (L : List Int) (acc : Int) : Prop := ∃ a b c d e : Int, L = [a, b, c, d, e] ∧ (0 ≤ a ∧ a ≤ 67108868) ∧ (0 ≤ b ∧ b < 67108864) ∧ (0 ≤ c ∧ c < 67108864) ∧ (0 ≤ d ∧ d < 67108864) ∧ (0 ≤ e ∧ e < 67108864) ∧ val5 L % pp = acc
def addTo (H M : List Int) : Nat → List Int
  | 0 => H
  | k + 1 => (addTo H M k).set k ((addTo H M k).getD k 0 + M.getD k 0)
theorem pre_zero : Pre (limbs 0) 0 := ⟨0, 0, 0, 0, 0, rfl, by omega, by omega, by omega, by omega, by omega, by simp [limbs, val5]⟩
/-- the products of limbs, written out -/
theorem mulTo_eq (a b c d e r s t u v : Int) : mulTo [a, b, c, d, e] [r, s, t, u, v] 5 =
    [a * r + 5 * (b * v + c * u + d * t + e * s), a * s + b * r + 5 * (c * v + d * u + e * t), a * t + b * s + c * r + 5 * (d * v + e * u), a * u + b * t + c * s + d * r + 5 * (e * v), a * v + b * u + c * t + d * s + e * r] := by
  simp [mulTo, mulRow, mulStep, mulTerm, limbs]
  omega
theorem limbs_bd (m : Int) (h0 : 0 ≤ m) (h1 : m < 1361129467683753853853498429727072845824) : ∃ a b c d e : Int, limbs m = [a, b, c, d, e] ∧ (0 ≤ a ∧ a < 67108864) ∧ (0 ≤ b ∧ b < 67108864) ∧ (0 ≤ c ∧ c < 67108864) ∧ (0 ≤ d ∧ d < 67108864) ∧ (0 ≤ e ∧ e < 67108864) := by
  refine ⟨_, _, _, _, _, rfl, ?_⟩
  omega
theorem limbs_upto (m : Int) (h0 : 0 ≤ m) (h1 : m < 1361129467683753853853498429727072845824) : Upto (limbs m) 67108864 := by
  obtain ⟨a, b, c, d, e, h, ha, hb, hc, hd, he⟩ := limbs_bd m h0 h1
  rw [h]
  exact ⟨rfl, fun i => by rcases i with _ | _ | _ | _ | _ | i <;> simp <;> omega⟩
theorem add_upto (H : List Int) (acc m : Int) (hp : Pre H acc) (h0 : 0 ≤ m) (h1 : m < 1361129467683753853853498429727072845824) (k : Nat) (hk : k ≤ 5) :
    (addTo H (limbs m) k).length = 5 ∧ ∀ i, 0 ≤ (addTo H (limbs m) k).getD i 0 ∧ (addTo H (limbs m) k).getD i 0 ≤ 268435456 := by
  obtain ⟨a, b, c, d, e, rfl, ha, hb, hc, hd, he, _⟩ := hp
  obtain ⟨f, g, x, y, z, h, hf, hg, hx, hy, hz⟩ := limbs_bd m h0 h1
  rw [h]
  have ek : k = 0 ∨ k = 1 ∨ k = 2 ∨ k = 3 ∨ k = 4 ∨ k = 5 := by omega
  rcases ek with rfl | rfl | rfl | rfl | rfl | rfl
  all_goals
    refine ⟨rfl, fun i => ?_⟩
    rcases i with _ | _ | _ | _ | _ | i <;> simp [addTo] <;> omega
/-- a step of a tag: a block put to it, and taken times r -/
theorem poly_step (H : List Int) (acc m r : Int) (hp : Pre H acc) (h0 : 0 ≤ m) (h1 : m < 1361129467683753853853498429727072845824) (r0 : 0 ≤ r) (r1 : r < 1361129467683753853853498429727072845824) :
    Five (mulTo (addTo H (limbs m) 5) (limbs r) 5) ∧ Pre (carL (carL (mulTo (addTo H (limbs m) 5) (limbs r) 5))) ((acc + m) * r % pp) := by
  obtain ⟨a, b, c, d, e, rfl, ha, hb, hc, hd, he, hacc⟩ := hp
  obtain ⟨f, g, x, y, z, h, hf, hg, hx, hy, hz⟩ := limbs_bd m h0 h1
  obtain ⟨p, q, s, t, u, h', hp, hq, hs, ht, hu⟩ := limbs_bd r r0 r1
  have hm := limbs_val m
  have hr := limbs_val r
  rw [h] at hm ⊢
  rw [h'] at hr ⊢
  rw [show addTo [a, b, c, d, e] [f, g, x, y, z] 5 = [a + f, b + g, c + x, d + y, e + z] from rfl]
  have hv : val5 [a + f, b + g, c + x, d + y, e + z] = val5 [a, b, c, d, e] + m := by
    rw [← hm]
    simp only [val5, List.getD_cons_zero, List.getD_cons_succ]
    omega
  have hA : 0 ≤ a + f ∧ a + f ≤ 268435456 := by omega
  have hB : 0 ≤ b + g ∧ b + g ≤ 268435456 := by omega
  have hC : 0 ≤ c + x ∧ c + x ≤ 268435456 := by omega
  have hD : 0 ≤ d + y ∧ d + y ≤ 268435456 := by omega
  have hE : 0 ≤ e + z ∧ e + z ≤ 268435456 := by omega
  generalize a + f = A at *
  generalize b + g = B at *
  generalize c + x = C at *
  generalize d + y = D at *
  generalize e + z = E at *
  have P : 0 ≤ p ∧ p ≤ 67108864 := by omega
  have Q : 0 ≤ q ∧ q ≤ 67108864 := by omega
  have S : 0 ≤ s ∧ s ≤ 67108864 := by omega
  have T : 0 ≤ t ∧ t ≤ 67108864 := by omega
  have U : 0 ≤ u ∧ u ≤ 67108864 := by omega
  have b0 : (0 ≤ A * p ∧ A * p ≤ 18014398509481984) ∧ (0 ≤ A * q ∧ A * q ≤ 18014398509481984) ∧ (0 ≤ A * s ∧ A * s ≤ 18014398509481984) ∧ (0 ≤ A * t ∧ A * t ≤ 18014398509481984) ∧ (0 ≤ A * u ∧ A * u ≤ 18014398509481984) := ⟨mul_pos hA P, mul_pos hA Q, mul_pos hA S, mul_pos hA T, mul_pos hA U⟩
  have b1 : (0 ≤ B * p ∧ B * p ≤ 18014398509481984) ∧ (0 ≤ B * q ∧ B * q ≤ 18014398509481984) ∧ (0 ≤ B * s ∧ B * s ≤ 18014398509481984) ∧ (0 ≤ B * t ∧ B * t ≤ 18014398509481984) ∧ (0 ≤ B * u ∧ B * u ≤ 18014398509481984) := ⟨mul_pos hB P, mul_pos hB Q, mul_pos hB S, mul_pos hB T, mul_pos hB U⟩
  have b2 : (0 ≤ C * p ∧ C * p ≤ 18014398509481984) ∧ (0 ≤ C * q ∧ C * q ≤ 18014398509481984) ∧ (0 ≤ C * s ∧ C * s ≤ 18014398509481984) ∧ (0 ≤ C * t ∧ C * t ≤ 18014398509481984) ∧ (0 ≤ C * u ∧ C * u ≤ 18014398509481984) := ⟨mul_pos hC P, mul_pos hC Q, mul_pos hC S, mul_pos hC T, mul_pos hC U⟩
  have b3 : (0 ≤ D * p ∧ D * p ≤ 18014398509481984) ∧ (0 ≤ D * q ∧ D * q ≤ 18014398509481984) ∧ (0 ≤ D * s ∧ D * s ≤ 18014398509481984) ∧ (0 ≤ D * t ∧ D * t ≤ 18014398509481984) ∧ (0 ≤ D * u ∧ D * u ≤ 18014398509481984) := ⟨mul_pos hD P, mul_pos hD Q, mul_pos hD S, mul_pos hD T, mul_pos hD U⟩
  have b4 : (0 ≤ E * p ∧ E * p ≤ 18014398509481984) ∧ (0 ≤ E * q ∧ E * q ≤ 18014398509481984) ∧ (0 ≤ E * s ∧ E * s ≤ 18014398509481984) ∧ (0 ≤ E * t ∧ E * t ≤ 18014398509481984) ∧ (0 ≤ E * u ∧ E * u ≤ 18014398509481984) := ⟨mul_pos hE P, mul_pos hE Q, mul_pos hE S, mul_pos hE T, mul_pos hE U⟩
  obtain ⟨q0, hq0⟩ := mul_val A B C D E p q s t u
  rw [mulTo_eq]
  have hX0 : 0 ≤ A * p + 5 * (B * u + C * t + D * s + E * q) ∧ A * p + 5 * (B * u + C * t + D * s + E * q) < 1152921504606846976 := by omega
  have hX1 : 0 ≤ A * q + B * p + 5 * (C * u + D * t + E * s) ∧ A * q + B * p + 5 * (C * u + D * t + E * s) < 1152921504606846976 := by omega
  have hX2 : 0 ≤ A * s + B * q + C * p + 5 * (D * u + E * t) ∧ A * s + B * q + C * p + 5 * (D * u + E * t) < 1152921504606846976 := by omega
  have hX3 : 0 ≤ A * t + B * s + C * q + D * p + 5 * (E * u) ∧ A * t + B * s + C * q + D * p + 5 * (E * u) < 1152921504606846976 := by omega
  have hX4 : 0 ≤ A * u + B * t + C * s + D * q + E * p ∧ A * u + B * t + C * s + D * q + E * p < 1152921504606846976 := by omega
  generalize A * p + 5 * (B * u + C * t + D * s + E * q) = X0 at *
  generalize A * q + B * p + 5 * (C * u + D * t + E * s) = X1 at *
  generalize A * s + B * q + C * p + 5 * (D * u + E * t) = X2 at *
  generalize A * t + B * s + C * q + D * p + 5 * (E * u) = X3 at *
  generalize A * u + B * t + C * s + D * q + E * p = X4 at *
  refine ⟨⟨_, _, _, _, _, rfl, hX0, hX1, hX2, hX3, hX4⟩, ?_⟩
  obtain ⟨q1, hq1⟩ := car_val X0 X1 X2 X3 X4
  obtain ⟨a1, a2, a3, a4, a5, hcar, bd⟩ := car_one X0 X1 X2 X3 X4 hX0 hX1 hX2 hX3 hX4
  rw [show carL [X0, X1, X2, X3, X4] = car X0 X1 X2 X3 X4 from rfl]
  rw [hcar] at hq1 ⊢
  obtain ⟨q2, hq2⟩ := car_val a1 a2 a3 a4 a5
  obtain ⟨e1, e2, e3, e4, e5, hcar2, bd2⟩ := car_two a1 a2 a3 a4 a5 (by omega) (by omega) (by omega) (by omega) (by omega)
  rw [show carL [a1, a2, a3, a4, a5] = car a1 a2 a3 a4 a5 from rfl]
  rw [hcar2] at hq2 ⊢
  refine ⟨e1, e2, e3, e4, e5, rfl, by omega, by omega, by omega, by omega, by omega, ?_⟩
  rw [hv, hr] at hq0
  generalize val5 [e1, e2, e3, e4, e5] = v2 at *
  generalize val5 [a1, a2, a3, a4, a5] = v1 at *
  generalize val5 [X0, X1, X2, X3, X4] = v0 at *
  generalize val5 [a, b, c, d, e] = v at *
  rw [← hacc]
  have e1 : (v + m) * r = v2 + pp * (q0 + q1 + q2) := by rw [hq0, hq1, hq2, Int.mul_add, Int.mul_add]; omega
  rw [Int.mul_emod, Int.emod_add_emod, ← Int.mul_emod, e1, Int.add_mul_emod_self_left]
theorem pre_five (H : List Int) (acc : Int) (hp : Pre H acc) : Five H := by
  obtain ⟨a, b, c, d, e, rfl, ha, hb, hc, hd, he, _⟩ := hp
  exact ⟨a, b, c, d, e, rfl, by omega, by omega, by omega, by omega, by omega⟩
theorem pre_norm (H : List Int) (acc : Int) (hp : Pre H acc) : Norm (carL (carL H)) ∧ val5 (carL (carL H)) % pp = acc := by
  obtain ⟨a, b, c, d, e, rfl, ha, hb, hc, hd, he, hacc⟩ := hp
  obtain ⟨q1, hq1⟩ := car_val a b c d e
  obtain ⟨a1, a2, a3, a4, a5, hcar, bd⟩ := car_norm a b c d e ha hb hc hd he
  rw [show carL [a, b, c, d, e] = car a b c d e from rfl]
  rw [hcar] at hq1 ⊢
  rw [show carL [a1, a2, a3, a4, a5] = car a1 a2 a3 a4 a5 from rfl, car_still a1 a2 a3 a4 a5 (by omega) (by omega) (by omega) (by omega) (by omega)]
  refine ⟨⟨a1, a2, a3, a4, a5, rfl, by omega, by omega, by omega, by omega, by omega⟩, ?_⟩
  rw [← hacc, hq1, Int.add_mul_emod_self_left]

/-- the block t of data, with a byte 1 behind it -/
def polyBlk (data : List Int) (t : Nat) : Int := lo ((data.drop (16 * t)).take 16 ++ [1])
/-- what stands behind t blocks -/
def polyAcc (r : Int) (data : List Int) : Nat → Int
  | 0 => 0
  | t + 1 => (polyAcc r data t + polyBlk data t) * r % pp
/-- the tag of a key and data -/
def polyTag (key data : List Int) : List Int := lowOf (polyAcc (lo (clampL (key.take 16))) data ((data.length + 15) / 16) + lo (key.drop 16)) 16
theorem polyTag_len (key data : List Int) : (polyTag key data).length = 16 := lowOf_len _ _
theorem polyAcc_bd (r : Int) (data : List Int) (t : Nat) : 0 ≤ polyAcc r data t ∧ polyAcc r data t < pp := by
  rcases t with _ | t
  · simp [polyAcc, pp]
  · exact ⟨Int.emod_nonneg _ (by decide), Int.emod_lt_of_pos _ (by decide)⟩
theorem polyBlk_bd (data : List Int) (h : By data) (t : Nat) : 0 ≤ polyBlk data t ∧ polyBlk data t < 1361129467683753853853498429727072845824 := by
  have hb : By ((data.drop (16 * t)).take 16) := fun x hx => h x (List.mem_of_mem_drop (List.mem_of_mem_take hx))
  have h1 := lo_bd _ hb
  have hl : ((data.drop (16 * t)).take 16).length ≤ 16 := by rw [List.length_take]; omega
  have hp := (show ∀ k : Nat, k ≤ 16 → (256 : Int) ^ k ≤ 256 ^ 16 by decide) _ hl
  unfold polyBlk
  rw [lo_snoc]
  have : (256 : Int) ^ 16 = 340282366920938463463374607431768211456 := by decide
  omega
end Go.Proofs.YtabhcolfkkfonaaGreatDoor

/-! PolyC -/
/- The tag of a key and data, of the model. -/
namespace Go.Proofs.YtabhcolfkkfonaaGreatDoor
open Go.RowKit

theorem l1Min_any (a b : Int) (w : World) : Calls Tryz.prog 227 #[.int .i64 a, .int .i64 b] w fun e w' => e = .returned (.int .i64 (if a < b then a else b)) ∧ w' = w := by
  by_cases h : a < b
  · rw [if_pos h]
    go_enter Tryz.func227, Tryz.ntmps227
    go_wp2
    go_ret
    exact ⟨rfl, rfl⟩
  · rw [if_neg h]
    go_enter Tryz.func227, Tryz.ntmps227
    go_wp2
    go_ret
    exact ⟨rfl, rfl⟩
/-- the bytes of block t of data of m bytes -/
def blkLen (m t : Nat) : Nat := if 16 * t + 16 < m then 16 else m - 16 * t
theorem min_blk (m t : Nat) (h : 16 * t < m) (w : World) : Calls Tryz.prog 227 #[.int .i64 (16 * (t : Int) + 16), .int .i64 (m : Int)] w fun e w' => e = .returned (.int .i64 (16 * (t : Int) + (blkLen m t : Int))) ∧ w' = w := by
  have := l1Min_any (16 * (t : Int) + 16) (m : Int) w
  rwa [show (if 16 * (t : Int) + 16 < (m : Int) then 16 * (t : Int) + 16 else (m : Int)) = 16 * (t : Int) + (blkLen m t : Int) from by
    unfold blkLen
    split <;> split <;> omega] at this
theorem blk_part (data : List Int) (m t : Nat) (h : data.length = m) : (data.drop (16 * t)).take (blkLen m t) = (data.drop (16 * t)).take 16 := by
  unfold blkLen
  split
  · rfl
  · rw [List.take_of_length_le (by rw [List.length_drop, h]; exact Nat.le_refl _), List.take_of_length_le (by rw [List.length_drop, h]; omega)]

set_option maxRecDepth 100000 in
set_option maxHeartbeats 4000000 in
theorem l3Poly_any (A : Option Addr) (c : Nat) (key : List Int) (A2 : Option Addr) (m c2 : Nat) (data : List Int) (w : World) (hk : Bs w A 32 key) (hc : 32 ≤ c) (hd : Bs w A2 m data) (hm : m ≤ 100000) (hc2 : m ≤ c2) :
    Calls Tryz.prog 202 #[.slice A 32 c, .slice A2 m c2] w fun e w' => (∃ A' c', e = .returned (.slice A' 16 c') ∧ Row w' w.heap.size (.slice A' 16 c') (polyTag key data)) ∧ Below w.heap.size w w' := by
  have Hd := Shut.mk hd.len
  have HT : Shut (polyTag key data = lowOf (polyAcc (lo (clampL (key.take 16))) data ((m + 15) / 16) + lo (key.drop 16)) 16) := ⟨by unfold polyTag; rw [hd.len]⟩
  have hcl := l3Clamp_any A 32 c key w hk (by omega) hc
  generalize polyTag key data = TG at *
  generalize hCL : clampL (key.take 16) = CL at *
  obtain ⟨bk, ok, rfl, hbk, _⟩ := hk.at_ (by omega)
  have hkd := hk.part_ 16 16 (by omega)
  rw [show (key.drop 16).take 16 = key.drop 16 from List.take_of_length_le (by rw [List.length_drop, hk.len]; omega)] at hkd
  generalize key.drop 16 = KD at *
  have hr : 0 ≤ lo CL ∧ lo CL < 1361129467683753853853498429727072845824 := by
    have h1 : By CL ∧ CL.length = 16 := by
      rw [← hCL]
      exact ⟨clampB_byte _ (fun x hx => hk.byte x (List.mem_of_mem_take hx)) 3, by unfold clampL; rw [clampB_len, List.length_take, hk.len]; rfl⟩
    have h2 := lo_bd CL h1.1
    rw [h1.2] at h2
    have : (256 : Int) ^ 16 = 340282366920938463463374607431768211456 := by decide
    omega
  clear hk hCL
  have Hacc : Shut (∀ t, polyAcc (lo CL) data (t + 1) = (polyAcc (lo CL) data t + polyBlk data t) * lo CL % pp) := ⟨fun _ => rfl⟩
  have Hbd : Shut (∀ t, 0 ≤ polyBlk data t ∧ polyBlk data t < 1361129467683753853853498429727072845824) := ⟨polyBlk_bd data hd.byte⟩
  have Hblk : Shut (∀ t, polyBlk data t = lo ((data.drop (16 * t)).take 16 ++ [1])) := ⟨fun _ => rfl⟩
  have Hp0 : Pre (limbs 0) (polyAcc (lo CL) data 0) := pre_zero
  generalize hR : lo CL = R at *
  go_enter Tryz.func202, Tryz.ntmps202
  go_wp2_with fail
  refine hcl.mono ?_
  clear hcl
  rintro e w1 ⟨⟨g1, c1, rfl, hg1, how1⟩, hb1⟩
  have hs1 := hb1.size
  go_wp2_with fail
  refine (l3Limbs_any _ 16 _ CL w1 how1.bs (by omega) (by omega)).mono ?_
  rintro e w2 ⟨⟨gr, cr, rfl, hgr, kr⟩, hb2⟩
  rw [hR] at kr
  have hs2 := hb2.size
  clear how1
  have hmk := run_make_five w2
  have hkb := five_kb w2
  have B2 := (ac hb1 hb2)
  have hgl := kr.lt
  have hs12 : w.heap.size ≤ w2.heap.size := by omega
  clear hb1 hb2 hs1
  go_wp2
  go_loopw [6, 7] (fun h i wr => ∃ (t g ch : Nat) (H : List Int), 16 * t < m + 16 ∧ i = .int .i64 (16 * (t : Int)) ∧ h = .slice (some ⟨g, 0, none⟩) 5 ch ∧ w2.heap.size ≤ g ∧ KOw .u64 wr g H ∧ Pre H (polyAcc R data t) ∧ Below w2.heap.size w2 wr) (fun _ i _ => m + 16 - (intOf i).toNat)
  case atStart => exact ⟨0, _, _, _, by omega, rfl, rfl, Nat.le_refl _, hkb.kow, Hp0, ab (Below.refl _ _) _⟩
  case round =>
    clear hkb hmk Hp0
    obtain ⟨t, g, ch, H, ht, rfl, rfl, hg, hv, hpre, hbel⟩ := hrel
    have hsz := hbel.size
    have Bw := B2.trans (hbel.mono (by omega))
    have hkr := kr.below hbel hgl
    by_cases hlt : 16 * t < m
    · obtain ⟨b2, o2, rfl, hb2l, _⟩ := hd.at_ (by omega)
      have hpart := (hd.below Bw).part_ (16 * t) (blkLen m t) (by unfold blkLen; split <;> omega)
      rw [blk_part data m t Hd.out] at hpart
      have hmin := min_blk m t hlt wr
      have hL : 0 < blkLen m t ∧ blkLen m t ≤ 16 ∧ 16 * t + blkLen m t ≤ m := by unfold blkLen; split <;> omega
      have HL := Shut.mk hpart.len
      have hacc := Hacc.out t
      have hbd := Hbd.out t
      have hblk := Hblk.out t
      rw [hblk] at hacc hbd
      generalize (data.drop (16 * t)).take 16 = D at *
      generalize blkLen m t = L at *
      have Ha := Shut.mk hacc
      obtain ⟨wh, rfl⟩ : ∃ x, x = wr := ⟨_, rfl⟩
      clear hacc hblk Hacc Hbd Hblk
      go_wp2_with fail
      refine hmin.mono ?_
      rintro e w3 ⟨rfl, rfl⟩
      clear hmin
      go_wp2_with fail
      refine (copyb_any _ L _ D w3 hpart (fun e => by cases e) (by omega)).mono ?_
      rintro e w4 ⟨⟨A4, c4, rfl, hr4⟩, hb4⟩
      have hs4 := hb4.size
      go_wp2_with (at_builtin; refine wpList_row_append rfl _ _ rfl _ w3.heap.size (.slice A4 L c4) _ rfl (hr4.alloc _) (by simp; omega) ⟨w4.heap.size, 0, none⟩ 1 1 rfl (cell_one _ _ _) (by omega) (by omega) (by rw [HL.out]; omega) ?_; intro v5 w5 hr5 hb5 hs5; obtain ⟨A5, c5, rfl, how5⟩ := hr5.ow (n := L + 1) (by rw [List.length_append, HL.out]; rfl))
      have hs5' : w4.heap.size < w5.heap.size := by rw [World.size_alloc] at hs5; omega
      have B5 : Below w3.heap.size w3 w5 := (ab hb4 _).trans hb5
      clear hr4 hb4 hb5 hr5 hs5
      refine (l3Limbs_any A5 (L + 1) c5 (D ++ [1]) w5 how5.bs (by omega) (fun e => by
        have e16 : L = 16 := by omega
        rw [List.getD, List.getElem?_append_right (by rw [HL.out]; omega), HL.out, e16]
        decide)).mono ?_
      rintro e w6 ⟨⟨gn, cn, rfl, hgn, kn⟩, hb6⟩
      have hs6 := hb6.size
      have B6 : Below w3.heap.size w3 w6 := ac B5 hb6
      have hv6 := hv.below B6 hv.lt
      have hkr6 := hkr.below B6 hkr.lt
      have hgl3 := hv.lt
      have hus : Shut (∀ k, k ≤ 5 → (addTo H (limbs (lo (D ++ [1]))) k).length = 5 ∧ ∀ i, 0 ≤ (addTo H (limbs (lo (D ++ [1]))) k).getD i 0 ∧ (addTo H (limbs (lo (D ++ [1]))) k).getD i 0 ≤ 268435456) := ⟨fun k hk => add_upto H _ _ hpre hbd.1 hbd.2 k hk⟩
      have hps := poly_step H _ _ R hpre hbd.1 hbd.2 hr.1 hr.2
      rw [← Ha.out] at hps
      have hMu := limbs_upto _ hbd.1 hbd.2
      have hRu := limbs_upto _ hr.1 hr.2
      have Hadd : Shut (∀ k, addTo H (limbs (lo (D ++ [1]))) (k + 1) = (addTo H (limbs (lo (D ++ [1]))) k).set k ((addTo H (limbs (lo (D ++ [1]))) k).getD k 0 + (limbs (lo (D ++ [1]))).getD k 0)) := ⟨fun _ => rfl⟩
      have hv0 : KOw .u64 w6 g (addTo H (limbs (lo (D ++ [1]))) 0) := hv6
      obtain ⟨m0, hm0⟩ : ∃ M, limbs (lo (D ++ [1])) = M := ⟨_, rfl⟩
      rw [hm0] at hps hMu kn hv0
      rw [hm0] at hus Hadd
      clear hm0 hv6 how5 hbd hpre B5 hv hkr Ha
      go_wp2
      go_loopw [10] (fun i wq => ∃ k : Nat, k ≤ 5 ∧ i = .int .i64 (k : Int) ∧ KOw .u64 wq g (addTo H m0 k) ∧ But g w6.heap.size w6 wq) (fun i _ => 5 - (intOf i).toNat)
      case atStart => exact ⟨0, by omega, rfl, hv0, But.refl _ _ _⟩
      case round =>
        clear hv0
        obtain ⟨k, hk5, rfl, hv, hbut⟩ := hrel
        have hkn := kn.keep (hbut.block gn kn.lt (by omega)) hbut.size
        by_cases hlk : k < 5
        · have hs := Hadd.out k
          have hu := hus.out k (by omega)
          have q0 := hv.cell k (by rw [hu.1]; omega)
          have f0 := hv.frozen k
          have q1 := hkn.cell k (by rw [hMu.len]; omega)
          have hb0 := hu.2 k
          have hb1 := hMu.bd k
          have hset := fun x => hv.set_ k (by rw [hu.1]; omega) x
          have hk6 : (k : Int) < 5 := by omega
          clear hu
          generalize (addTo H m0 k).getD k 0 = X at *
          generalize m0.getD k 0 = Y at *
          have Hs := Shut.mk hs
          clear hs hps Hadd hus
          go_wp2
          go_region
          all_goals
            go_wp2
            exact ⟨⟨k + 1, by omega, by go_num, KOw.of_eq Hs.out (hset _).drew, (hbut.setCell _ _).drewN 1⟩, by simp [intOf]; omega⟩
        · obtain rfl : k = 5 := by omega
          have hu := hus.out 5 (by omega)
          have hkr7 := hkr6.keep (hbut.block gr hkr6.lt (by omega)) hbut.size
          have hsq := hbut.size
          have Bq : Below w2.heap.size w2 wr := (hbel.trans (B6.mono hsz)).trans (hbut.below (by omega) hg)
          have hmul := l3Mul_any g ch gr cr (addTo H m0 5) (limbs R) wr hv hkr7 ⟨hu.1, hu.2⟩ hRu hps.1
          have hnext := hps.2
          generalize carL (carL (mulTo (addTo H m0 5) (limbs R) 5)) = F at *
          obtain ⟨wi, rfl⟩ : ∃ x, x = wr := ⟨_, rfl⟩
          clear hv hbut hkn hkr7 hu hus Hadd hps kn hkr6 B6 hbel
          go_wp2_with fail
          refine hmul.mono ?_
          rintro e w8 ⟨⟨g8, c8, rfl, hg8, k8⟩, hb8⟩
          clear hmul
          go_wp2
          exact ⟨⟨t + 1, g8, c8, F, by omega, by go_num, rfl, by omega, k8, hnext, Bq.trans (hb8.mono (by omega))⟩, by simp [intOf]; omega⟩
    · have hT : (m + 15) / 16 = t := by omega
      rw [hT] at HT
      have hnm := pre_norm H _ hpre
      have hlst := l3Least_any g ch H _ wr.drew hv.drew (pre_five H _ hpre) rfl hnm.1
      rw [hnm.2] at hlst
      have hab := polyAcc_bd R data t
      generalize polyAcc R data t = N at *
      have hN1 : N < 1361129467683753853853498429727072845824 := by have := hab.2; unfold pp at this; omega
      have hkd2 := hkd.below Bw
      have hgl3 := hv.lt
      have hbkg : bk ≠ g := by omega
      have hbkw : bk < wr.heap.size := by omega
      have hwr : w.heap.size ≤ wr.heap.size := by omega
      have hwg : w.heap.size ≤ g := by omega
      have hkd3 : Bs wr.drew (some ⟨bk, ok + 16, none⟩) 16 KD := hkd2.drewN 1
      have Bd : Below w.heap.size w wr.drew := Bw.drew
      have hc16 : ¬ c = 16 := by omega
      clear hv hpre hkr hnm Hacc Hbd Hblk
      go_wp2
      go_region_law (first
        | (go_simp; go_at_call 230; refine hlst.mono ?_; rintro e w8 ⟨⟨g8, c8, rfl, hg8, k8⟩, hb8⟩; have hs8 : wr.heap.size ≤ w8.heap.size := hb8.size; have hkd8 := hkd3.block (hb8.block bk hbkw hbkg) hs8; have B8 : Below w.heap.size w w8 := Bd.trans (hb8.below hwr hwg))
        | (go_simp; go_at_call 229; refine (l3Out_any g8 c8 N (some ⟨bk, ok + 16, none⟩) (c - 16) KD w8 k8 hab.1 hN1 hkd8).mono ?_; rintro e w9 ⟨⟨A9, c9, rfl, hr9⟩, hb9⟩))
      all_goals
        rw [← HT.out] at hr9
        go_wp2
        go_ret
        exact ⟨⟨A9, c9, rfl, hr9.mono B8.size⟩, B8.trans (hb9.mono B8.size)⟩
end Go.Proofs.YtabhcolfkkfonaaGreatDoor
