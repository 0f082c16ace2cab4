/- A product of limbs, of the model. -/
import Derived.Test.YtpoiecdifhkegaaDoorCarryC
namespace Go.Proofs.YtpoiecdifhkegaaDoor
open Go.RowKit

/-- what place k of r does to a product, for place i of h -/
def mulTerm (H R : List Int) (i k : Nat) : Int := if 5 ≤ i + k then 5 * (H.getD i 0 * R.getD k 0) else H.getD i 0 * R.getD k 0
def mulStep (H R L : List Int) (i k : Nat) : List Int := L.set ((i + k) % 5) (L.getD ((i + k) % 5) 0 + mulTerm H R i k)
def mulRow (H R L : List Int) (i : Nat) : Nat → List Int
  | 0 => L
  | k + 1 => mulStep H R (mulRow H R L i k) i k
def mulTo (H R : List Int) : Nat → List Int
  | 0 => limbs 0
  | i + 1 => mulRow H R (mulTo H R i) i 5
/-- five numbers from nought on, none above B -/
structure Upto (L : List Int) (B : Int) : Prop where
  len : L.length = 5
  bd : ∀ m, 0 ≤ L.getD m 0 ∧ L.getD m 0 ≤ B
theorem upto_step {H R L : List Int} {B : Int} (h : Upto L B) (hp : ∀ i k, 0 ≤ H.getD i 0 * R.getD k 0 ∧ H.getD i 0 * R.getD k 0 ≤ 18014398509481984) (i k : Nat) : Upto (mulStep H R L i k) (B + 90071992547409920) := by
  refine ⟨by rw [mulStep, List.length_set, h.len], fun m => ?_⟩
  have hb := h.bd m
  have hb2 := h.bd ((i + k) % 5)
  have hx := hp i k
  have ht : 0 ≤ mulTerm H R i k ∧ mulTerm H R i k ≤ 90071992547409920 := by unfold mulTerm; split <;> omega
  unfold mulStep
  generalize mulTerm H R i k = T at *
  by_cases e : m = (i + k) % 5
  · subst e
    rw [show ∀ v, (L.set ((i + k) % 5) v).getD ((i + k) % 5) 0 = v from fun v => by rw [List.getD, List.getElem?_set_self (by rw [h.len]; omega)]; rfl]
    omega
  · rw [show ∀ v, (L.set ((i + k) % 5) v).getD m 0 = L.getD m 0 from fun v => by simp [List.getD, List.getElem?_set_ne (Ne.symm e)]]
    omega
theorem upto_row {H R L : List Int} {B : Int} (h : Upto L B) (hp : ∀ i k, 0 ≤ H.getD i 0 * R.getD k 0 ∧ H.getD i 0 * R.getD k 0 ≤ 18014398509481984) (i k : Nat) : Upto (mulRow H R L i k) (B + 90071992547409920 * (k : Int)) := by
  induction k with
  | zero => exact ⟨h.len, fun m => by have := h.bd m; simpa [mulRow] using this⟩
  | succ k ih => have := upto_step ih hp i k; exact ⟨this.len, fun m => by have := this.bd m; rw [mulRow]; omega⟩
theorem upto_to {H R : List Int} (hp : ∀ i k, 0 ≤ H.getD i 0 * R.getD k 0 ∧ H.getD i 0 * R.getD k 0 ≤ 18014398509481984) (i : Nat) : Upto (mulTo H R i) (450359962737049600 * (i : Int)) := by
  induction i with
  | zero => exact ⟨rfl, fun m => by rcases m with _ | _ | _ | _ | _ | m <;> simp [mulTo, limbs]⟩
  | succ i ih => have := upto_row ih hp i 5; exact ⟨this.len, fun m => by have := this.bd m; rw [mulTo]; omega⟩
theorem mul_pos {a b : Int} (ha : 0 ≤ a ∧ a ≤ 268435456) (hb : 0 ≤ b ∧ b ≤ 67108864) : 0 ≤ a * b ∧ a * b ≤ 18014398509481984 :=
  ⟨Int.mul_nonneg ha.1 hb.1, by have := Int.mul_le_mul ha.2 hb.2 hb.1 (by omega : (0 : Int) ≤ 268435456); omega⟩

set_option maxRecDepth 100000 in
set_option maxHeartbeats 4000000 in
theorem l3Mul_any (g c g2 c2 : Nat) (H R : List Int) (w : World) (h : KOw .u64 w g H) (h2 : KOw .u64 w g2 R) (hH : Upto H 268435456) (hR : Upto R 67108864) (hF : Five (mulTo H R 5)) :
    Calls Tryd.prog 70 #[.slice (some ⟨g, 0, none⟩) 5 c, .slice (some ⟨g2, 0, none⟩) 5 c2] w fun e w' => (∃ g' c', e = .returned (.slice (some ⟨g', 0, none⟩) 5 c') ∧ w.heap.size ≤ g' ∧ KOw .u64 w' g' (carL (carL (mulTo H R 5)))) ∧ Below w.heap.size w w' := by
  have hmk := run_make_five w
  have hkb : KB .u64 81 _ _ (mulTo H R 0) := five_kb w
  have hp : ∀ i k, 0 ≤ H.getD i 0 * R.getD k 0 ∧ H.getD i 0 * R.getD k 0 ≤ 18014398509481984 := fun i k => mul_pos (hH.bd i) (hR.bd k)
  have Hp := Shut.mk hp
  have Hu := Shut.mk (fun i => upto_to hp i)
  have hg1 := h.lt
  have hg2 := h2.lt
  have lH := Shut.mk hH.len
  have lR := Shut.mk hR.len
  obtain ⟨Zf, hZ⟩ : ∃ Z, mulTo H R 5 = Z := ⟨_, rfl⟩
  rw [hZ] at hF ⊢
  have HZ := Shut.mk hZ
  clear hZ
  go_enter Tryd.func70, Tryd.ntmps70
  go_wp2
  go_loopw [6] (fun i wr => ∃ k : Nat, k ≤ 5 ∧ i = .int .i64 (k : Int) ∧ KOw .u64 wr w.heap.size (mulTo H R k) ∧ But w.heap.size (w.heap.size + 1) (w.alloc (.cells fiveZ 81)) wr) (fun i _ => 5 - (intOf i).toNat)
  case atStart => exact ⟨0, by omega, rfl, hkb.kow, But.refl _ _ _⟩
  case round =>
    clear hkb hmk
    obtain ⟨i, hi, rfl, hv, hbut⟩ := hrel
    by_cases hlt : i < 5
    · obtain ⟨wh, rfl⟩ : ∃ x, x = wr := ⟨_, rfl⟩
      have Hn : Shut (mulTo H R (i + 1) = mulRow H R (mulTo H R i) i 5) := ⟨rfl⟩
      have hu := Hu.out i
      generalize mulTo H R i = L at *
      have Hr : Shut (∀ k, Upto (mulRow H R L i k) (450359962737049600 * (i : Int) + 90071992547409920 * (k : Int))) := ⟨fun k => upto_row hu hp i k⟩
      have Hst : Shut (∀ k, mulRow H R L i (k + 1) = mulStep H R (mulRow H R L i k) i k) := ⟨fun _ => rfl⟩
      have hv0 : KOw .u64 wh w.heap.size (mulRow H R L i 0) := hv
      clear hu hv
      have hd : decide ((i : Int) < 5) = true := by simp; omega
      go_wp2
      go_loopw [7] (fun v wq => ∃ k : Nat, k ≤ 5 ∧ v = .int .i64 (k : Int) ∧ KOw .u64 wq w.heap.size (mulRow H R L i k) ∧ But w.heap.size (w.heap.size + 1) (w.alloc (.cells fiveZ 81)) wq) (fun i _ => 5 - (intOf i).toNat)
      case atStart => exact ⟨0, by omega, rfl, hv0, hbut⟩
      case round =>
        clear hv0 hbut
        obtain ⟨k, hk5, rfl, hv, hbut⟩ := hrel
        by_cases hlk : k < 5
        · have hs := Hst.out k
          have hu := Hr.out k
          generalize mulRow H R L i k = L2 at *
          have q0 := hv.cell ((i + k) % 5) (by rw [hu.len]; omega)
          have f0 := hv.frozen ((i + k) % 5)
          have q1 := ((h.alloc (.cells fiveZ 81)).keep (hbut.block g (by omega) (by omega)) hbut.size).cell i (by rw [lH.out]; omega)
          have q2 := ((h2.alloc (.cells fiveZ 81)).keep (hbut.block g2 (by omega) (by omega)) hbut.size).cell k (by rw [lR.out]; omega)
          have hx := Hp.out i k
          have hb := hu.bd ((i + k) % 5)
          unfold mulStep mulTerm at hs
          have hset := fun x => hv.set_ ((i + k) % 5) (by rw [hu.len]; omega) x
          clear hu
          generalize H.getD i 0 = X at *
          generalize R.getD k 0 = Y at *
          generalize L2.getD ((i + k) % 5) 0 = Z at *
          obtain ⟨P, hP⟩ : ∃ P, X * Y = P := ⟨_, rfl⟩
          rw [hP] at hx hs
          have hxy : IntKind.u64.wrap (X * Y) = P := by rw [hP]; exact IntWalk.u64_in _ (by omega)
          clear hP
          have Hs := Shut.mk hs
          clear hs Hr Hst Hp Hu Hn
          have hm : ((i : Int) + (k : Int)) % 5 = (((i + k) % 5 : Nat) : Int) := by omega
          have hm5 : (i + k) % 5 < 5 := by omega
          generalize (i + k) % 5 = m at *
          have hk6 : (k : Int) < 5 := by omega
          have hi6 : (i : Int) < 5 := by omega
          by_cases h5 : 5 ≤ i + k
          · rw [if_pos h5] at Hs
            have hik : (5 : Int) ≤ (i : Int) + (k : Int) := by omega
            go_wp2
            go_region
            all_goals
              go_wp2
              exact ⟨⟨k + 1, by omega, by go_num, KOw.of_eq Hs.out (hset _).drew, (hbut.setCell _ _).drewN 1⟩, by simp [intOf]; omega⟩
          · rw [if_neg h5] at Hs
            have hik : ¬ (5 : Int) ≤ (i : Int) + (k : Int) := by omega
            go_wp2
            go_region
            all_goals
              go_wp2
              exact ⟨⟨k + 1, by omega, by go_num, KOw.of_eq Hs.out (hset _).drew, (hbut.setCell _ _).drewN 1⟩, by simp [intOf]; omega⟩
        · obtain rfl : k = 5 := by omega
          rw [← Hn.out] at hv
          go_wp2
          exact ⟨⟨i + 1, by omega, by go_num, hv, hbut⟩, by simp [intOf]; omega⟩
    · obtain rfl : i = 5 := by omega
      rw [HZ.out] at hv
      have hcar := l3Carry_any w.heap.size 5 Zf wr hv hF
      have Bw : Below w.heap.size w wr := (ab (Below.refl _ _) _).trans (hbut.below (by omega) (Nat.le_refl _))
      have hsz := hbut.size
      clear hv Hp Hu
      go_wp2_with fail
      refine hcar.mono ?_
      rintro e w2 ⟨rfl, hv2, hb2⟩
      clear hcar
      go_wp2
      go_ret
      refine ⟨⟨_, _, rfl, Nat.le_refl _, hv2⟩, Bw.trans (hb2.below ?_ (Nat.le_refl _))⟩
      rw [World.size_alloc] at hsz
      omega
end Go.Proofs.YtpoiecdifhkegaaDoor
