/- The squares one after the other, power, PowMod. -/
import Derived.Test.YtgmmoilgmaklgaaMulP
namespace Go.Proofs.Ytgmmoilgmaklgaa
open Go.RowKit

/-- the box of the next square -/
structure Sq (w : World) (b y : Nat) : Prop where
  cell : w.cell? ⟨b, 0, none⟩ = some (.int .i64 (y : Int))
  free : w.frozen? ⟨b, 0, none⟩ = false
  lt : b < w.heap.size
theorem Sq.drewN {w : World} {b y : Nat} (h : Sq w b y) (n : Nat) : Sq (w.drewN n) b y := ⟨h.cell, h.free, h.lt⟩

theorem squaresOf_any (a : Nat) (w : World) :
    Calls Try.prog 56 #[.int .i64 a] w fun e w' => e = .returned (.func (.func 66) #[] #[.pointer (some ⟨w.heap.size, 0, none⟩)]) ∧ Sq w' w.heap.size a ∧ Below w.heap.size w w' := by
  have hs := one_new w (.int .i64 a) 2
  go_enter Try.func56, Try.ntmps56
  go_wp2
  go_ret
  exact ⟨rfl, ⟨hs.1, hs.2, by simp⟩, ab (Below.refl _ w) _⟩

theorem square_any (b y : Nat) (hy : y < PR) (w : World) (h : Sq w b y) :
    Calls Try.prog 66 #[.pointer (some ⟨b, 0, none⟩)] w fun e w' => e = .returned (.int .i64 (y : Int)) ∧ Sq w' b (y * y % PR) ∧ Below b w w' := by
  have c := product_any y y hy hy
  have h1 := h.cell
  have h2 := h.free
  have h3 := h.lt
  obtain ⟨z, hz⟩ : ∃ z, z = y * y % PR := ⟨_, rfl⟩
  rw [← hz] at c ⊢
  clear hz
  go_enter Try.func66, Try.ntmps66
  go_wp2_with (go_at_call 36; refine (c _).mono ?_; rintro e w' ⟨rfl, n, rfl⟩)
  go_ret
  refine ⟨rfl, ⟨World.cell?_setCell_same _ _ _ (h.drewN _).cell, ?_, ?_⟩, (below_drewN (Below.refl _ w) _).setCell (p := ⟨b, 0, none⟩) (Nat.le_refl _) _⟩
  · rw [World.frozen?_setCell]; exact (h.drewN _).free
  · rw [World.size_setCell]; exact h3

theorem low_bit (k : Nat) (hk : k < 9223372036854775808) : bits .and .i64 (k : Int) 1 = ((k % 2 : Nat) : Int) := by
  have hx : k &&& 1 < 2 := by rw [Nat.and_one_is_mod]; omega
  have h1 : (BitVec.ofInt 64 (k : Int)).toNat = k := by
    rw [BitVec.ofInt_natCast, BitVec.toNat_ofNat]; exact Nat.mod_eq_of_lt (by omega)
  have h2 : (BitVec.ofInt 64 (1 : Int)).toNat = 1 := by rfl
  show IntKind.i64.wrap ((BitVec.ofInt 64 (k : Int) &&& BitVec.ofInt 64 (1 : Int)).toNat : Int) = _
  rw [BitVec.toNat_and, h1, h2, Nat.and_one_is_mod]
  exact IntWalk.i64_in _ (by omega)

set_option maxHeartbeats 1000000 in
/-- powers by squaring -/
theorem power_any (a n : Nat) (ha : a < PR) (hn : n ≤ 9223372036854775807) (w : World) :
    Calls Try.prog 39 #[.int .i64 a, .int .i64 n] w fun e w' => e = .returned (.int .i64 ((a ^ n % PR : Nat) : Int)) ∧ Below w.heap.size w w' := by
  obtain ⟨m, hm⟩ : ∃ m, m = a ^ n % PR := ⟨_, rfl⟩
  rw [← hm]
  have Hm := Lib.hid hm
  clear hm
  go_enter Try.func39, Try.ntmps39
  go_wp2_with fail
  refine (squaresOf_any a w).mono ?_
  rintro e w1 ⟨rfl, hs1, hb1⟩
  go_wp2
  go_loopw [6, 7] (fun o i wr => ∃ y k z : Nat, y < PR ∧ i = .int .i64 k ∧ k ≤ n ∧ o = .int .i64 z ∧ z < PR ∧ Hid (z * y ^ k % PR = m) ∧ Sq wr w.heap.size y ∧ Below w.heap.size w wr) (fun _ i _ => (intOf i).toNat)
  case atStart => exact ⟨a, n, 1, ha, rfl, Nat.le_refl _, rfl, by decide, show 1 * a ^ n % PR = m by rw [Nat.one_mul, Hm.out], hs1, hb1⟩
  case round =>
    obtain ⟨y, k, z, hy, rfl, hk, rfl, hz, HE, hs, hb⟩ := hrel
    have c1 := product_any z y hz hy
    have c2 := square_any w.heap.size y hy
    have h1 : z * y % PR < PR := Nat.mod_lt _ (by decide)
    have h2 : y * y % PR < PR := Nat.mod_lt _ (by decide)
    have o1 := Lib.hid (pow_odd z y k)
    have o2 := Lib.hid (pow_even z y k)
    obtain ⟨u, hu⟩ : ∃ u, u = z * y % PR := ⟨_, rfl⟩
    obtain ⟨v, hv⟩ : ∃ v, v = y * y % PR := ⟨_, rfl⟩
    rw [← hu] at c1 h1 o1
    rw [← hv] at c2 h2 o1 o2
    clear hu hv
    by_cases h0 : 0 < k
    · by_cases hodd : k % 2 = 1
      · have E := Lib.hid (o1.out hodd)
        have hbit : bits .and .i64 (k : Int) 1 = 1 := by have := low_bit k (by omega); rw [this]; omega
        clear o1 o2 hodd
        go_wp2_with fail
        refine (c2 _ hs).mono ?_
        rintro e w2 ⟨rfl, hs2, hb2⟩
        go_wp2_with fail
        refine (c1 _).mono ?_
        rintro e w3 ⟨rfl, n3, rfl⟩
        go_wp2
        go_roundw
        case rel => exact ⟨v, k / 2, u, h2, by go_num, by omega, rfl, h1, E.out.trans HE.out, hs2.drewN _, below_drewN (hb.trans hb2) _⟩
        case measure => simp [intOf]; omega
      · have E := Lib.hid (o2.out (by omega))
        have hbit : bits .and .i64 (k : Int) 1 = 0 := by have := low_bit k (by omega); rw [this]; omega
        clear o1 o2 hodd
        go_wp2_with fail
        refine (c2 _ hs).mono ?_
        rintro e w2 ⟨rfl, hs2, hb2⟩
        go_wp2
        go_roundw
        case rel => exact ⟨v, k / 2, z, h2, by go_num, by omega, rfl, hz, E.out.trans HE.out, hs2, hb.trans hb2⟩
        case measure => simp [intOf]; omega
    · obtain rfl : k = 0 := by omega
      have E : Hid (m = z) := by
        have := HE.out
        rw [Nat.pow_zero, Nat.mul_one, Nat.mod_eq_of_lt hz] at this
        exact this.symm
      go_wp2
      go_ret
      rw [E.out]
      exact ⟨rfl, hb⟩

theorem implPowMod_any (a n : Int) (w : World) (hn : n ≤ 9223372036854775807) :
    Calls Try.prog 13 #[.int .i64 a, .int .i64 n] w fun e w' => e = .returned (.agg #[.int .i64 (powC a n), .int .i64 (powV a n)]) ∧ Below w.heap.size w w' := by
  by_cases h1 : facB a = true
  · by_cases h2 : 0 ≤ n
    · obtain ⟨x, rfl, hx⟩ := facB_nat h1
      obtain ⟨y, rfl⟩ : ∃ y : Nat, n = y := ⟨n.toNat, by omega⟩
      have hf : powC x y = 0 ∧ powV x y = ((x ^ y % PR : Nat) : Int) := by simp only [powC, powV, h1, decide_eq_true h2]; exact ⟨rfl, rfl⟩
      have hb := PR_bd (x ^ y)
      have c := power_any x y hx (by omega)
      obtain ⟨z, hz⟩ : ∃ z, z = x ^ y % PR := ⟨_, rfl⟩
      rw [← hz] at hf hb c
      have Hf := Lib.hid hf
      clear hf hz
      go_enter Try.func13, Try.ntmps13
      go_wp2_with fail
      refine (isFactor_any _ _).mono ?_
      rintro e w' ⟨rfl, rfl⟩
      go_wp2_with fail
      refine (c _).mono ?_
      rintro e w1 ⟨rfl, hb1⟩
      obtain ⟨x0, x1, x2, x3⟩ := ((Two.new w 27 (.int .i64 0) (.int .i64 0)).below hb1 (by simp)).cells
      go_wp2
      refine bodyPost_ret (v := .agg #[.int .i64 0, .int .i64 z]) (by simp [results, Try.results13, go_sem, x0, x1]) rfl ?_
      rw [Hf.out.1, Hf.out.2]
      exact ⟨rfl, ((ac (ab (Below.refl _ w) _) hb1).setCell (by simp) _).setCell (by simp) _⟩
    · have Hf : Hid (powC a n = 3 ∧ powV a n = 0) := by show powC a n = 3 ∧ powV a n = 0; simp [powC, powV, h2]
      have h4 : n < 0 := by omega
      clear h2
      go_enter Try.func13, Try.ntmps13
      go_wp2_with (go_at_call 35; refine (isFactor_any _ _).mono ?_; rintro e w' ⟨rfl, rfl⟩)
      go_returns
      rw [Hf.out.1, Hf.out.2]
      exact ⟨rfl, by go_grown⟩
  · have h3 : facB a = false := by simpa using h1
    have Hf : Hid (powC a n = 3 ∧ powV a n = 0) := by show powC a n = 3 ∧ powV a n = 0; simp [powC, powV, h3]
    clear h1
    go_enter Try.func13, Try.ntmps13
    go_wp2_with (go_at_call 35; refine (isFactor_any _ _).mono ?_; rintro e w' ⟨rfl, rfl⟩)
    go_returns
    rw [Hf.out.1, Hf.out.2]
    exact ⟨rfl, by go_grown⟩

theorem i64_le {n : Int} (h : (Lit.int .i64 n).wf = true) : n ≤ 9223372036854775807 := by
  have : IntKind.i64.min ≤ n ∧ n ≤ IntKind.i64.max := by simpa [Lit.wf] using h
  have e2 : IntKind.i64.max = 9223372036854775807 := rfl
  omega

theorem powWalk (a0 a1 : Int) (w1 : (Lit.int .i64 a1).wf = true) (w : World) :
    Calls Try.prog 5 #[.int .i64 a0, .int .i64 a1] w fun e w' => e = .returned (.bool true) ∧ Below w.heap.size w w' := by
  have hl := i64_le w1
  clear w1
  go_enter Try.func5, Try.ntmps5
  go_wp2_with fail
  refine (specPowMod_any _ _ _ hl).mono ?_
  rintro e w1 ⟨rfl, hb1⟩
  obtain ⟨hc1, hf1, hs1⟩ := bcell hb1
  go_wp2_with fail
  refine (implPowMod_any _ _ _ hl).mono ?_
  rintro e w2 ⟨rfl, hb2⟩
  obtain ⟨hc2, hf2, hs2⟩ := bcell hb2
  simp only [World.size_alloc] at hs2 hc2 hf2
  have hz2 : w1.heap.size < w2.heap.size := by omega
  go_wp2_with fail
  refine (eqInt_any _ _ _ _ _).mono ?_
  rintro e w3 ⟨rfl, hb3⟩
  go_wp2
  go_returns
  exact ⟨rfl, ac (ab (ac (ab hb1 _) hb2) _) hb3⟩
end Go.Proofs.Ytgmmoilgmaklgaa
