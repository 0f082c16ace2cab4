/- FnGroups: what it draws; what its equations say. -/
import Derived.Test.YtgmmoilgmaklgaaGrpD
import Derived.Test.YtgmmoilgmaklgaaWordsC
namespace Go.Proofs.Ytgmmoilgmaklgaa
open Go.RowKit

theorem drawMulMod_any (A : Option Addr) (n c : Nat) (l : List Int) (w : World) (h : Bs w A n l) (hn : n ≤ 1048576) :
    Calls Try.prog 10 #[.slice A n c] w fun e w' => (∃ x b : Int, e = .returned (.tuple #[.int .i64 x, .int .i64 b])) ∧ Below w.heap.size w w' := by
  go_enter Try.func10, Try.ntmps10
  go_wp2_with fail
  refine (source_any _ _ _ _ _ h).mono ?_
  rintro e w1 ⟨rfl, s1, b1, z1⟩
  have z1' : w.heap.size ≤ w1.heap.size := by omega
  clear z1
  go_wp2_with fail
  refine (l4Number_any _ _ _ _ _ _ _ (by omega) hn s1).mono ?_
  rintro e w2 ⟨⟨x, rfl⟩, s2, b2⟩
  have B2 := b1.trans (b2.below z1' (Nat.le_refl _))
  have z2 := B2.size
  go_wp2_with fail
  refine (l4Number_any _ _ _ _ _ _ _ (by omega) hn s2).mono ?_
  rintro e w3 ⟨⟨y, rfl⟩, s3, b3⟩
  have B3 := B2.trans (b3.below z2 (Nat.le_refl _))
  go_wp2
  go_ret2
  exact ⟨⟨x, y, rfl⟩, B3⟩

def powList (v : Int) : List Int := [0, 1, 2, 61, -1, 9223372036854775807, v]
theorem powList_bd (v : Int) (hv : v ≤ 9223372036854775807) : ∀ x ∈ powList v, x ≤ 9223372036854775807 := by
  intro x hx
  simp only [powList, List.mem_cons, List.not_mem_nil, or_false] at hx
  omega

theorem drawPowMod_any (A : Option Addr) (n c : Nat) (l : List Int) (w : World) (h : Bs w A n l) (hn : n ≤ 1048576) :
    Calls Try.prog 12 #[.slice A n c] w fun e w' => (∃ x b : Int, b ≤ 9223372036854775807 ∧ e = .returned (.tuple #[.int .i64 x, .int .i64 b])) ∧ Below w.heap.size w w' := by
  go_enter Try.func12, Try.ntmps12
  go_wp2_with fail
  refine (source_any _ _ _ _ _ h).mono ?_
  rintro e w1 ⟨rfl, s1, b1, z1⟩
  have z1' : w.heap.size ≤ w1.heap.size := by omega
  clear z1
  go_wp2_with fail
  refine (l4Number_any _ _ _ _ _ _ _ (by omega) hn s1).mono ?_
  rintro e w2 ⟨⟨x, rfl⟩, s2, b2⟩
  have B2 := b1.trans (b2.below z1' (Nat.le_refl _))
  have z2 := B2.size
  have zp := s2.lt
  go_wp2_with fail
  refine (next_big _ _ _ _ _ 1000000 w2 (by omega) (by omega) (by omega) l hn s2).mono ?_
  rintro e w3 ⟨⟨v, hv0, hv1, rfl⟩, s3, b3, z3⟩
  have B3 := B2.trans ((b3 w.heap.size).below (Nat.le_refl _) (Nat.le_refl _))
  have z3' : w.heap.size ≤ w3.heap.size := by omega
  have zp3 : w.heap.size < w3.heap.size := by omega
  clear b3 z3
  go_wp2_with fail
  refine (pick_any w.heap.size n c A (0 + 3 + 1) w3.heap.size 7 7 (powList v) _ (by omega) (by omega) (by omega) l hn (s3.but (ab (Below.refl _ _) _) (Nat.le_refl _)) rfl (by omega) (ints_cells w3 (powList v) _ _ rfl)).mono ?_
  rintro e w4 ⟨⟨y, hy, rfl⟩, s4, b4, z4⟩
  have B4 : Below w.heap.size w w4 := (ab B3 _).trans ((b4 w.heap.size).below (Nat.le_refl _) (Nat.le_refl _))
  have hyb := powList_bd v (by omega) y hy
  clear z4 hy b4
  go_wp2
  go_ret2
  exact ⟨⟨x, y, hyb, rfl⟩, B4⟩

theorem drawPublicOf_any (A : Option Addr) (n c : Nat) (l : List Int) (w : World) (h : Bs w A n l) (hn : n ≤ 1048576) :
    Calls Try.prog 14 #[.slice A n c] w fun e w' => (∃ x : Int, e = .returned (.int .i64 x)) ∧ Below w.heap.size w w' := by
  go_enter Try.func14, Try.ntmps14
  go_wp2_with fail
  refine (source_any _ _ _ _ _ h).mono ?_
  rintro e w1 ⟨rfl, s1, b1, z1⟩
  have z1' : w.heap.size ≤ w1.heap.size := by omega
  clear z1
  go_wp2_with fail
  refine (l4DrawSecret_any _ _ _ _ _ _ _ (by omega) hn s1).mono ?_
  rintro e w2 ⟨⟨x, rfl⟩, s2, b2⟩
  have B2 := b1.trans (b2.below z1' (Nat.le_refl _))
  go_wp2
  go_ret
  exact ⟨⟨x, rfl⟩, B2⟩

theorem drawReadPublic_any (A : Option Addr) (n c : Nat) (l : List Int) (w : World) (h : Bs w A n l) (hn : n ≤ 1048576) :
    Calls Try.prog 16 #[.slice A n c] w fun e w' => (∃ A' c' m r, e = .returned (.slice A' m c') ∧ Ow w' w.heap.size A' m r ∧ m ≤ 9 ∧ m ≤ c') ∧ Below w.heap.size w w' := by
  go_enter Try.func16, Try.ntmps16
  go_wp2_with fail
  refine (source_any _ _ _ _ _ h).mono ?_
  rintro e w1 ⟨rfl, s1, b1, z1⟩
  have z1' : w.heap.size ≤ w1.heap.size := by omega
  clear z1
  go_wp2_with fail
  refine (l4DrawPublic_any _ _ _ _ _ _ _ (by omega) hn s1).mono ?_
  rintro e w2 ⟨⟨A2, c2, m, r, rfl, row, hr, hm⟩, b2⟩
  have B2 := b1.trans (b2.below z1' (Nat.le_refl _))
  have o2 := (row.ow' hr).mono z1'
  have hroom := row.room hr
  clear hr row
  go_wp2
  go_ret
  exact ⟨⟨A2, c2, m, r, rfl, o2, hm, hroom⟩, B2⟩

theorem drawSharedOf_any (A : Option Addr) (n c : Nat) (l : List Int) (w : World) (h : Bs w A n l) (hn : n ≤ 1048576) :
    Calls Try.prog 18 #[.slice A n c] w fun e w' => (∃ (x : Int) (A' : Option Addr) (c' m : Nat) (r : List Int), e = .returned (.tuple #[.int .i64 x, .slice A' m c']) ∧ Ow w' w.heap.size A' m r ∧ m ≤ 9 ∧ m ≤ c') ∧ Below w.heap.size w w' := by
  go_enter Try.func18, Try.ntmps18
  go_wp2_with fail
  refine (source_any _ _ _ _ _ h).mono ?_
  rintro e w1 ⟨rfl, s1, b1, z1⟩
  have z1' : w.heap.size ≤ w1.heap.size := by omega
  clear z1
  go_wp2_with fail
  refine (l4DrawSecret_any _ _ _ _ _ _ _ (by omega) hn s1).mono ?_
  rintro e w2 ⟨⟨x, rfl⟩, s2, b2⟩
  have B2 := b1.trans (b2.below z1' (Nat.le_refl _))
  have z2 := B2.size
  go_wp2_with fail
  refine (l4DrawPublic_any _ _ _ _ _ _ _ (by omega) hn s2).mono ?_
  rintro e w3 ⟨⟨A3, c3, m, r, rfl, row, hr, hm⟩, b3⟩
  have B3 := B2.trans (b3.below z2 (Nat.le_refl _))
  have o3 := (row.ow' hr).mono z2
  have hroom := row.room hr
  clear hr row
  go_wp2
  go_ret2
  exact ⟨⟨x, A3, c3, m, r, rfl, o3, hm, hroom⟩, B3⟩

/-! the equations -/
theorem mul_swap (a b : Int) : mulC b a = mulC a b ∧ mulV b a = mulV a b := by
  unfold mulC mulV
  rw [Bool.and_comm, Nat.mul_comm]
  exact ⟨rfl, rfl⟩

theorem pow_next (a n : Int) (h : powC a n = 0) : powC a (n + 1) = 0 ∧ mulC (powV a n) a = 0 ∧ mulV (powV a n) a = powV a (n + 1) := by
  unfold powC at h
  split at h
  · rename_i hc
    rw [Bool.and_eq_true] at hc
    obtain ⟨h1, h2⟩ := hc
    obtain ⟨x, rfl, hx⟩ := facB_nat h1
    have h2' : 0 ≤ n := by simpa using h2
    obtain ⟨m, rfl⟩ := Int.eq_ofNat_of_zero_le h2'
    have hv : powV x m = ((x ^ m % PR : Nat) : Int) := by simp [powV, h1]
    have hb := PR_bd (x ^ m)
    have hf : facB ((x ^ m % PR : Nat) : Int) = true := by simp only [facB, inB, decide_eq_true_eq]; omega
    have h3 : (0 : Int) ≤ (m : Int) + 1 := by omega
    refine ⟨by simp [powC, h1, h3], by rw [hv]; simp only [mulC, hf, h1]; rfl, ?_⟩
    rw [hv]
    have e1 : mulV ((x ^ m % PR : Nat) : Int) (x : Int) = ((x ^ m % PR * x % PR : Nat) : Int) := by
      simp only [mulV, hf, h1, Int.toNat_natCast]
      rfl
    have e2 : powV x ((m : Int) + 1) = ((x ^ (m + 1) % PR : Nat) : Int) := by
      have e : ((m : Int) + 1) = ((m + 1 : Nat) : Int) := by omega
      have h4 : decide ((0 : Int) ≤ ((m + 1 : Nat) : Int)) = true := decide_eq_true (by omega)
      rw [e]
      simp only [powV, h1, h4, Int.toNat_natCast]
      rfl
    rw [e1, e2, Nat.pow_succ, Nat.mod_mul_mod]
  · omega

theorem pow_nn (a n : Int) (h : powC a n = 0) : 0 ≤ n := by
  unfold powC at h
  split at h
  · rename_i hc
    rw [Bool.and_eq_true] at hc
    simpa using hc.2
  · omega

theorem lo_lowOf (x : Nat) (hx : x < PR) : lo (lowOf (x : Int) 8) = x := by
  unfold PR at hx
  exact hi_lowOf x 8 (by omega) (by show (x : Int) < 18446744073709551616; omega)

theorem pubX_lt (s : Int) : pubX s < PR := Nat.mod_lt _ (by decide)

theorem pubC_sec {s : Int} (h : pubC s = 0) : secB s = true := by
  unfold pubC at h
  split at h
  · assumption
  · omega

/-- what one makes of the public of the other -/
theorem shared_one (x s : Int) (hx : pubC x = 0) (hr : readC 8 (lowOf (pubX s : Int) 8) = 0) :
    sharC x 8 (lowOf (pubX s : Int) 8) = 0 ∧ sharX x 8 (lowOf (pubX s : Int) 8) = 3 ^ (s.toNat * x.toNat) % PR := by
  have h1 := pubC_sec hx
  obtain ⟨_, hp, _⟩ := read_ok hr
  refine ⟨by simp [sharC, h1, hr], ?_⟩
  have hv : readV 8 (lowOf (pubX s : Int) 8) = (pubX s : Int) := by
    unfold readV
    rw [if_pos ⟨rfl, hp⟩, lo_lowOf _ (pubX_lt s)]
  unfold sharX
  rw [hv, Int.toNat_natCast]
  unfold pubX
  rw [← Nat.pow_mod, Nat.pow_mul]

theorem shared_two (x s : Int) (hx : pubC x = 0) (hs : pubC s = 0) (hrs : readC 8 (lowOf (pubX s : Int) 8) = 0) (hrx : readC 8 (lowOf (pubX x : Int) 8) = 0) :
    sharC x 8 (lowOf (pubX s : Int) 8) = 0 ∧ sharC s 8 (lowOf (pubX x : Int) 8) = 0 ∧ sharX x 8 (lowOf (pubX s : Int) 8) = sharX s 8 (lowOf (pubX x : Int) 8) := by
  obtain ⟨a, b⟩ := shared_one x s hx hrs
  obtain ⟨c, d⟩ := shared_one s x hs hrx
  exact ⟨a, c, by rw [b, d, Nat.mul_comm]⟩
end Go.Proofs.Ytgmmoilgmaklgaa
