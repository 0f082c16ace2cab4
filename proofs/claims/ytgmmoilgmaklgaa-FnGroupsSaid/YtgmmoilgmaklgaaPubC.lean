/- The model's bytes of a public; PublicOf and SharedOf of the model. -/
import Derived.Test.YtgmmoilgmaklgaaPubP
namespace Go.Proofs.Ytgmmoilgmaklgaa
open Go.RowKit

theorem l1LowRow_any (n : Int) (m : Nat) (w : World) (h0 : 0 ≤ n) (hn : n ≤ 9223372036854775807) (hm : m ≤ 1000) :
    Calls Try.prog 67 #[.int .i64 n, .int .i64 (m : Int)] w fun e w' => (∃ v, e = .returned v ∧ Row w' w.heap.size v (lowOf n m)) ∧ Below w.heap.size w w' := by
  go_enter Try.func67, Try.ntmps67
  go_wp2
  go_loopw [0, 1, 5] (fun t i v wr => ∃ k : Nat, k ≤ m ∧ i = .int .i64 ((m : Int) - (k : Int)) ∧ t = .int .i64 (n / 256 ^ k) ∧ Row wr w.heap.size v (lowOf n k) ∧ Below w.heap.size w wr) (fun _ i _ _ => (intOf i).toNat)
  case atStart => exact ⟨0, Nat.zero_le _, by simp, by simp, Row.empty w _ (Nat.le_refl _) rfl, ab (Below.refl _ w) _⟩
  case round =>
    obtain ⟨k, hk, rfl, rfl, hrow, hbel⟩ := hrel
    have hq : 0 ≤ n / 256 ^ k := Int.ediv_nonneg h0 (Int.le_of_lt (Int.pow_pos (by omega)))
    have hq1 : n / 256 ^ k ≤ 9223372036854775807 := Int.le_trans (Int.ediv_le_self _ h0) hn
    have Hs := Lib.hid (div_succ n k)
    have Hl := Lib.hid (lowOf_succ n k)
    have hsz := hbel.size
    have hlen : (lowOf n k).length ≤ 140737488351232 := by rw [lowOf_len]; omega
    by_cases hlt : k < m
    · go_wp2_with (at_builtin; refine wpList_row_append rfl _ _ rfl _ w.heap.size _ _ rfl (hrow.alloc _) (by simp; omega) ⟨wr.heap.size, 0, none⟩ 1 (n / 256 ^ k % 256) rfl (cell_one _ _ _) (by omega) (by omega) hlen ?_; intro v' w1 hr1 hb1 hs1)
      refine ⟨⟨k + 1, by omega, by go_num, by rw [← Hs.out], ?_, ?_⟩, by simp [intOf]; omega⟩
      · rw [Hl.out]; assumption
      · exact (ab hbel _).trans (by assumption)
    · obtain rfl : k = m := by omega
      go_wp2
      go_ret
      exact ⟨⟨_, rfl, hrow⟩, hbel⟩

theorem l4Bytes_any (n : Nat) (hn : n < PR) (w : World) :
    Calls Try.prog 60 #[.int .u64 n] w fun e w' => (∃ A c, e = .returned (.slice A 8 c) ∧ Ow w' w.heap.size A 8 (lowOf (n : Int) 8)) ∧ Below w.heap.size w w' := by
  unfold PR at hn
  have c := l1LowRow_any n 7 w (by omega) (by omega) (by omega)
  have hlen : (lowOf (n : Int) 7).length ≤ 140737488351232 := by rw [lowOf_len]; omega
  have hs := lowOf_succ (n : Int) 7
  have ht : (n : Int) / 72057594037927936 = ((n / 72057594037927936 : Nat) : Int) := by omega
  have hb : (n : Int) / 256 ^ 7 % 256 = ((n / 72057594037927936 : Nat) : Int) := by show (n : Int) / 72057594037927936 % 256 = _; omega
  rw [hb] at hs
  have hq : n / 72057594037927936 < 256 := by omega
  obtain ⟨t, e⟩ : ∃ t, t = n / 72057594037927936 := ⟨_, rfl⟩
  rw [← e] at hs ht hq
  have Hl8 := Shut.mk (lowOf_len (n : Int) 8)
  have Hs := Shut.mk hs
  clear e hs hb
  generalize lowOf (n : Int) 8 = L8 at *
  generalize lowOf (n : Int) 7 = L7 at *
  go_enter Try.func60, Try.ntmps60
  go_wp2_with fail
  refine c.mono ?_
  rintro e w1 ⟨⟨v, rfl, hrow⟩, hb1⟩
  have s1 := hb1.size
  go_wp2_with (at_builtin; refine wpList_row_append rfl _ _ rfl _ w.heap.size _ _ rfl (hrow.alloc _) (by simp; omega) ⟨w1.heap.size, 0, none⟩ 1 t rfl (cell_one _ _ _) (by omega) (by omega) hlen ?_; intro v2 w2 hr2 hb2 hs2)
  rw [← Hs.out] at hr2
  obtain ⟨A, d, rfl, how⟩ := hr2.ow Hl8.out
  go_wp2
  go_ret
  exact ⟨⟨A, d, rfl, how⟩, (ab hb1 _).trans hb2⟩

theorem l4Public_any (n : Nat) (hn : n ≤ 9223372036854775807) (w : World) :
    Calls Try.prog 50 #[.int .i64 n] w fun e w' => (∃ A c, e = .returned (.slice A 8 c) ∧ Ow w' w.heap.size A 8 (lowOf ((3 ^ n % PR : Nat) : Int) 8)) ∧ Below w.heap.size w w' := by
  have c1 := l4Pow_any 3 n (by decide) hn
  have c2 := l4Bytes_any (3 ^ n % PR) (Nat.mod_lt _ (by decide))
  generalize lowOf ((3 ^ n % PR : Nat) : Int) 8 = L at *
  obtain ⟨z, hz⟩ : ∃ z, z = 3 ^ n % PR := ⟨_, rfl⟩
  rw [← hz] at c1 c2
  clear hz
  go_enter Try.func50, Try.ntmps50
  go_wp2_with fail
  refine (c1 _).mono ?_
  rintro e w' ⟨rfl, rfl⟩
  go_wp2_with fail
  refine (c2 _).mono ?_
  rintro e w1 ⟨⟨A, c, rfl, how⟩, hb⟩
  go_wp2
  go_ret
  exact ⟨⟨A, c, rfl, how⟩, hb⟩

theorem specPublicOf_any (s : Int) (w : World) :
    Calls Try.prog 23 #[.int .i64 s] w (BytesAns (pubC s) (eight (pubC s)) (eightL (pubC s) (pubX s)) w) := by
  by_cases h1 : secB s = true
  · obtain ⟨x, rfl, hx1, hx2⟩ := secB_nat h1
    have c := l4Public_any x (by omega)
    have Hf : Hid (pubC x = 0 ∧ pubX x = 3 ^ x % PR ∧ eight 0 = 8 ∧ eightL 0 (3 ^ x % PR) = lowOf ((3 ^ x % PR : Nat) : Int) 8) := ⟨by simp [pubC, h1], by simp [pubX], rfl, by simp [eightL]⟩
    rw [Hf.out.1, Hf.out.2.1, Hf.out.2.2.1, Hf.out.2.2.2]
    obtain ⟨z, hz⟩ : ∃ z, z = 3 ^ x % PR := ⟨_, rfl⟩
    rw [← hz] at c ⊢
    clear hz Hf
    generalize lowOf (z : Int) 8 = L at *
    go_enter Try.func23, Try.ntmps23
    go_wp2_with fail
    refine (l4Secret_any _ _).mono ?_
    rintro e w' ⟨rfl, rfl⟩
    go_wp2_with fail
    refine (c _).mono ?_
    rintro e w1 ⟨⟨A, d, rfl, how⟩, hb⟩
    obtain ⟨x0, x1, x2, x3⟩ := ((Two.new w 31 (.int .i64 0) (.slice none 0 0)).below hb (by simp)).cells
    rw [World.size_alloc] at how
    go_wp2
    refine bodyPost_ret (v := .agg #[.int .i64 0, .slice A 8 d]) (by simp [results, Try.results23, go_sem, x0, x1]) rfl ?_
    refine ⟨⟨_, _, rfl, ((how.far (p := ⟨w.heap.size, 0, none⟩) (by simp) _).far (p := ⟨w.heap.size, 1, none⟩) (by simp) _).mono (by omega)⟩, ?_⟩
    exact ((ac (ab (Below.refl _ w) _) hb).setCell (by simp) _).setCell (by simp) _
  · have h3 : secB s = false := by simpa using h1
    have Hf : Hid (pubC s = 3 ∧ eight 3 = 0 ∧ eightL 3 (pubX s) = []) := ⟨by simp [pubC, h3], rfl, by simp [eightL]⟩
    rw [Hf.out.1, Hf.out.2.1, Hf.out.2.2]
    clear h1 Hf
    go_enter Try.func23, Try.ntmps23
    go_wp2_with (go_at_call 49; refine (l4Secret_any _ _).mono ?_; rintro e w' ⟨rfl, rfl⟩)
    go_returns
    exact ⟨⟨none, 0, rfl, rfl, By.nil, fun h => absurd h (by omega)⟩, by go_grown⟩

/-- a public that is one -/
theorem read_ok {n : Nat} {l : List Int} (h : readC n l = 0) : n = 8 ∧ pubB l = true ∧ ∃ v : Nat, readV n l = v ∧ pubV l = v ∧ 2 ≤ v ∧ v < 2305843009213693950 := by
  unfold readC at h
  split at h
  · rename_i h8
    split at h
    · rename_i hp
      have hp' : 2 ≤ lo l ∧ lo l ≤ 2305843009213693949 := by simpa [pubB] using hp
      refine ⟨h8, hp, (lo l).toNat, ?_, ?_, by omega, by omega⟩
      · simp [readV, h8, hp]
        omega
      · simp [pubV, hp]
        omega
    · omega
  · omega

theorem l4Shared_any (s : Nat) (hs : s ≤ 9223372036854775807) (A : Option Addr) (c : Nat) (l : List Int) (v : Nat) (hv : pubV l = v) (hvp : v < PR) (w : World) (h : Bs w A 8 l) (hc : 8 ≤ c) :
    Calls Try.prog 52 #[.int .i64 s, .slice A 8 c] w fun e w' => (∃ A c, e = .returned (.slice A 8 c) ∧ Ow w' w.heap.size A 8 (lowOf ((v ^ s % PR : Nat) : Int) 8)) ∧ Below w.heap.size w w' := by
  have c0 := l4Read_any A c l w h hc
  rw [hv] at c0
  have c1 := l4Pow_any v s hvp hs
  have c2 := l4Bytes_any (v ^ s % PR) (Nat.mod_lt _ (by decide))
  generalize lowOf ((v ^ s % PR : Nat) : Int) 8 = L at *
  obtain ⟨z, hz⟩ : ∃ z, z = v ^ s % PR := ⟨_, rfl⟩
  rw [← hz] at c1 c2
  clear hz hv
  go_enter Try.func52, Try.ntmps52
  go_wp2_with fail
  refine c0.mono ?_
  rintro e w1 ⟨rfl, hb1⟩
  go_wp2_with fail
  refine (c1 _).mono ?_
  rintro e w' ⟨rfl, rfl⟩
  go_wp2_with fail
  refine (c2 _).mono ?_
  rintro e w2 ⟨⟨A, c, rfl, how⟩, hb2⟩
  go_wp2
  go_ret
  exact ⟨⟨A, c, rfl, how.mono hb1.size⟩, ac hb1 hb2⟩

theorem fld_int (C V : Int) (w : World) : (Instr.field 27 (.agg #[.int .i64 C, .int .i64 V]) 0).run Try.prog w = .ok (.int .i64 C) w := by kernel_rfl

theorem specSharedOf_any (s : Int) (A : Option Addr) (n c : Nat) (l : List Int) (w : World) (h : Bs w A n l) (hc : n ≤ c) (hn : n ≤ 140737488351232) :
    Calls Try.prog 25 #[.int .i64 s, .slice A n c] w (BytesAns (sharC s n l) (eight (sharC s n l)) (eightL (sharC s n l) (sharX s n l)) w) := by
  by_cases h1 : secB s = true
  · obtain ⟨x, rfl, hx1, hx2⟩ := secB_nat h1
    have cr := fun W (h : Bs W A n l) => specReadPublic_any A n c l W h hc hn
    have Hc : Hid (sharC x n l = readC n l) := by show sharC x n l = readC n l; simp [sharC, h1]
    rw [Hc.out]
    clear Hc
    by_cases h0 : readC n l = 0
    · obtain ⟨rfl, _, v, hv, hpv, hv2, hvp⟩ := read_ok h0
      have cp := fun W (h : Bs W A 8 l) => l4Shared_any x (by omega) A c l v hpv (by unfold PR; omega) W h hc
      have Hx : Hid (sharX x 8 l = v ^ x % PR ∧ eight 0 = 8 ∧ eightL 0 (v ^ x % PR) = lowOf ((v ^ x % PR : Nat) : Int) 8) := ⟨by simp [sharX, hv], rfl, by simp [eightL]⟩
      rw [Hx.out.1, h0, Hx.out.2.1, Hx.out.2.2]
      simp only [h0, hv] at cr
      obtain ⟨z, hz⟩ : ∃ z, z = v ^ x % PR := ⟨_, rfl⟩
      rw [← hz] at cp ⊢
      clear hz Hx h0 hv hpv
      generalize lowOf (z : Int) 8 = L at *
      go_enter Try.func25, Try.ntmps25
      go_wp2_with fail
      refine (l4Secret_any _ _).mono ?_
      rintro e w' ⟨rfl, rfl⟩
      go_wp2_with fail
      refine (cr _ (h.alloc _)).mono ?_
      rintro e w1 ⟨rfl, hb1⟩
      have t1 := (Two.new w 31 (.int .i64 0) (.slice none 0 0)).below hb1 (by simp)
      have s1 := hb1.size
      rw [World.size_alloc] at s1
      have B1 := ac (ab (Below.refl _ w) (.cells #[.int .i64 0, .slice none 0 0] 31)) hb1
      have f1 := fld_int 0 v w1
      go_wp2_with fail
      refine (cp _ (h.below B1)).mono ?_
      rintro e w2 ⟨⟨A2, c2, rfl, how⟩, hb2⟩
      obtain ⟨x0, x1, x2, x3⟩ := (t1.below hb2 (by omega)).cells
      go_wp2
      refine bodyPost_ret (v := .agg #[.int .i64 0, .slice A2 8 c2]) (by simp [results, Try.results25, go_sem, x0, x1]) rfl ?_
      refine ⟨⟨_, _, rfl, ((how.far (p := ⟨w.heap.size, 0, none⟩) (by simp; omega) _).far (p := ⟨w.heap.size, 1, none⟩) (by simp; omega) _).mono (by omega)⟩, ?_⟩
      exact ((ac B1 hb2).setCell (by simp) _).setCell (by simp) _
    · have Hx : Hid (eight (readC n l) = 0 ∧ eightL (readC n l) (sharX x n l) = []) := ⟨by simp [eight, h0], by simp [eightL, h0]⟩
      rw [Hx.out.1, Hx.out.2]
      generalize readC n l = C at *
      generalize readV n l = V at *
      clear Hx
      go_enter Try.func25, Try.ntmps25
      go_wp2_with fail
      refine (l4Secret_any _ _).mono ?_
      rintro e w' ⟨rfl, rfl⟩
      go_wp2_with fail
      refine (cr _ (h.alloc _)).mono ?_
      rintro e w1 ⟨rfl, hb1⟩
      have s1 := hb1.size
      rw [World.size_alloc] at s1
      have f1 := fld_int C V w1
      obtain ⟨x0, x1, x2, x3⟩ := ((Two.new w 31 (.int .i64 0) (.slice none 0 0)).below hb1 (by simp)).cells
      go_wp2
      refine bodyPost_ret (v := .agg #[.int .i64 C, .slice none 0 0]) (by simp [results, Try.results25, go_sem, x0, x1]) rfl ?_
      refine ⟨⟨none, 0, rfl, rfl, By.nil, fun h => absurd h (by omega)⟩, ?_⟩
      exact ((ac (ab (Below.refl _ w) _) hb1).setCell (by simp) _).setCell (by simp) _
  · have h3 : secB s = false := by simpa using h1
    have Hf : Hid (sharC s n l = 3 ∧ eight 3 = 0 ∧ eightL 3 (sharX s n l) = []) := ⟨by simp [sharC, h3], rfl, by simp [eightL]⟩
    rw [Hf.out.1, Hf.out.2.1, Hf.out.2.2]
    clear h1 Hf
    go_enter Try.func25, Try.ntmps25
    go_wp2_with (go_at_call 49; refine (l4Secret_any _ _).mono ?_; rintro e w' ⟨rfl, rfl⟩)
    go_returns
    exact ⟨⟨none, 0, rfl, rfl, By.nil, fun h => absurd h (by omega)⟩, by go_grown⟩
end Go.Proofs.Ytgmmoilgmaklgaa
