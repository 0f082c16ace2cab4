/- The bytes of a public: PublicOf and SharedOf of both sides. -/
import Derived.Test.YtgmmoilgmaklgaaReadP
namespace Go.Proofs.Ytgmmoilgmaklgaa
open Go.RowKit

def eight (c : Int) : Nat := if c = 0 then 8 else 0
def eightL (c : Int) (x : Nat) : List Int := if c = 0 then lowOf (x : Int) 8 else []
theorem eight_le (c : Int) : eight c ≤ 8 := by unfold eight; split <;> omega
def pubC (s : Int) : Int := if secB s then 0 else 3
def pubX (s : Int) : Nat := 3 ^ s.toNat % PR
def sharC (s : Int) (n : Nat) (l : List Int) : Int := if secB s then readC n l else 3
def sharX (s : Int) (n : Nat) (l : List Int) : Nat := (readV n l).toNat ^ s.toNat % PR

/-! the program -/
theorem powerBytes_any (a n : Nat) (ha : a < PR) (hn : n ≤ 9223372036854775807) (w : World) :
    Calls Try.prog 42 #[.int .i64 a, .int .i64 n] w fun e w' => (∃ g, e = .returned (.slice (some ⟨g, 0, none⟩) 8 8) ∧ Ow w' w.heap.size (some ⟨g, 0, none⟩) 8 (lowOf ((a ^ n % PR : Nat) : Int) 8)) ∧ Below w.heap.size w w' := by
  have c := power_any a n ha hn
  obtain ⟨z, hz⟩ : ∃ z, z = a ^ n % PR := ⟨_, rfl⟩
  rw [← hz] at c ⊢
  clear hz
  go_enter Try.func42, Try.ntmps42
  go_wp2_with fail
  refine (c _).mono ?_
  rintro e w1 ⟨rfl, hb1⟩
  go_wp2_with fail
  refine (spreadLow_any z 8 _ (Nat.le_refl _)).mono ?_
  rintro e w2 ⟨rfl, hblk, hb2⟩
  go_wp2
  go_ret
  exact ⟨⟨_, rfl, (hblk.own (lowOf_byte _ 8) (lowOf_len _ 8)).mono hb1.size⟩, ac hb1 hb2⟩

theorem implPublicOf_any (s : Int) (w : World) :
    Calls Try.prog 15 #[.int .i64 s] w (BytesAns (pubC s) (eight (pubC s)) (eightL (pubC s) (pubX s)) w) := by
  by_cases h1 : secB s = true
  · obtain ⟨x, rfl, hx1, hx2⟩ := secB_nat h1
    have c := powerBytes_any 3 x (by decide) (by omega)
    have Hf : Hid (pubC x = 0 ∧ pubX x = 3 ^ x % PR ∧ eight 0 = 8 ∧ eightL 0 (3 ^ x % PR) = lowOf ((3 ^ x % PR : Nat) : Int) 8) := ⟨by simp [pubC, h1], by simp [pubX], rfl, by simp [eightL]⟩
    rw [Hf.out.1, Hf.out.2.1, Hf.out.2.2.1, Hf.out.2.2.2]
    obtain ⟨z, hz⟩ : ∃ z, z = 3 ^ x % PR := ⟨_, rfl⟩
    rw [← hz] at c ⊢
    clear hz Hf
    generalize lowOf (z : Int) 8 = L at *
    go_enter Try.func15, Try.ntmps15
    go_wp2_with fail
    refine (isSecret_any _ _).mono ?_
    rintro e w' ⟨rfl, rfl⟩
    go_wp2_with fail
    refine (c _).mono ?_
    rintro e w1 ⟨⟨g, rfl, how⟩, hb⟩
    obtain ⟨x0, x1, x2, x3⟩ := ((Two.new w 31 (.int .i64 0) (.slice none 0 0)).below hb (by simp)).cells
    rw [World.size_alloc] at how
    go_wp2
    refine bodyPost_ret (v := .agg #[.int .i64 0, .slice (some ⟨g, 0, none⟩) 8 8]) (by simp [results, Try.results15, go_sem, x0, x1]) rfl ?_
    refine ⟨⟨_, _, rfl, ((how.far (p := ⟨w.heap.size, 0, none⟩) (by simp) _).far (p := ⟨w.heap.size, 1, none⟩) (by simp) _).mono (by omega)⟩, ?_⟩
    exact ((ac (ab (Below.refl _ w) _) hb).setCell (by simp) _).setCell (by simp) _
  · have h3 : secB s = false := by simpa using h1
    have Hf : Hid (pubC s = 3 ∧ eight 3 = 0 ∧ eightL 3 (pubX s) = []) := ⟨by simp [pubC, h3], rfl, by simp [eightL]⟩
    rw [Hf.out.1, Hf.out.2.1, Hf.out.2.2]
    clear h1 Hf
    go_enter Try.func15, Try.ntmps15
    go_wp2_with (go_at_call 41; refine (isSecret_any _ _).mono ?_; rintro e w' ⟨rfl, rfl⟩)
    go_returns
    exact ⟨⟨none, 0, rfl, rfl, By.nil, fun h => absurd h (by omega)⟩, by go_grown⟩

theorem implSharedOf_any (s : Int) (A : Option Addr) (n c : Nat) (l : List Int) (w : World) (h : Bs w A n l) (hn : n ≤ 9223372036854775807) :
    Calls Try.prog 19 #[.int .i64 s, .slice A n c] w (BytesAns (sharC s n l) (eight (sharC s n l)) (eightL (sharC s n l) (sharX s n l)) w) := by
  by_cases h1 : secB s = true
  · obtain ⟨x, rfl, hx1, hx2⟩ := secB_nat h1
    have cr := fun W (h : Bs W A n l) => implReadPublic_any A n c l W h hn
    have Hc : Hid (sharC x n l = readC n l) := by show sharC x n l = readC n l; simp [sharC, h1]
    rw [Hc.out]
    clear Hc
    by_cases h0 : readC n l = 0
    · have hv : ∃ v : Nat, readV n l = v ∧ v < PR := by
        unfold readC at h0
        split at h0
        · rename_i h8
          split at h0
          · rename_i hp
            have hp' : 2 ≤ lo l ∧ lo l ≤ 2305843009213693949 := by simpa [pubB] using hp
            refine ⟨(lo l).toNat, ?_, by unfold PR; omega⟩
            simp [readV, h8, hp]
            omega
          · omega
        · omega
      obtain ⟨v, hv, hvp⟩ := hv
      have cp := powerBytes_any v x hvp (by omega)
      have Hx : Hid (sharX x n l = v ^ x % PR ∧ eight 0 = 8 ∧ eightL 0 (v ^ x % PR) = lowOf ((v ^ x % PR : Nat) : Int) 8) := ⟨by simp [sharX, hv], rfl, by simp [eightL]⟩
      rw [Hx.out.1, h0, Hx.out.2.1, Hx.out.2.2]
      simp only [h0, hv] at cr
      obtain ⟨z, hz⟩ : ∃ z, z = v ^ x % PR := ⟨_, rfl⟩
      rw [← hz] at cp ⊢
      clear hz Hx h0 hv
      generalize lowOf (z : Int) 8 = L at *
      go_enter Try.func19, Try.ntmps19
      go_wp2_with fail
      refine (isSecret_any _ _).mono ?_
      rintro e w' ⟨rfl, rfl⟩
      go_wp2_with fail
      refine (cr _ (h.alloc _)).mono ?_
      rintro e w1 ⟨rfl, hb1⟩
      have t1 := (Two.new w 31 (.int .i64 0) (.slice none 0 0)).below hb1 (by simp)
      have s1 := hb1.size
      rw [World.size_alloc] at s1
      go_wp2_with fail
      refine (cp _).mono ?_
      rintro e w2 ⟨⟨g, rfl, how⟩, hb2⟩
      have hb2' := hb2
      rw [World.size_alloc] at how
      obtain ⟨x0, x1, x2, x3⟩ := ((t1.alloc (.cells #[.int .i64 0, .int .i64 v] 27) (by omega)).below hb2 (by simp; omega)).cells
      go_wp2
      refine bodyPost_ret (v := .agg #[.int .i64 0, .slice (some ⟨g, 0, none⟩) 8 8]) (by simp [results, Try.results19, go_sem, x0, x1]) rfl ?_
      refine ⟨⟨_, _, rfl, ((how.far (p := ⟨w.heap.size, 0, none⟩) (by simp; omega) _).far (p := ⟨w.heap.size, 1, none⟩) (by simp; omega) _).mono (by omega)⟩, ?_⟩
      exact ((ac (ab (ac (ab (Below.refl _ w) _) hb1) _) hb2).setCell (by simp) _).setCell (by simp) _
    · have Hx : Hid (eight (readC n l) = 0 ∧ eightL (readC n l) (sharX x n l) = []) := ⟨by simp [eight, h0], by simp [eightL, h0]⟩
      rw [Hx.out.1, Hx.out.2]
      generalize readC n l = C at *
      generalize readV n l = V at *
      clear Hx
      go_enter Try.func19, Try.ntmps19
      go_wp2_with fail
      refine (isSecret_any _ _).mono ?_
      rintro e w' ⟨rfl, rfl⟩
      go_wp2_with fail
      refine (cr _ (h.alloc _)).mono ?_
      rintro e w1 ⟨rfl, hb1⟩
      have s1 := hb1.size
      rw [World.size_alloc] at s1
      obtain ⟨x0, x1, x2, x3⟩ := (((Two.new w 31 (.int .i64 0) (.slice none 0 0)).below hb1 (by simp)).alloc (.cells #[.int .i64 C, .int .i64 V] 27) (by omega)).cells
      go_wp2
      refine bodyPost_ret (v := .agg #[.int .i64 C, .slice none 0 0]) (by simp [results, Try.results19, go_sem, x0, x1]) rfl ?_
      refine ⟨⟨none, 0, rfl, rfl, By.nil, fun h => absurd h (by omega)⟩, ?_⟩
      exact ((ab (ac (ab (Below.refl _ w) _) hb1) _).setCell (by simp) _).setCell (by simp) _
  · have h3 : secB s = false := by simpa using h1
    have Hf : Hid (sharC s n l = 3 ∧ eight 3 = 0 ∧ eightL 3 (sharX s n l) = []) := ⟨by simp [sharC, h3], rfl, by simp [eightL]⟩
    rw [Hf.out.1, Hf.out.2.1, Hf.out.2.2]
    clear h1 Hf
    go_enter Try.func19, Try.ntmps19
    go_wp2_with (go_at_call 41; refine (isSecret_any _ _).mono ?_; rintro e w' ⟨rfl, rfl⟩)
    go_returns
    exact ⟨⟨none, 0, rfl, rfl, By.nil, fun h => absurd h (by omega)⟩, by go_grown⟩
end Go.Proofs.Ytgmmoilgmaklgaa
