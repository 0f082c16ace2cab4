/- PackLow of the model; PackHigh of both. -/
import Derived.Test.YtbjcgdgebbiieaaPackC
import Derived.Test.YtbjcgdgebbiieaaBackC
namespace Go.Proofs.Ytbjcgdgebbiieaa
open Go.RowKit

theorem specPackLow_any (n size : Int) (w : World) (hn : n ≤ 9223372036854775807) :
    Calls Try.prog 21 #[.int .i64 n, .int .i64 size] w (BytesAns (pcode n size) (plen n size) (plow n size) w) := by
  by_cases hf : fitB n size = true
  · have hs : 1 ≤ size ∧ size ≤ 7 ∧ 0 ≤ n := by simp [fitB] at hf; omega
    obtain ⟨hs1, hs7, h0⟩ := hs
    obtain ⟨m, rfl⟩ := Int.eq_ofNat_of_zero_le (show 0 ≤ size by omega)
    have Hf : Hid (pcode n (m : Int) = 0 ∧ plow n (m : Int) = lowOf n m ∧ plen n (m : Int) = m) := by simp [Hid, pcode, plow, plen, hf]
    go_enter Try.func21, Try.ntmps21
    go_wp2_with fail
    refine (l1Fits_any _ _ _ hn).mono ?_
    rintro e w' ⟨rfl, rfl⟩
    go_wp2_with fail
    refine (l1Low_any _ _ _ h0 hn (by omega)).mono ?_
    rintro e w1 ⟨⟨A, c, rfl, how⟩, hb⟩
    have hb' : Below (w.heap.size + 1) (w.alloc (.cells #[.int .i64 0, .slice none 0 0] 27)) w1 := by simpa using hb
    obtain ⟨hc0, hc1, hf0, hf1, hs⟩ := two_cells hb'
    go_wp2
    refine bodyPost_ret (v := .agg #[.int .i64 0, .slice A m c]) (by simp [results, Try.results21, go_sem, hc0, hc1]) rfl ?_
    rw [Hf.out.1, Hf.out.2.1, Hf.out.2.2]
    simp only [World.size_alloc] at how
    refine ⟨⟨A, c, rfl, ((how.far (p := ⟨w.heap.size, 0, none⟩) (by simp) _).far (p := ⟨w.heap.size, 1, none⟩) (by simp) _).mono (by omega)⟩, ?_⟩
    exact ((ac (ab (Below.refl _ w) _) hb).setCell (by simp) _).setCell (by simp) _
  · have hf' : fitB n size = false := by simpa using hf
    have Hf : Hid (pcode n size = 3 ∧ plow n size = [] ∧ plen n size = 0) := by simp [Hid, pcode, plow, plen, hf']
    have Hg := Lib.hid hf'
    clear hf hf'
    go_enter Try.func21, Try.ntmps21
    go_wp2_with fail
    refine (l1Fits_any _ _ _ hn).mono ?_
    rintro e w' ⟨rfl, rfl⟩
    rw [Hg.out]
    go_wp2
    go_returns
    rw [Hf.out.1, Hf.out.2.1, Hf.out.2.2]
    exact ⟨⟨none, 0, rfl, Ow.nil_ _ _⟩, by go_grown⟩

theorem l1High_any (n : Int) (m : Nat) (w : World) (h0 : 0 ≤ n) (hn : n ≤ 9223372036854775807) (hm : m ≤ 1000) :
    Calls Try.prog 55 #[.int .i64 n, .int .i64 (m : Int)] w fun e w' => (∃ A c, e = .returned (.slice A m c) ∧ Ow w' w.heap.size A m (lowOf n m).reverse) ∧ Below w.heap.size w w' := by
  go_enter Try.func55, Try.ntmps55
  go_wp2_with fail
  refine (l1Low_any _ _ _ h0 hn hm).mono ?_
  rintro e w1 ⟨⟨A, c, rfl, how⟩, hb⟩
  go_wp2_with fail
  refine (l1Back_any _ _ _ _ _ how.bs (by omega)).mono ?_
  rintro e w2 ⟨⟨A2, c2, rfl, how2⟩, hb2⟩
  go_wp2
  go_ret
  exact ⟨⟨A2, c2, rfl, how2.mono hb.size⟩, ac hb hb2⟩

def phigh (n size : Int) : List Int := (plow n size).reverse

theorem specPackHigh_any (n size : Int) (w : World) (hn : n ≤ 9223372036854775807) :
    Calls Try.prog 22 #[.int .i64 n, .int .i64 size] w (BytesAns (pcode n size) (plen n size) (phigh n size) w) := by
  by_cases hf : fitB n size = true
  · have hs : 1 ≤ size ∧ size ≤ 7 ∧ 0 ≤ n := by simp [fitB] at hf; omega
    obtain ⟨hs1, hs7, h0⟩ := hs
    obtain ⟨m, rfl⟩ := Int.eq_ofNat_of_zero_le (show 0 ≤ size by omega)
    have Hf : Hid (pcode n (m : Int) = 0 ∧ phigh n (m : Int) = (lowOf n m).reverse ∧ plen n (m : Int) = m) := by simp [Hid, pcode, phigh, plow, plen, hf]
    go_enter Try.func22, Try.ntmps22
    go_wp2_with fail
    refine (l1Fits_any _ _ _ hn).mono ?_
    rintro e w' ⟨rfl, rfl⟩
    go_wp2_with fail
    refine (l1High_any _ _ _ h0 hn (by omega)).mono ?_
    rintro e w1 ⟨⟨A, c, rfl, how⟩, hb⟩
    have hb' : Below (w.heap.size + 1) (w.alloc (.cells #[.int .i64 0, .slice none 0 0] 27)) w1 := by simpa using hb
    obtain ⟨hc0, hc1, hf0, hf1, hs⟩ := two_cells hb'
    go_wp2
    refine bodyPost_ret (v := .agg #[.int .i64 0, .slice A m c]) (by simp [results, Try.results22, go_sem, hc0, hc1]) rfl ?_
    rw [Hf.out.1, Hf.out.2.1, Hf.out.2.2]
    simp only [World.size_alloc] at how
    refine ⟨⟨A, c, rfl, ((how.far (p := ⟨w.heap.size, 0, none⟩) (by simp) _).far (p := ⟨w.heap.size, 1, none⟩) (by simp) _).mono (by omega)⟩, ?_⟩
    exact ((ac (ab (Below.refl _ w) _) hb).setCell (by simp) _).setCell (by simp) _
  · have hf' : fitB n size = false := by simpa using hf
    have Hf : Hid (pcode n size = 3 ∧ phigh n size = [] ∧ plen n size = 0) := by simp [Hid, pcode, phigh, plow, plen, hf']
    have Hg := Lib.hid hf'
    clear hf hf'
    go_enter Try.func22, Try.ntmps22
    go_wp2_with fail
    refine (l1Fits_any _ _ _ hn).mono ?_
    rintro e w' ⟨rfl, rfl⟩
    rw [Hg.out]
    go_wp2
    go_returns
    rw [Hf.out.1, Hf.out.2.1, Hf.out.2.2]
    exact ⟨⟨none, 0, rfl, Ow.nil_ _ _⟩, by go_grown⟩

theorem spreadHigh_any (n : Int) (m : Nat) (w : World) (hm : m ≤ 8) :
    Calls Try.prog 48 #[.int .i64 n, .int .i64 (m : Int)] w fun e w' => e = .returned (.slice (some ⟨w.heap.size, 0, none⟩) m m) ∧ Ow w' w.heap.size (some ⟨w.heap.size, 0, none⟩) m (lowOf n m).reverse ∧ Below w.heap.size w w' := by
  go_enter Try.func48, Try.ntmps48
  go_wp2_with fail
  refine (spreadLow_any _ _ _ hm).mono ?_
  rintro e w1 ⟨rfl, hblk, hb⟩
  have how := hblk.own (lowOf_byte n m) (lowOf_len n m)
  go_wp2_with fail
  refine (Reverse_any _ _ _ _ _ _ how (by omega)).mono ?_
  rintro e w2 ⟨rfl, how2, hon⟩
  go_wp2
  go_ret
  exact ⟨rfl, how2, hb.trans (hon.below (fun hn a ha => by have := how.base hn a ha; omega))⟩

theorem implPackHigh_any (n size : Int) (w : World) :
    Calls Try.prog 16 #[.int .i64 n, .int .i64 size] w (BytesAns (pcode n size) (plen n size) (phigh n size) w) := by
  by_cases hf : fitB n size = true
  · have hs : 1 ≤ size ∧ size ≤ 7 ∧ 0 ≤ n := by simp [fitB] at hf; omega
    obtain ⟨hs1, hs7, _⟩ := hs
    obtain ⟨m, rfl⟩ := Int.eq_ofNat_of_zero_le (show 0 ≤ size by omega)
    have Hf : Hid (pcode n (m : Int) = 0 ∧ phigh n (m : Int) = (lowOf n m).reverse ∧ plen n (m : Int) = m) := by simp [Hid, pcode, phigh, plow, plen, hf]
    go_enter Try.func16, Try.ntmps16
    go_wp2_with fail
    refine (fitsIn_any _ _ _).mono ?_
    rintro e w' ⟨rfl, rfl⟩
    go_wp2_with fail
    refine (spreadHigh_any n m _ (by omega)).mono ?_
    rintro e w1 ⟨rfl, how, hb⟩
    rw [World.size_alloc] at how
    obtain ⟨x0, x1, x2, x3⟩ := ((Two.new w 27 (.int .i64 0) (.slice none 0 0)).below hb (by simp)).cells
    go_wp2
    refine bodyPost_ret (v := .agg #[.int .i64 0, .slice (some ⟨w.heap.size + 1, 0, none⟩) m m]) (by simp [results, Try.results16, go_sem, x0, x1]) rfl ?_
    rw [Hf.out.1, Hf.out.2.1, Hf.out.2.2]
    refine ⟨⟨_, _, rfl, ((how.far (p := ⟨w.heap.size, 0, none⟩) (by simp) _).far (p := ⟨w.heap.size, 1, none⟩) (by simp) _).mono (by omega)⟩, ?_⟩
    exact ((ac (ab (Below.refl _ w) _) hb).setCell (by simp) _).setCell (by simp) _
  · have hf' : fitB n size = false := by simpa using hf
    have Hf : Hid (pcode n size = 3 ∧ phigh n size = [] ∧ plen n size = 0) := by simp [Hid, pcode, phigh, plow, plen, hf']
    have Hg := Lib.hid hf'
    clear hf hf'
    go_enter Try.func16, Try.ntmps16
    go_wp2_with fail
    refine (fitsIn_any _ _ _).mono ?_
    rintro e w' ⟨rfl, rfl⟩
    rw [Hg.out]
    go_wp2
    go_returns
    rw [Hf.out.1, Hf.out.2.1, Hf.out.2.2]
    exact ⟨⟨none, 0, rfl, Ow.nil_ _ _⟩, by go_grown⟩
end Go.Proofs.Ytbjcgdgebbiieaa
