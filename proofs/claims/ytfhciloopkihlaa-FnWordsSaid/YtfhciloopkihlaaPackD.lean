/- PackLow of the model; PackHigh of both. -/
import Derived.Test.YtfhciloopkihlaaPackC
import Derived.Test.YtfhciloopkihlaaBackC
namespace Go.Proofs.Ytfhciloopkihlaa
open Go.RowKit

theorem specPackLow_any (n size : Int) (w : World) (hn : n ≤ 9223372036854775807) :
    Calls Try.prog 20 #[.int .i64 n, .int .i64 size] w (BytesAns (pcode n size) (plen n size) (plow n size) w) := by
  by_cases hf : fitB n size = true
  · have hs : 1 ≤ size ∧ size ≤ 7 ∧ 0 ≤ n := by simp [fitB] at hf; omega
    obtain ⟨hs1, hs7, h0⟩ := hs
    obtain ⟨m, rfl⟩ := Int.eq_ofNat_of_zero_le (show 0 ≤ size by omega)
    have Hf : Hid (pcode n (m : Int) = 0 ∧ plow n (m : Int) = lowOf n m ∧ plen n (m : Int) = m) := by simp [Hid, pcode, plow, plen, hf]
    go_enter Try.func20, Try.ntmps20
    go_wp2_with fail
    refine (l1Fits_any _ _ _ hn).mono ?_
    rintro e w' ⟨rfl, rfl⟩
    go_wp2_with fail
    refine (l1Low_any _ _ _ h0 hn (by omega)).mono ?_
    rintro e w1 ⟨⟨A, c, rfl, how⟩, hb⟩
    have hb' : Below (w.heap.size + 1) (w.alloc (.cells #[.int .i64 0, .slice none 0 0] 27)) w1 := by simpa using hb
    obtain ⟨hc0, hc1, hf0, hf1, hs⟩ := two_cells hb'
    go_wp2
    refine bodyPost_ret (v := .agg #[.int .i64 0, .slice A m c]) (by simp [results, Try.results20, go_sem, hc0, hc1]) rfl ?_
    rw [Hf.out.1, Hf.out.2.1, Hf.out.2.2]
    simp only [World.size_alloc] at how
    refine ⟨⟨A, c, rfl, ((how.far (p := ⟨w.heap.size, 0, none⟩) (by simp) _).far (p := ⟨w.heap.size, 1, none⟩) (by simp) _).mono (by omega)⟩, ?_⟩
    exact ((ac (ab (Below.refl _ w) _) hb).setCell (by simp) _).setCell (by simp) _
  · have hf' : fitB n size = false := by simpa using hf
    have Hf : Hid (pcode n size = 3 ∧ plow n size = [] ∧ plen n size = 0) := by simp [Hid, pcode, plow, plen, hf']
    have Hg := Lib.hid hf'
    clear hf hf'
    go_enter Try.func20, Try.ntmps20
    go_wp2_with fail
    refine (l1Fits_any _ _ _ hn).mono ?_
    rintro e w' ⟨rfl, rfl⟩
    rw [Hg.out]
    go_wp2
    go_returns
    rw [Hf.out.1, Hf.out.2.1, Hf.out.2.2]
    exact ⟨⟨none, 0, rfl, Ow.nil_ _ _⟩, by go_grown⟩

theorem l1High_any (n : Int) (m : Nat) (w : World) (h0 : 0 ≤ n) (hn : n ≤ 9223372036854775807) (hm : m ≤ 1000) :
    Calls Try.prog 51 #[.int .i64 n, .int .i64 (m : Int)] w fun e w' => (∃ A c, e = .returned (.slice A m c) ∧ Ow w' w.heap.size A m (lowOf n m).reverse) ∧ Below w.heap.size w w' := by
  go_enter Try.func51, Try.ntmps51
  go_wp2_with fail
  refine (l1Low_any _ _ _ h0 hn hm).mono ?_
  rintro e w1 ⟨⟨A, c, rfl, how⟩, hb⟩
  go_wp2_with fail
  refine (l1Back_any _ _ _ _ _ how.bs (by omega)).mono ?_
  rintro e w2 ⟨⟨A2, c2, rfl, how2⟩, hb2⟩
  go_wp2
  go_ret
  exact ⟨⟨A2, c2, rfl, how2.mono hb.size⟩, ac hb hb2⟩

def phigh (n size : Int) : List Int := (plow n size).reverse

theorem specPackHigh_any (n size : Int) (w : World) (hn : n ≤ 9223372036854775807) :
    Calls Try.prog 21 #[.int .i64 n, .int .i64 size] w (BytesAns (pcode n size) (plen n size) (phigh n size) w) := by
  by_cases hf : fitB n size = true
  · have hs : 1 ≤ size ∧ size ≤ 7 ∧ 0 ≤ n := by simp [fitB] at hf; omega
    obtain ⟨hs1, hs7, h0⟩ := hs
    obtain ⟨m, rfl⟩ := Int.eq_ofNat_of_zero_le (show 0 ≤ size by omega)
    have Hf : Hid (pcode n (m : Int) = 0 ∧ phigh n (m : Int) = (lowOf n m).reverse ∧ plen n (m : Int) = m) := by simp [Hid, pcode, phigh, plow, plen, hf]
    go_enter Try.func21, Try.ntmps21
    go_wp2_with fail
    refine (l1Fits_any _ _ _ hn).mono ?_
    rintro e w' ⟨rfl, rfl⟩
    go_wp2_with fail
    refine (l1High_any _ _ _ h0 hn (by omega)).mono ?_
    rintro e w1 ⟨⟨A, c, rfl, how⟩, hb⟩
    have hb' : Below (w.heap.size + 1) (w.alloc (.cells #[.int .i64 0, .slice none 0 0] 27)) w1 := by simpa using hb
    obtain ⟨hc0, hc1, hf0, hf1, hs⟩ := two_cells hb'
    go_wp2
    refine bodyPost_ret (v := .agg #[.int .i64 0, .slice A m c]) (by simp [results, Try.results21, go_sem, hc0, hc1]) rfl ?_
    rw [Hf.out.1, Hf.out.2.1, Hf.out.2.2]
    simp only [World.size_alloc] at how
    refine ⟨⟨A, c, rfl, ((how.far (p := ⟨w.heap.size, 0, none⟩) (by simp) _).far (p := ⟨w.heap.size, 1, none⟩) (by simp) _).mono (by omega)⟩, ?_⟩
    exact ((ac (ab (Below.refl _ w) _) hb).setCell (by simp) _).setCell (by simp) _
  · have hf' : fitB n size = false := by simpa using hf
    have Hf : Hid (pcode n size = 3 ∧ phigh n size = [] ∧ plen n size = 0) := by simp [Hid, pcode, phigh, plow, plen, hf']
    have Hg := Lib.hid hf'
    clear hf hf'
    go_enter Try.func21, Try.ntmps21
    go_wp2_with fail
    refine (l1Fits_any _ _ _ hn).mono ?_
    rintro e w' ⟨rfl, rfl⟩
    rw [Hg.out]
    go_wp2
    go_returns
    rw [Hf.out.1, Hf.out.2.1, Hf.out.2.2]
    exact ⟨⟨none, 0, rfl, Ow.nil_ _ _⟩, by go_grown⟩

theorem implPackHigh_any (n size : Int) (w : World) (hn : n ≤ 9223372036854775807) :
    Calls Try.prog 15 #[.int .i64 n, .int .i64 size] w (BytesAns (pcode n size) (plen n size) (phigh n size) w) := by
  have hsm : plen n size ≤ 7 := by
    unfold plen
    split
    · rename_i h; simp [fitB] at h; omega
    · omega
  go_enter Try.func15, Try.ntmps15
  go_wp2_with fail
  refine (implPackLow_any _ _ _ hn).mono ?_
  rintro e w1 ⟨⟨A, c, rfl, how⟩, hb⟩
  have h1 := (Two.new w 27 (.int .i64 0) (.slice none 0 0)).below hb (by simp)
  have hs := hb.size
  simp only [World.size_alloc] at hs how
  go_wp2_with fail
  refine (Reverse_any _ _ _ _ _ _ (how.alloc _) (by omega)).mono ?_
  rintro e w2 ⟨rfl, how2, hon⟩
  have t1 := ((h1.alloc _ (by omega)).only hon (fun hn a ha => by have := how.base hn a ha; omega)).cells
  have t2 := ((Two.new w1 27 (.int .i64 (pcode n size)) (.slice A (plen n size) c)).only hon (fun hn a ha => by have := how.top hn a ha; omega)).cells
  obtain ⟨x1, x2, x3, x4⟩ := t1
  obtain ⟨y1, y2, y3, y4⟩ := t2
  have B2 : Below w.heap.size w w2 := (ab (ac (ab (Below.refl _ w) _) hb) _).trans (hon.below (fun hn a ha => by have := how.base hn a ha; omega))
  go_wp2
  refine bodyPost_ret (v := .agg #[.int .i64 (pcode n size), .slice A (plen n size) c]) (by simp [results, Try.results15, go_sem, x1, x2]) rfl ?_
  refine ⟨⟨A, c, rfl, ((how2.far (p := ⟨w.heap.size, 0, none⟩) (by simp) _).far (p := ⟨w.heap.size, 1, none⟩) (by simp) _).mono (by omega)⟩, ?_⟩
  exact (B2.setCell (by simp) _).setCell (by simp) _
end Go.Proofs.Ytfhciloopkihlaa
