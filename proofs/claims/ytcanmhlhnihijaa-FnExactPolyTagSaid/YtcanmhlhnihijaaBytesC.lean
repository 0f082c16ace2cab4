/- Contracts of the laws' own helpers on slices of bytes: the copy, the comparison, the marks. -/
import Derived.Test.YtcanmhlhnihijaaMem
namespace Go.Proofs.Ytcanmhlhnihijaa
open Go.RowKit

theorem zero_row (w : World) (n : Nat) : Blk (w.alloc (.cells (Array.replicate n (Value.int .u8 0)) 5)) w.heap.size (List.replicate n 0) := by
  have h := Blk.made w (List.replicate n 0)
  simpa using h

theorem toByteS_any (A : Option Addr) (n c : Nat) (l : List Int) (w : World) (h : Bs w A n l) (hn : n ≤ 140737488351232) :
    Calls Try.prog 5 #[.slice A n c] w fun e w' => e = .returned (.slice (some ⟨w.heap.size, 0, none⟩) n n) ∧ Blk w' w.heap.size l ∧ Below w.heap.size w w' := by
  have hmk := run_make_bytes n (by omega)
  have hl := h.len
  have Hl := Lib.hid hl
  clear hl
  go_enter Try.func5, Try.ntmps5
  go_wp2
  clear hmk
  go_loopw [4] (fun i wr => ∃ k : Nat, k ≤ n ∧ i = .int .i64 k ∧ Blk wr w.heap.size (part l n k) ∧ Below w.heap.size w wr) (fun i _ => n - (intOf i).toNat)
  case atStart =>
    refine ⟨0, Nat.zero_le _, rfl, ?_, ab (Below.refl _ _) _⟩
    rw [part_zero]
    exact zero_row w n
  case round =>
    obtain ⟨k, hk, rfl, hblk, hbel⟩ := hrel
    by_cases hlt : k < n
    · obtain ⟨b, off, rfl, hbs, hc⟩ := h.at_ (by omega)
      have hx := hc k hlt
      have hx' := (hbel.cell (p := ⟨b, off + k, none⟩) hbs).trans hx
      clear hx hc
      have hpl := part_len l n k Hl.out hk
      have hy := hblk.cell (i := k) (by omega)
      have hz := hblk.frozen k
      clear hpl
      go_wp2
      go_roundw
      case rel =>
        refine ⟨k + 1, by omega, by go_num, ?_, ae hbel (Nat.le_refl _) _⟩
        rw [← part_set l n k Hl.out hlt]
        exact hblk.set_ k _
      case measure => simp [intOf]; omega
    · obtain rfl : k = n := by omega
      go_wp2
      go_ret
      refine ⟨rfl, ?_, hbel⟩
      rw [← part_full l k Hl.out]
      exact hblk

theorem beq_u8 (a b : Int) : (a == b) = decide (a = b) := by rw [Bool.eq_iff_iff]; simp

/-- two slices of bytes are told apart just where they differ -/
theorem eqByteS_any (A B : Option Addr) (n c m d : Nat) (l r : List Int) (w : World) (h : Bs w A n l) (h' : Bs w B m r) (hn : n ≤ 140737488351232) (hm : m ≤ 140737488351232) :
    Calls Try.prog 8 #[.slice A n c, .slice B m d] w fun e w' => e = .returned (.bool (decide (l = r))) ∧ ∃ q, w' = w.drewN q := by
  have hl := h.len
  have hr := h'.len
  by_cases hnm : n = m
  · subst hnm
    have Hl := Lib.hid hl
    have Hr := Lib.hid hr
    clear hl hr
    go_enter Try.func8, Try.ntmps8
    go_wp2
    go_loopw [5] (fun i wr => ∃ k : Nat, k ≤ n ∧ i = .int .i64 k ∧ l.take k = r.take k ∧ ∃ q, wr = w.drewN q) (fun i _ => n - (intOf i).toNat)
    case atStart => exact ⟨0, Nat.zero_le _, rfl, rfl, 0, rfl⟩
    case round =>
      obtain ⟨k, hk, rfl, ht, q, rfl⟩ := hrel
      have Ht := Lib.hid ht
      clear ht
      by_cases hlt : k < n
      · obtain ⟨b, off, X, rfl, hbs, hX0, hX1, HX, hx⟩ := h.get hlt
        obtain ⟨b', off', Y, rfl, hbs', hY0, hY1, HY, hy⟩ := h'.get hlt
        by_cases he : X = Y
        · have Hs : Hid (l.take (k + 1) = r.take (k + 1)) := by
            show l.take (k + 1) = r.take (k + 1)
            have hkl : k < l.length := by have := Hl.out; omega
            have hkr : k < r.length := by have := Hr.out; omega
            rw [List.take_succ_eq_append_getElem hkl, List.take_succ_eq_append_getElem hkr, Ht.out]
            have e : l.getD k 0 = r.getD k 0 := HX.out.trans (he.trans HY.out.symm)
            simp [List.getD, List.getElem?_eq_getElem hkl, List.getElem?_eq_getElem hkr] at e
            rw [e]
          have hne : (X != Y) = false := by rw [he]; simp
          have He := Lib.hid he
          clear he
          go_wp2
          go_quiet (fail)
          go_wp2
          exact ⟨⟨k + 1, by omega, by go_num, Hs.out, _, rfl⟩, by simp [intOf]; omega⟩
        · have hne : (X != Y) = true := by simpa using he
          have Hs : Hid (l ≠ r) := fun hh => he (HX.out.symm.trans ((by rw [hh]) : l.getD k 0 = r.getD k 0) |>.trans HY.out)
          clear he
          go_wp2
          go_quiet (fail)
          go_wp2
          go_ret
          exact ⟨by simp [Hs.out], _, World.drewN_drewN _ _ _⟩
      · obtain rfl : k = n := by omega
        have Hs : Hid (l = r) := by
          have h0 := Ht.out
          rw [List.take_of_length_le (by rw [Hl.out]; exact Nat.le_refl _), List.take_of_length_le (by rw [Hr.out]; exact Nat.le_refl _)] at h0
          exact h0
        go_wp2
        go_ret
        exact ⟨by simp [Hs.out], _, rfl⟩
  · have hb : ((n : Int) != (m : Int)) = true := by rw [bne_iff_ne]; omega
    have Hs : Hid (l ≠ r) := fun hh => hnm (by rw [← hl, ← hr, hh])
    clear hl hr
    go_enter Try.func8, Try.ntmps8
    go_wp2
    go_ret
    exact ⟨by simp [Hs.out], 0, rfl⟩

/-- the marks from k on -/
def marks (k : Int) (n : Nat) : List Int := (List.range n).map fun i : Nat => (k + (i : Int)) % 256
theorem marks_len (k : Int) (n : Nat) : (marks k n).length = n := by simp [marks]
theorem marks_byte (k : Int) (n : Nat) : By (marks k n) := fun x hx => by
  simp only [marks, List.mem_map] at hx
  obtain ⟨i, _, rfl⟩ := hx
  omega
theorem marks_get (k : Int) (n i : Nat) (hi : i < n) : (marks k n).getD i 0 = (k + (i : Int)) % 256 := by
  simp [marks, List.getD, hi]

/-- the first j bytes marked -/
def markd (k : Int) (l : List Int) (j : Nat) : List Int := marks k j ++ l.drop j
theorem markd_zero (k : Int) (l : List Int) : markd k l 0 = l := by simp [markd, marks]
theorem markd_full (k : Int) (l : List Int) (n : Nat) (h : l.length = n) : markd k l n = marks k n := by simp [markd, ← h]
theorem markd_set (k : Int) (l : List Int) (j : Nat) (h : j < l.length) : (markd k l j).set j ((k + (j : Int)) % 256) = markd k l (j + 1) := by
  have e : marks k (j + 1) = marks k j ++ [(k + (j : Int)) % 256] := by simp [marks, List.range_succ]
  unfold markd
  rw [e, List.set_append, if_neg (by rw [marks_len]; omega), marks_len, Nat.sub_self, List.append_assoc, List.drop_eq_getElem_cons h]
  rfl

/-- the marks are laid into the slice's own block, and nowhere else -/
theorem markByteS_any (A : Option Addr) (n c B : Nat) (l : List Int) (k : Int) (w : World) (h : Ow w B A n l) (hk0 : 0 ≤ k) (hk1 : k ≤ 140737488351232) (hn : n ≤ 140737488351232) :
    Calls Try.prog 9 #[.slice A n c, .int .i64 k] w fun e w' => e = .returned (.int .i64 (k + (n : Int))) ∧ Ow w' B A n (marks k n) ∧ Only n A w w' := by
  have Hl := Lib.hid h.len
  go_enter Try.func9, Try.ntmps9
  go_wp2
  go_loopw [1, 5] (fun q i wr => ∃ j : Nat, j ≤ n ∧ i = .int .i64 j ∧ q = .int .i64 (k + (j : Int)) ∧ Ow wr B A n (markd k l j) ∧ Only n A w wr) (fun _ i _ => n - (intOf i).toNat)
  case atStart => exact ⟨0, Nat.zero_le _, rfl, by go_num, by rw [markd_zero]; exact h, Only.refl _ _ _⟩
  case round =>
    obtain ⟨j, hj, rfl, rfl, ho, hon⟩ := hrel
    by_cases hlt : j < n
    · obtain ⟨b, rfl, hB, hbl, hc, hf⟩ := ho.at_ (by omega)
      have hx := hc j hlt
      have hy := hf j
      clear hc hf
      go_wp2
      refine ⟨⟨j + 1, by omega, by go_num, by go_num, ?_, ?_⟩, by simp [intOf]; omega⟩
      · rw [← markd_set k l j (by rw [Hl.out]; exact hlt)]
        exact ho.set_ hlt (by omega) (by omega)
      · exact hon.set_ (by omega) _ _
    · obtain rfl : j = n := by omega
      go_wp2
      go_ret
      exact ⟨rfl, by rw [← markd_full k l j Hl.out]; exact ho, hon⟩

/-- the marks are found as they were laid -/
theorem heldByteS_any (A : Option Addr) (n c : Nat) (k : Int) (w : World) (h : Bs w A n (marks k n)) (hk0 : 0 ≤ k) (hk1 : k ≤ 140737488351232) (hn : n ≤ 140737488351232) :
    Calls Try.prog 14 #[.slice A n c, .int .i64 k] w fun e w' => e = .returned (.int .i64 (k + (n : Int))) ∧ w = w' := by
  go_enter Try.func14, Try.ntmps14
  go_wp2
  go_loop [1, 5] (fun q i => ∃ j : Nat, j ≤ n ∧ i = .int .i64 j ∧ q = .int .i64 (k + (j : Int))) (fun _ i => n - (intOf i).toNat)
  case atStart => exact ⟨0, Nat.zero_le _, rfl, by go_num⟩
  case round =>
    obtain ⟨j, hj, rfl, rfl⟩ := hrel
    by_cases hlt : j < n
    · obtain ⟨b, off, rfl, hbs, hc⟩ := h.at_ (by omega)
      have hx := hc j hlt
      rw [marks_get k n j hlt] at hx
      clear hc
      go_wp2
      exact ⟨⟨j + 1, by omega, by go_num, by go_num⟩, by simp [intOf]; omega⟩
    · obtain rfl : j = n := by omega
      go_wp2
      go_ret
      exact ⟨rfl, rfl⟩

theorem eqBytesResult_any (a b : Int) (A B : Option Addr) (n c m d : Nat) (l r : List Int) (w : World) (h : Bs w A n l) (h' : Bs w B m r) (hn : n ≤ 140737488351232) (hm : m ≤ 140737488351232) :
    Calls Try.prog 7 #[.agg #[.int .i64 a, .slice A n c], .agg #[.int .i64 b, .slice B m d]] w fun e w' => e = .returned (.bool (decide (a = b ∧ l = r))) ∧ Below w.heap.size w w' := by
  by_cases hab : a = b
  · subst hab
    go_enter Try.func7, Try.ntmps7
    go_wp2_with fail
    refine (eqByteS_any _ _ _ _ _ _ _ _ _ ((h.alloc _).alloc _) ((h'.alloc _).alloc _) hn hm).mono ?_
    rintro e w' ⟨rfl, q, rfl⟩
    go_wp2
    · go_returns
      have hh : (!decide (l = r)) = true := by assumption
      exact ⟨by simp at hh; simp [hh], ad (ab (ab (Below.refl _ _) _) _) _⟩
    · go_returns
      have hh : (!decide (l = r)) = false := by assumption
      exact ⟨by simp at hh; simp [hh], ad (ab (ab (Below.refl _ _) _) _) _⟩
  · have hb : (a == b) = false := by simpa using hab
    have hb' : (a != b) = true := by simpa using hab
    go_enter Try.func7, Try.ntmps7
    go_wp2
    go_returns
    exact ⟨by simp [hab], by go_grown⟩

theorem markBytesResult_any (a : Int) (A : Option Addr) (n c B : Nat) (l : List Int) (k : Int) (w : World) (h : Ow w B A n l) (hk0 : 0 ≤ k) (hk1 : k ≤ 140737488351232) (hn : n ≤ 140737488351232) :
    Calls Try.prog 10 #[.agg #[.int .i64 a, .slice A n c], .int .i64 k] w fun e w' => e = .returned (.int .i64 (k + (n : Int))) ∧ Ow w' B A n (marks k n) ∧ ∃ wm, Only n A wm w' ∧ Below w.heap.size w wm := by
  go_enter Try.func10, Try.ntmps10
  go_wp2_with fail
  refine (markByteS_any _ _ _ _ _ _ _ (h.below (ab (Below.refl _ _) _) (Nat.le_refl _)) hk0 hk1 hn).mono ?_
  rintro e w' ⟨rfl, ho, hon⟩
  go_wp2
  go_returns
  exact ⟨rfl, ho, _, hon, ab (Below.refl _ _) _⟩

theorem heldBytesResult_any (a : Int) (A : Option Addr) (n c : Nat) (k : Int) (w : World) (h : Bs w A n (marks k n)) (hk0 : 0 ≤ k) (hk1 : k ≤ 140737488351232) (hn : n ≤ 140737488351232) :
    Calls Try.prog 11 #[.agg #[.int .i64 a, .slice A n c], .int .i64 k] w fun e w' => e = .returned (.int .i64 (k + (n : Int))) ∧ Below w.heap.size w w' := by
  go_enter Try.func11, Try.ntmps11
  go_wp2_with fail
  refine (heldByteS_any _ _ _ _ _ (h.alloc _) hk0 hk1 hn).mono ?_
  rintro e w' ⟨rfl, rfl⟩
  go_wp2
  go_returns
  exact ⟨rfl, ab (Below.refl _ _) _⟩
end Go.Proofs.Ytcanmhlhnihijaa
