/- The slot of a wire, of the model and of the program; the walk of its law. -/
import Derived.Test.YtpoiecdifhkegaaBase
namespace Go.Proofs.Ytpoiecdifhkegaa
open Go.RowKit

/-- the slot that a wire of the right size tells, if it is one -/
def slotC (n : Nat) (l : List Int) : Int := if n = 64 then (if hi (l.take 4) ≤ 400 then 0 else 3) else 2
def slotV (n : Nat) (l : List Int) : Int := if n = 64 then (if hi (l.take 4) ≤ 400 then hi (l.take 4) else 0) else 0

theorem hi4_bd {l : List Int} (h : By l) : 0 ≤ hi (l.take 4) ∧ hi (l.take 4) ≤ 281474976710656 := by
  have := hi_take_bd l h 4 (by omega)
  omega

theorem isSlot_any (n : Int) (w : World) :
    Calls Try.prog 60 #[.int .i64 n] w fun e w' => e = .returned (.bool (inB n 0 400)) ∧ w = w' := by
  by_cases h0 : 0 ≤ n
  · by_cases h1 : n ≤ 400
    · have e : inB n 0 400 = true := by simp [inB, h0, h1]
      rw [e]
      go_enter Try.func60, Try.ntmps60
      go_wp2
      go_ret
      exact ⟨by simp, rfl⟩
    · have e : inB n 0 400 = false := by simp [inB, h1]
      rw [e]
      go_enter Try.func60, Try.ntmps60
      go_wp2
      go_ret
      exact ⟨by simp, rfl⟩
  · have e : inB n 0 400 = false := by simp [inB, h0]
    rw [e]
    go_enter Try.func60, Try.ntmps60
    go_wp2
    go_ret
    exact ⟨rfl, rfl⟩

theorem specSlotOf_no (A : Option Addr) (n c : Nat) (w : World) (h : ¬ n = 64) :
    Calls Try.prog 36 #[.slice A n c] w fun e w' => e = .returned (.agg #[.int .i64 2, .int .i64 0]) ∧ Below w.heap.size w w' := by
  have hb : ((n : Int) != 64) = true := by rw [bne_iff_ne]; omega
  go_enter Try.func36, Try.ntmps36
  go_wp2
  go_returns
  exact ⟨rfl, by go_grown⟩

theorem implSlotOf_no (A : Option Addr) (n c : Nat) (w : World) (h : ¬ n = 64) :
    Calls Try.prog 37 #[.slice A n c] w fun e w' => e = .returned (.agg #[.int .i64 2, .int .i64 0]) ∧ Below w.heap.size w w' := by
  have hb : ((n : Int) != 64) = true := by rw [bne_iff_ne]; omega
  go_enter Try.func37, Try.ntmps37
  go_wp2
  go_returns
  exact ⟨rfl, by go_grown⟩

theorem specSlotOf_yes (b off c : Nat) (l : List Int) (w : World) (h : Bs w (some ⟨b, off, none⟩) 64 l) (hc : 64 ≤ c) :
    Calls Try.prog 36 #[.slice (some ⟨b, off, none⟩) 64 c] w fun e w' => e = .returned (.agg #[.int .i64 (if hi (l.take 4) ≤ 400 then 0 else 3), .int .i64 (if hi (l.take 4) ≤ 400 then hi (l.take 4) else 0)]) ∧ Below w.heap.size w w' := by
  have hp := h.part_ 0 4 (by omega)
  rw [Nat.add_zero, List.drop_zero] at hp
  obtain ⟨h0, h1⟩ := hi4_bd h.byte
  clear h
  have ct := fun (W : World) (hW : Below w.heap.size w W) => specl1ReadHigh_any _ 4 c _ W (hp.below hW) (by omega)
  clear hp
  generalize hi (l.take 4) = x at *
  have c0 : ¬ c = 0 := by omega
  have c1 : (4 : Int) ≤ (c : Int) := by omega
  by_cases hx : x ≤ 400
  · simp only [if_pos hx]
    go_enter Try.func36, Try.ntmps36
    go_wp2_with fail
    refine (ct _ (by go_grown)).mono ?_
    rintro e w' ⟨rfl, rfl⟩
    go_wp2
    go_returns
    exact ⟨rfl, by go_grown⟩
  · simp only [if_neg hx]
    go_enter Try.func36, Try.ntmps36
    go_wp2_with fail
    refine (ct _ (by go_grown)).mono ?_
    rintro e w' ⟨rfl, rfl⟩
    go_wp2
    go_returns
    exact ⟨rfl, by go_grown⟩

theorem implSlotOf_yes (b off c : Nat) (l : List Int) (w : World) (h : Bs w (some ⟨b, off, none⟩) 64 l) (hc : 64 ≤ c) :
    Calls Try.prog 37 #[.slice (some ⟨b, off, none⟩) 64 c] w fun e w' => e = .returned (.agg #[.int .i64 (if hi (l.take 4) ≤ 400 then 0 else 3), .int .i64 (if hi (l.take 4) ≤ 400 then hi (l.take 4) else 0)]) ∧ Below w.heap.size w w' := by
  have hp := h.part_ 0 4 (by omega)
  rw [Nat.add_zero, List.drop_zero] at hp
  obtain ⟨h0, h1⟩ := hi4_bd h.byte
  clear h
  have ct := fun (W : World) (hW : Below w.heap.size w W) => joinHigh_any _ 4 c _ W (hp.below hW) (by omega)
  clear hp
  generalize hi (l.take 4) = x at *
  have ci := isSlot_any x
  have c0 : ¬ c = 0 := by omega
  have c1 : (4 : Int) ≤ (c : Int) := by omega
  by_cases hx : x ≤ 400
  · simp only [if_pos hx]
    rw [show inB x 0 400 = true by simp [inB, h0, hx]] at ci
    go_enter Try.func37, Try.ntmps37
    go_wp2_with fail
    refine (ct _ (by go_grown)).mono ?_
    rintro e w' ⟨rfl, rfl⟩
    go_wp2_with fail
    refine (ci _).mono ?_
    rintro e w' ⟨rfl, rfl⟩
    go_wp2
    go_returns
    exact ⟨rfl, by go_grown⟩
  · simp only [if_neg hx]
    rw [show inB x 0 400 = false by simp [inB, hx]] at ci
    go_enter Try.func37, Try.ntmps37
    go_wp2_with fail
    refine (ct _ (by go_grown)).mono ?_
    rintro e w' ⟨rfl, rfl⟩
    go_wp2_with fail
    refine (ci _).mono ?_
    rintro e w' ⟨rfl, rfl⟩
    go_wp2
    go_returns
    exact ⟨rfl, by go_grown⟩

theorem specSlotOf_any (A : Option Addr) (n c : Nat) (l : List Int) (w : World) (h : Bs w A n l) (hc : n ≤ c) :
    Calls Try.prog 36 #[.slice A n c] w fun e w' => e = .returned (.agg #[.int .i64 (slotC n l), .int .i64 (slotV n l)]) ∧ Below w.heap.size w w' := by
  unfold slotC slotV
  by_cases hn : n = 64
  · subst hn
    simp only [if_pos]
    obtain ⟨b, off, rfl, _⟩ := h.at_ (by omega)
    exact specSlotOf_yes b off c l w h hc
  · simp only [if_neg hn]
    exact specSlotOf_no A n c w hn

theorem implSlotOf_any (A : Option Addr) (n c : Nat) (l : List Int) (w : World) (h : Bs w A n l) (hc : n ≤ c) :
    Calls Try.prog 37 #[.slice A n c] w fun e w' => e = .returned (.agg #[.int .i64 (slotC n l), .int .i64 (slotV n l)]) ∧ Below w.heap.size w w' := by
  unfold slotC slotV
  by_cases hn : n = 64
  · subst hn
    simp only [if_pos]
    obtain ⟨b, off, rfl, _⟩ := h.at_ (by omega)
    exact implSlotOf_yes b off c l w h hc
  · simp only [if_neg hn]
    exact implSlotOf_no A n c w hn

theorem slotWalk (a0 : Option Addr) (len0 cap0 : Nat) (z0 : List Int) (w : World) (w0 : IsRow .u8 w a0 len0 cap0 z0) :
    Calls Try.prog 7 #[.slice a0 len0 cap0] w fun e w' => e = .returned (.bool true) ∧ Below w.heap.size w w' := by
  have h0 := w0.bs
  have hmx := w0.lenmax
  clear w0
  by_cases hl0 : len0 ≤ 1048576
  · go_enter Try.func7, Try.ntmps7
    go_wp2_with fail
    refine (toByteS_any _ _ _ _ _ h0 (by omega)).mono ?_
    rintro e w2 ⟨rfl, k2, b2⟩
    go_wp2_with fail
    refine (specSlotOf_any _ _ _ _ _ (k2.bsn h0.byte h0.len) (Nat.le_refl _)).mono ?_
    rintro e w3 ⟨rfl, b3⟩
    have B3 := ab (ac (ac (Below.refl _ w) b2) b3) (.cells #[.int .i64 (slotC len0 (z0.take len0)), .int .i64 (slotV len0 (z0.take len0))] 50)
    obtain ⟨c3, f3, s3⟩ := bcell b3
    go_wp2_with fail
    refine (toByteS_any _ _ _ _ _ (h0.below B3) (by omega)).mono ?_
    rintro e w4 ⟨rfl, k4, b4⟩
    obtain ⟨c4, f4, s4⟩ := bcell b4
    simp only [World.size_alloc] at c4 f4 s4 k4
    go_wp2_with fail
    refine (implSlotOf_any _ _ _ _ _ (k4.bsn h0.byte h0.len) (Nat.le_refl _)).mono ?_
    rintro e w5 ⟨rfl, b5⟩
    obtain ⟨c5, f5, s5⟩ := bcell b5
    have z4 : w3.heap.size < w4.heap.size := by omega
    have z5 : w3.heap.size < w5.heap.size := by omega
    go_wp2_with fail
    refine (eqInt_any _ _ _ _ _).mono ?_
    rintro e w6 ⟨rfl, b6⟩
    have g6 := (((k4.bsn h0.byte h0.len).below b5).alloc _).below b6
    have B6 := ac (ab (ac (ac B3 b4) b5) _) b6
    go_wp2_with fail
    refine (toByteS_any _ _ _ _ _ (h0.below B6) (by omega)).mono ?_
    rintro e w7 ⟨rfl, k7, b7⟩
    go_wp2_with fail
    refine (eqByteS_any _ _ _ _ _ _ _ _ _ (g6.below b7) (k7.bsn h0.byte h0.len) (by omega) (by omega)).mono ?_
    rintro e w8 ⟨rfl, q8, rfl⟩
    go_wp2
    go_ret
    exact ⟨rfl, ad (ac B6 b7) q8⟩
  · go_enter Try.func7, Try.ntmps7
    go_wp2
    go_ret
    exact ⟨rfl, Below.refl _ _⟩
end Go.Proofs.Ytpoiecdifhkegaa
