/- The slot of a wire, of the model and of the program; the walk of its law. -/
import Derived.Test.YtabhcolfkkfonaaGreatDoorBase
namespace Go.Proofs.YtabhcolfkkfonaaGreatDoor
open Go.RowKit

/-- the slot that a wire of the right size tells, if it is one -/
def slotC (n : Nat) (l : List Int) : Int := if n = 64 then (if hi (l.take 4) ≤ 400 then 0 else 3) else 2
def slotV (n : Nat) (l : List Int) : Int := if n = 64 then (if hi (l.take 4) ≤ 400 then hi (l.take 4) else 0) else 0

theorem hi4_bd {l : List Int} (h : By l) : 0 ≤ hi (l.take 4) ∧ hi (l.take 4) ≤ 281474976710656 := by
  have := hi_take_bd l h 4 (by omega)
  omega

theorem isSlot_any (n : Int) (w : World) :
    Calls Tryz.prog 108 #[.int .i64 n] w fun e w' => e = .returned (.bool (inB n 0 400)) ∧ w = w' := by
  by_cases h0 : 0 ≤ n
  · by_cases h1 : n ≤ 400
    · have e : inB n 0 400 = true := by simp [inB, h0, h1]
      rw [e]
      go_enter Tryz.func108, Tryz.ntmps108
      go_wp2
      go_ret
      exact ⟨by simp, rfl⟩
    · have e : inB n 0 400 = false := by simp [inB, h1]
      rw [e]
      go_enter Tryz.func108, Tryz.ntmps108
      go_wp2
      go_ret
      exact ⟨by simp, rfl⟩
  · have e : inB n 0 400 = false := by simp [inB, h0]
    rw [e]
    go_enter Tryz.func108, Tryz.ntmps108
    go_wp2
    go_ret
    exact ⟨rfl, rfl⟩

theorem specSlotOf_no (A : Option Addr) (n c : Nat) (w : World) (h : ¬ n = 64) :
    Calls Tryz.prog 44 #[.slice A n c] w fun e w' => e = .returned (.agg #[.int .i64 2, .int .i64 0]) ∧ Below w.heap.size w w' := by
  have hb : ((n : Int) != 64) = true := by rw [bne_iff_ne]; omega
  go_enter Tryz.func44, Tryz.ntmps44
  go_wp2
  go_returns
  exact ⟨rfl, by go_grown⟩

theorem implSlotOf_no (A : Option Addr) (n c : Nat) (w : World) (h : ¬ n = 64) :
    Calls Tryz.prog 43 #[.slice A n c] w fun e w' => e = .returned (.agg #[.int .i64 2, .int .i64 0]) ∧ Below w.heap.size w w' := by
  have hb : ((n : Int) != 64) = true := by rw [bne_iff_ne]; omega
  go_enter Tryz.func43, Tryz.ntmps43
  go_wp2
  go_returns
  exact ⟨rfl, by go_grown⟩

theorem specSlotOf_yes (b off c : Nat) (l : List Int) (w : World) (h : Bs w (some ⟨b, off, none⟩) 64 l) (hc : 64 ≤ c) :
    Calls Tryz.prog 44 #[.slice (some ⟨b, off, none⟩) 64 c] w fun e w' => e = .returned (.agg #[.int .i64 (if hi (l.take 4) ≤ 400 then 0 else 3), .int .i64 (if hi (l.take 4) ≤ 400 then hi (l.take 4) else 0)]) ∧ Below w.heap.size w w' := by
  have hp := h.part_ 0 4 (by omega)
  rw [Nat.add_zero, List.drop_zero] at hp
  obtain ⟨h0, h1⟩ := hi4_bd h.byte
  clear h
  have ct := fun (W : World) (hW : Below w.heap.size w W) => specl1ReadHigh_any _ 4 c _ W (hp.below hW) (by omega)
  clear hp
  generalize hi (l.take 4) = x at *
  have c0 : ¬ c = 0 := by omega
  have c1 : (4 : Int) ≤ (c : Int) := by omega
  by_cases hx : x ≤ 400
  · simp only [if_pos hx]
    go_enter Tryz.func44, Tryz.ntmps44
    go_wp2_with fail
    refine (ct _ (by go_grown)).mono ?_
    rintro e w' ⟨rfl, rfl⟩
    go_wp2
    go_returns
    exact ⟨rfl, by go_grown⟩
  · simp only [if_neg hx]
    go_enter Tryz.func44, Tryz.ntmps44
    go_wp2_with fail
    refine (ct _ (by go_grown)).mono ?_
    rintro e w' ⟨rfl, rfl⟩
    go_wp2
    go_returns
    exact ⟨rfl, by go_grown⟩

theorem implSlotOf_yes (b off c : Nat) (l : List Int) (w : World) (h : Bs w (some ⟨b, off, none⟩) 64 l) (hc : 64 ≤ c) :
    Calls Tryz.prog 43 #[.slice (some ⟨b, off, none⟩) 64 c] w fun e w' => e = .returned (.agg #[.int .i64 (if hi (l.take 4) ≤ 400 then 0 else 3), .int .i64 (if hi (l.take 4) ≤ 400 then hi (l.take 4) else 0)]) ∧ Below w.heap.size w w' := by
  have hp := h.part_ 0 4 (by omega)
  rw [Nat.add_zero, List.drop_zero] at hp
  obtain ⟨h0, h1⟩ := hi4_bd h.byte
  clear h
  have ct := fun (W : World) (hW : Below w.heap.size w W) => joinHigh_any _ 4 c _ W (hp.below hW) (by omega)
  clear hp
  generalize hi (l.take 4) = x at *
  have ci := isSlot_any x
  have c0 : ¬ c = 0 := by omega
  have c1 : (4 : Int) ≤ (c : Int) := by omega
  by_cases hx : x ≤ 400
  · simp only [if_pos hx]
    rw [show inB x 0 400 = true by simp [inB, h0, hx]] at ci
    go_enter Tryz.func43, Tryz.ntmps43
    go_wp2_with fail
    refine (ct _ (by go_grown)).mono ?_
    rintro e w' ⟨rfl, rfl⟩
    go_wp2_with fail
    refine (ci _).mono ?_
    rintro e w' ⟨rfl, rfl⟩
    go_wp2
    go_returns
    exact ⟨rfl, by go_grown⟩
  · simp only [if_neg hx]
    rw [show inB x 0 400 = false by simp [inB, hx]] at ci
    go_enter Tryz.func43, Tryz.ntmps43
    go_wp2_with fail
    refine (ct _ (by go_grown)).mono ?_
    rintro e w' ⟨rfl, rfl⟩
    go_wp2_with fail
    refine (ci _).mono ?_
    rintro e w' ⟨rfl, rfl⟩
    go_wp2
    go_returns
    exact ⟨rfl, by go_grown⟩

theorem specSlotOf_any (A : Option Addr) (n c : Nat) (l : List Int) (w : World) (h : Bs w A n l) (hc : n ≤ c) :
    Calls Tryz.prog 44 #[.slice A n c] w fun e w' => e = .returned (.agg #[.int .i64 (slotC n l), .int .i64 (slotV n l)]) ∧ Below w.heap.size w w' := by
  unfold slotC slotV
  by_cases hn : n = 64
  · subst hn
    simp only [if_pos]
    obtain ⟨b, off, rfl, _⟩ := h.at_ (by omega)
    exact specSlotOf_yes b off c l w h hc
  · simp only [if_neg hn]
    exact specSlotOf_no A n c w hn

theorem implSlotOf_any (A : Option Addr) (n c : Nat) (l : List Int) (w : World) (h : Bs w A n l) (hc : n ≤ c) :
    Calls Tryz.prog 43 #[.slice A n c] w fun e w' => e = .returned (.agg #[.int .i64 (slotC n l), .int .i64 (slotV n l)]) ∧ Below w.heap.size w w' := by
  unfold slotC slotV
  by_cases hn : n = 64
  · subst hn
    simp only [if_pos]
    obtain ⟨b, off, rfl, _⟩ := h.at_ (by omega)
    exact implSlotOf_yes b off c l w h hc
  · simp only [if_neg hn]
    exact implSlotOf_no A n c w hn

end Go.Proofs.YtabhcolfkkfonaaGreatDoor
