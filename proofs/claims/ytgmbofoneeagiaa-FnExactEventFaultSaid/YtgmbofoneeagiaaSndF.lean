/- The faults of a sender: of the model and of the program. -/
import Derived.Test.YtgmbofoneeagiaaPartC
namespace Go.Proofs.Ytgmbofoneeagiaa
open Go.RowKit

/-- the first code that is not 0 -/
def firstF {E : Type} (f : E → Int) : List E → Int
  | [] => 0
  | e :: r => if f e ≠ 0 then f e else firstF f r
theorem firstF_append {E : Type} (f : E → Int) (a b : List E) (h : firstF f a = 0) : firstF f (a ++ b) = firstF f b := by
  induction a with
  | nil => rfl
  | cons x r ih =>
    simp only [firstF] at h
    by_cases hx : f x ≠ 0
    · rw [if_pos hx] at h; exact absurd h hx
    · rw [if_neg hx] at h
      simp only [List.cons_append, firstF]
      rw [if_neg hx, ih h]
theorem firstF_at {E : Type} (f : E → Int) {els : List E} {k : Nat} {e : E} (he : els[k]? = some e) (h0 : firstF f (els.take k) = 0) (hne : f e ≠ 0) : firstF f els = f e := by
  have hk := (List.getElem?_eq_some_iff.1 he).1
  rw [← List.take_append_drop k els, firstF_append f _ _ h0, List.drop_eq_getElem_cons hk]
  have : els[k] = e := by rw [List.getElem?_eq_getElem hk] at he; simpa using he
  rw [this]
  simp only [firstF]
  rw [if_pos hne]
theorem firstF_succ {E : Type} (f : E → Int) {els : List E} {k : Nat} {e : E} (he : els[k]? = some e) (h0 : firstF f (els.take k) = 0) (hne : f e = 0) : firstF f (els.take (k + 1)) = 0 := by
  rw [List.take_add_one, he, firstF_append f _ _ h0]
  simp [firstF, hne]
/-- each one at its place -/
def allAt {E : Type} (g : Nat → E → Bool) (i : Nat) : List E → Bool
  | [] => true
  | e :: r => g i e && allAt g (i + 1) r
theorem allAt_append {E : Type} (g : Nat → E → Bool) (i : Nat) (a b : List E) : allAt g i (a ++ b) = (allAt g i a && allAt g (i + a.length) b) := by
  induction a generalizing i with
  | nil => simp [allAt]
  | cons x r ih => simp [allAt, ih, Bool.and_assoc, Nat.add_assoc, Nat.add_comm 1]
theorem allAt_at {E : Type} (g : Nat → E → Bool) {els : List E} {k : Nat} {e : E} (he : els[k]? = some e) (hne : g k e = false) : allAt g 0 els = false := by
  have hk := (List.getElem?_eq_some_iff.1 he).1
  rw [← List.take_append_drop k els, allAt_append, List.drop_eq_getElem_cons hk]
  have : els[k] = e := by rw [List.getElem?_eq_getElem hk] at he; simpa using he
  rw [this, List.length_take, Nat.min_eq_left (Nat.le_of_lt hk), Nat.zero_add]
  simp [allAt, hne]
theorem allAt_succ {E : Type} (g : Nat → E → Bool) {els : List E} {k : Nat} {e : E} (he : els[k]? = some e) (h0 : allAt g 0 (els.take k) = true) (hne : g k e = true) : allAt g 0 (els.take (k + 1)) = true := by
  have hk := (List.getElem?_eq_some_iff.1 he).1
  rw [List.take_add_one, he, allAt_append, h0, List.length_take, Nat.min_eq_left (Nat.le_of_lt hk), Nat.zero_add]
  simp [allAt, hne]

def slotB (x : Int) : Bool := decide (0 ≤ x ∧ x ≤ 400)
def sentB (e : PartD) : Bool := e.f2 != -1
def partF (e : PartD) : Int := if 32 < e.f0.length then 2 else if sentB e = true ∧ slotB e.f2 = false then 3 else 0
def placeB (i : Nat) (e : PartD) : Bool := !((decide (i = 0) && e.f3) || (e.f3 && !sentB e) || (decide (8 ≤ i) && sentB e))
def numsB (base : Int) (n : Nat) : Bool := decide (0 ≤ base ∧ base + (n : Int) ≤ 9975)
def senF (base : Int) (els : List PartD) : Int :=
  if numsB base els.length = false then 3 else if 24 < els.length then 2 else if firstF partF els ≠ 0 then firstF partF els else if allAt placeB 0 els = false then 8 else 0

theorem Slot_any (n : Int) (w : World) :
    Calls Try.prog 86 #[.int .i64 n] w fun e w' => e = .returned (.bool (slotB n)) ∧ w = w' := by
  have h := fun W => In_any n 0 400 W
  go_enter Try.func86, Try.ntmps86
  go_wp2_with fail
  refine (h _).mono ?_
  rintro e w' ⟨rfl, rfl⟩
  go_wp2
  go_ret
  exact ⟨rfl, rfl⟩

theorem isSlot_any (n : Int) (w : World) :
    Calls Try.prog 116 #[.int .i64 n] w fun e w' => e = .returned (.bool (slotB n)) ∧ w = w' := by
  unfold slotB
  by_cases h0 : 0 ≤ n
  · by_cases h1 : n ≤ 400
    · have e0 : decide (0 ≤ n ∧ n ≤ 400) = true := by simp; omega
      rw [e0]
      have t0 : decide (n ≥ 0) = true := by simp; omega
      have t1 : decide (n ≤ 400) = true := by simp; omega
      go_enter Try.func116, Try.ntmps116
      go_wp2
      go_ret
      exact ⟨rfl, rfl⟩
    · have e0 : decide (0 ≤ n ∧ n ≤ 400) = false := by simp; omega
      rw [e0]
      have t0 : decide (n ≥ 0) = true := by simp; omega
      have t1 : decide (n ≤ 400) = false := by simp; omega
      go_enter Try.func116, Try.ntmps116
      go_wp2
      go_ret
      exact ⟨rfl, rfl⟩
  · have e0 : decide (0 ≤ n ∧ n ≤ 400) = false := by simp; omega
    rw [e0]
    have t0 : decide (n ≥ 0) = false := by simp; omega
    go_enter Try.func116, Try.ntmps116
    go_wp2
    go_ret
    exact ⟨rfl, rfl⟩

theorem hasNumbers_any (base : Int) (n : Nat) (hn : n ≤ 9223372036854775807) (w : World) :
    Calls Try.prog 113 #[.int .i64 base, .int .i64 (n : Int)] w fun e w' => e = .returned (.bool (numsB base n)) ∧ w = w' := by
  unfold numsB
  by_cases h0 : 0 ≤ base
  · by_cases h1 : base + (n : Int) ≤ 9975
    · have e0 : decide (0 ≤ base ∧ base + (n : Int) ≤ 9975) = true := by simp; omega
      rw [e0]
      have t0 : decide (base ≥ 0) = true := by simp; omega
      have t1 : decide (base ≤ 9975 - (n : Int)) = true := by simp; omega
      go_enter Try.func113, Try.ntmps113
      go_wp2
      go_ret
      exact ⟨rfl, rfl⟩
    · have e0 : decide (0 ≤ base ∧ base + (n : Int) ≤ 9975) = false := by simp; omega
      rw [e0]
      have t0 : decide (base ≥ 0) = true := by simp; omega
      have t1 : decide (base ≤ 9975 - (n : Int)) = false := by simp; omega
      go_enter Try.func113, Try.ntmps113
      go_wp2
      go_ret
      exact ⟨rfl, rfl⟩
  · have e0 : decide (0 ≤ base ∧ base + (n : Int) ≤ 9975) = false := by simp; omega
    rw [e0]
    have t0 : decide (base ≥ 0) = false := by simp; omega
    go_enter Try.func113, Try.ntmps113
    go_wp2
    go_ret
    exact ⟨rfl, rfl⟩

theorem wasSent_any (e : PartD) (A : Option Addr) (m c : Nat) (w : World) :
    Calls Try.prog 133 #[.agg #[.slice A m c, .bool e.f1, .int .i64 e.f2, .bool e.f3]] w fun e' w' => e' = .returned (.bool (sentB e)) ∧ Below w.heap.size w w' := by
  go_enter Try.func133, Try.ntmps133
  go_wp2
  go_ret
  exact ⟨rfl, ab (Below.refl _ _) _⟩

theorem fault_any (e : PartD) (A : Option Addr) (m c : Nat) (hm : e.f0.length = m) (w : World) :
    Calls Try.prog 127 #[.agg #[.slice A m c, .bool e.f1, .int .i64 e.f2, .bool e.f3]] w fun e' w' => e' = .returned (.int .i64 (partF e)) ∧ Below w.heap.size w w' := by
  have hs := fun W => isSlot_any e.f2 W
  have hw := fun W => wasSent_any e A m c W
  unfold partF
  by_cases h0 : 32 < m
  · rw [if_pos (by omega)]
    clear hm
    go_enter Try.func127, Try.ntmps127
    go_wp2
    go_ret
    exact ⟨rfl, ab (Below.refl _ _) _⟩
  · rw [if_neg (by omega)]
    clear hm
    by_cases h1 : sentB e = true
    · rw [h1] at hw ⊢
      by_cases h2 : slotB e.f2 = false
      · rw [h2] at hs ⊢
        rw [if_pos ⟨rfl, rfl⟩]
        go_enter Try.func127, Try.ntmps127
        go_wp2_with fail
        refine (hw _).mono ?_
        rintro e1 w1 ⟨rfl, b1⟩
        have b2 := b1.cell (p := ⟨w.heap.size, 2, none⟩) (by simp)
        simp at b2
        go_wp2_with fail
        refine (hs _).mono ?_
        rintro e1 w2 ⟨rfl, rfl⟩
        go_wp2
        go_ret
        exact ⟨rfl, ac (ab (Below.refl _ _) _) b1⟩
      · have h2' : slotB e.f2 = true := by simpa using h2
        rw [h2'] at hs ⊢
        rw [if_neg (by simp)]
        go_enter Try.func127, Try.ntmps127
        go_wp2_with fail
        refine (hw _).mono ?_
        rintro e1 w1 ⟨rfl, b1⟩
        have b2 := b1.cell (p := ⟨w.heap.size, 2, none⟩) (by simp)
        simp at b2
        go_wp2_with fail
        refine (hs _).mono ?_
        rintro e1 w2 ⟨rfl, rfl⟩
        go_wp2
        go_ret
        exact ⟨rfl, ac (ab (Below.refl _ _) _) b1⟩
    · have h1' : sentB e = false := by simpa using h1
      rw [h1'] at hw ⊢
      rw [if_neg (by simp)]
      go_enter Try.func127, Try.ntmps127
      go_wp2_with fail
      refine (hw _).mono ?_
      rintro e1 w1 ⟨rfl, b1⟩
      go_wp2
      go_ret
      exact ⟨rfl, ac (ab (Below.refl _ _) _) b1⟩


set_option linter.unusedSimpArgs false in
set_option linter.unusedVariables false in
set_option maxHeartbeats 1000000 in
theorem fitsPlace_any (e : PartD) (i : Nat) (A : Option Addr) (m c : Nat) (hi : i ≤ 1048576) (w : World) :
    Calls Try.prog 128 #[.agg #[.slice A m c, .bool e.f1, .int .i64 e.f2, .bool e.f3], .int .i64 (i : Int)] w fun e' w' => e' = .returned (.bool (placeB i e)) ∧ Below w.heap.size w w' := by
  have hw := fun W => wasSent_any e A m c W
  have hB : placeB i e = !((decide (i = 0) && e.f3) || (e.f3 && !sentB e) || (decide (8 ≤ i) && sentB e)) := rfl
  cases h3 : e.f3 <;> cases h1 : sentB e <;> rw [h1] at hw <;> rw [h3, h1] at hB <;> simp only [h3] at hw <;> simp only [Bool.and_false, Bool.and_true, Bool.false_and, Bool.true_and, Bool.not_false, Bool.not_true, Bool.or_false, Bool.false_or, Bool.or_true, Bool.true_or] at hB
  · by_cases h8 : i < 8
    · have t0 : decide ((i : Int) < 8) = true := by simp; omega
      have HB := Shut.mk hB
      clear hB
      go_enter Try.func128, Try.ntmps128
      go_wp2
      go_ret
      exact ⟨by rw [HB.out]; rfl, (ab (Below.refl _ _) _)⟩
    · have t0 : decide ((i : Int) < 8) = false := by simp; omega
      have HB := Shut.mk hB
      clear hB
      go_enter Try.func128, Try.ntmps128
      go_wp2_with fail
      refine (hw _).mono ?_
      rintro e1 w1 ⟨rfl, b1⟩
      go_wp2
      go_ret
      exact ⟨by rw [HB.out]; rfl, (ac (ab (Below.refl _ _) _) b1)⟩
  · by_cases h8 : i < 8
    · have t0 : decide ((i : Int) < 8) = true := by simp; omega
      have t1 : decide (8 ≤ i) = false := by simp; omega
      rw [t1] at hB
      have HB := Shut.mk hB
      clear hB
      go_enter Try.func128, Try.ntmps128
      go_wp2
      go_ret
      exact ⟨by rw [HB.out]; rfl, (ab (Below.refl _ _) _)⟩
    · have t0 : decide ((i : Int) < 8) = false := by simp; omega
      have t1 : decide (8 ≤ i) = true := by simp; omega
      rw [t1] at hB
      have HB := Shut.mk hB
      clear hB
      go_enter Try.func128, Try.ntmps128
      go_wp2_with fail
      refine (hw _).mono ?_
      rintro e1 w1 ⟨rfl, b1⟩
      go_wp2
      go_ret
      exact ⟨by rw [HB.out]; rfl, (ac (ab (Below.refl _ _) _) b1)⟩
  · by_cases h0 : i = 0
    · have t0 : ((i : Int) == 0) = true := by simp; omega
      have HB := Shut.mk hB
      clear hB
      go_enter Try.func128, Try.ntmps128
      go_wp2
      go_ret
      exact ⟨by rw [HB.out]; rfl, (ab (Below.refl _ _) _)⟩
    · have t0 : ((i : Int) == 0) = false := by simp; omega
      have HB := Shut.mk hB
      clear hB
      go_enter Try.func128, Try.ntmps128
      go_wp2_with fail
      refine (hw _).mono ?_
      rintro e1 w1 ⟨rfl, b1⟩
      go_wp2
      go_ret
      exact ⟨by rw [HB.out]; rfl, (ac (ab (Below.refl _ _) _) b1)⟩
  · by_cases h0 : i = 0
    · have t0 : ((i : Int) == 0) = true := by simp; omega
      have t2 : decide (i = 0) = true := by simp; omega
      rw [t2] at hB
      have HB := Shut.mk hB
      clear hB
      go_enter Try.func128, Try.ntmps128
      go_wp2
      go_ret
      exact ⟨by rw [HB.out]; rfl, (ab (Below.refl _ _) _)⟩
    · by_cases h8 : i < 8
      · have t0 : ((i : Int) == 0) = false := by simp; omega
        have t1 : decide ((i : Int) < 8) = true := by simp; omega
        have t2 : decide (i = 0) = false := by simp; omega
        have t3 : decide (8 ≤ i) = false := by simp; omega
        rw [t2, t3] at hB
        have HB := Shut.mk hB
        clear hB
        go_enter Try.func128, Try.ntmps128
        go_wp2_with fail
        refine (hw _).mono ?_
        rintro e1 w1 ⟨rfl, b1⟩
        go_wp2
        go_ret
        exact ⟨by rw [HB.out]; rfl, (ac (ab (Below.refl _ _) _) b1)⟩
      · have t0 : ((i : Int) == 0) = false := by simp; omega
        have t1 : decide ((i : Int) < 8) = false := by simp; omega
        have t3 : decide (8 ≤ i) = true := by simp; omega
        rw [t3] at hB; simp only [Bool.or_true, Bool.not_true] at hB
        have HB := Shut.mk hB
        clear hB
        go_enter Try.func128, Try.ntmps128
        go_wp2_with fail
        refine (hw _).mono ?_
        rintro e1 w1 ⟨rfl, b1⟩
        have p0 := b1.cell (p := ⟨w.heap.size, 0, none⟩) (by simp)
        have p1 := b1.cell (p := ⟨w.heap.size, 1, none⟩) (by simp)
        have p2 := b1.cell (p := ⟨w.heap.size, 2, none⟩) (by simp)
        have p3 := b1.cell (p := ⟨w.heap.size, 3, none⟩) (by simp)
        simp at p0 p1 p2 p3
        have z1 := b1.size
        go_wp2_with fail
        refine (hw _).mono ?_
        rintro e1 w2 ⟨rfl, b2⟩
        go_wp2
        go_ret
        exact ⟨by rw [HB.out]; rfl, (ac (ac (ab (Below.refl _ _) _) b1) b2)⟩
end Go.Proofs.Ytgmbofoneeagiaa
