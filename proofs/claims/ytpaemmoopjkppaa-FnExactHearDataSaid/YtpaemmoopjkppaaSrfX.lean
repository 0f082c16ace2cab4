import Derived.Test.YtpaemmoopjkppaaLstX

/-! SndF -/
/- The faults of a sender: of the model and of the program. -/
namespace Go.Proofs.Ytpaemmoopjkppaa
open Go.RowKit

/-- the first code that is not 0 -/
def firstF {E : Type} (f : E → Int) : List E → Int
  | [] => 0
  | e :: r => if f e ≠ 0 then f e else firstF f r
theorem firstF_append {E : Type} (f : E → Int) (a b : List E) (h : firstF f a = 0) : firstF f (a ++ b) = firstF f b := by
  induction a with
  | nil => rfl
  | cons x r ih =>
    simp only [firstF] at h
    by_cases hx : f x ≠ 0
    · rw [if_pos hx] at h; exact absurd h hx
    · rw [if_neg hx] at h
      simp only [List.cons_append, firstF]
      rw [if_neg hx, ih h]
theorem firstF_at {E : Type} (f : E → Int) {els : List E} {k : Nat} {e : E} (he : els[k]? = some e) (h0 : firstF f (els.take k) = 0) (hne : f e ≠ 0) : firstF f els = f e := by
  have hk := (List.getElem?_eq_some_iff.1 he).1
  rw [← List.take_append_drop k els, firstF_append f _ _ h0, List.drop_eq_getElem_cons hk]
  have : els[k] = e := by rw [List.getElem?_eq_getElem hk] at he; simpa using he
  rw [this]
  simp only [firstF]
  rw [if_pos hne]
theorem firstF_succ {E : Type} (f : E → Int) {els : List E} {k : Nat} {e : E} (he : els[k]? = some e) (h0 : firstF f (els.take k) = 0) (hne : f e = 0) : firstF f (els.take (k + 1)) = 0 := by
  rw [List.take_add_one, he, firstF_append f _ _ h0]
  simp [firstF, hne]
/-- each one at its place -/
def allAt {E : Type} (g : Nat → E → Bool) (i : Nat) : List E → Bool
  | [] => true
  | e :: r => g i e && allAt g (i + 1) r
theorem allAt_append {E : Type} (g : Nat → E → Bool) (i : Nat) (a b : List E) : allAt g i (a ++ b) = (allAt g i a && allAt g (i + a.length) b) := by
  induction a generalizing i with
  | nil => simp [allAt]
  | cons x r ih => simp [allAt, ih, Bool.and_assoc, Nat.add_assoc, Nat.add_comm 1]
theorem allAt_at {E : Type} (g : Nat → E → Bool) {els : List E} {k : Nat} {e : E} (he : els[k]? = some e) (hne : g k e = false) : allAt g 0 els = false := by
  have hk := (List.getElem?_eq_some_iff.1 he).1
  rw [← List.take_append_drop k els, allAt_append, List.drop_eq_getElem_cons hk]
  have : els[k] = e := by rw [List.getElem?_eq_getElem hk] at he; simpa using he
  rw [this, List.length_take, Nat.min_eq_left (Nat.le_of_lt hk), Nat.zero_add]
  simp [allAt, hne]
theorem allAt_succ {E : Type} (g : Nat → E → Bool) {els : List E} {k : Nat} {e : E} (he : els[k]? = some e) (h0 : allAt g 0 (els.take k) = true) (hne : g k e = true) : allAt g 0 (els.take (k + 1)) = true := by
  have hk := (List.getElem?_eq_some_iff.1 he).1
  rw [List.take_add_one, he, allAt_append, h0, List.length_take, Nat.min_eq_left (Nat.le_of_lt hk), Nat.zero_add]
  simp [allAt, hne]

def slotB (x : Int) : Bool := decide (0 ≤ x ∧ x ≤ 400)
def sentB (e : PartD) : Bool := e.f2 != -1
def partF (e : PartD) : Int := if 32 < e.f0.length then 2 else if sentB e = true ∧ slotB e.f2 = false then 3 else 0
def placeB (i : Nat) (e : PartD) : Bool := !((decide (i = 0) && e.f3) || (e.f3 && !sentB e) || (decide (8 ≤ i) && sentB e))
def numsB (base : Int) (n : Nat) : Bool := decide (0 ≤ base ∧ base + (n : Int) ≤ 9975)
def senF (base : Int) (els : List PartD) : Int :=
  if numsB base els.length = false then 3 else if 24 < els.length then 2 else if firstF partF els ≠ 0 then firstF partF els else if allAt placeB 0 els = false then 8 else 0

end Go.Proofs.Ytpaemmoopjkppaa

/-! RcvF -/
/- The faults of a receiver: of the model and of the program. -/
namespace Go.Proofs.Ytpaemmoopjkppaa
open Go.RowKit

def aheadB (next x : Int) : Bool := decide (next + 1 ≤ x ∧ x ≤ next + 7 ∧ x ≤ 9999)
def heldF (next : Int) (e : HeldD) : Int := if aheadB next e.f0 = false then 3 else if 32 < e.f1.length then 2 else 0
def upB (els : List HeldD) : Nat → HeldD → Bool
  | 0, _ => true
  | j + 1, e => match els[j]? with
    | some p => decide (p.f0 < e.f0)
    | none => true
def recF (next : Int) (els : List HeldD) (np : Nat) : Int :=
  if decide (0 ≤ next ∧ next ≤ 10000) = false then 3 else if 200 < np then 2 else if firstF (heldF next) els ≠ 0 then firstF (heldF next) els else if allAt (upB els) 0 els = false then 1 else 0
theorem recF_num {next : Int} {els : List HeldD} {np : Nat} (h : ¬ (0 ≤ next ∧ next ≤ 10000)) : recF next els np = 3 := by unfold recF; rw [if_pos (by simpa using h)]
theorem recF_many {next : Int} {els : List HeldD} {np : Nat} (h : 0 ≤ next ∧ next ≤ 10000) (h1 : 200 < np) : recF next els np = 2 := by unfold recF; rw [if_neg (by simp [h]), if_pos h1]
theorem recF_held {next : Int} {els : List HeldD} {np : Nat} (h : 0 ≤ next ∧ next ≤ 10000) (h1 : ¬ 200 < np) (h2 : firstF (heldF next) els ≠ 0) : recF next els np = firstF (heldF next) els := by unfold recF; rw [if_neg (by simp [h]), if_neg h1, if_pos h2]
theorem recF_form {next : Int} {els : List HeldD} {np : Nat} (h : 0 ≤ next ∧ next ≤ 10000) (h1 : ¬ 200 < np) (h2 : firstF (heldF next) els = 0) (h3 : allAt (upB els) 0 els = false) : recF next els np = 1 := by unfold recF; rw [if_neg (by simp [h]), if_neg h1, if_neg (by simp [h2]), if_pos h3]
theorem recF_ok {next : Int} {els : List HeldD} {np : Nat} (h : 0 ≤ next ∧ next ≤ 10000) (h1 : ¬ 200 < np) (h2 : firstF (heldF next) els = 0) (h3 : allAt (upB els) 0 els = true) : recF next els np = 0 := by unfold recF; rw [if_neg (by simp [h]), if_neg h1, if_neg (by simp [h2]), if_neg (by simp [h3])]

theorem heldFault_any (e : HeldD) (next : Int) (A : Option Addr) (m c : Nat) (hm : e.f1.length = m) (h0 : 0 ≤ next) (h1 : next ≤ 10000) (w : World) :
    Calls Try.prog 85 #[.agg #[.int .i64 e.f0, .slice A m c, .bool e.f2], .int .i64 next] w fun e' w' => e' = .returned (.int .i64 (heldF next e)) ∧ Below w.heap.size w w' := by
  unfold heldF
  by_cases h2 : next + 1 ≤ e.f0 ∧ e.f0 ≤ next + 7 ∧ e.f0 ≤ 9999
  · rw [if_neg (by unfold aheadB; simp [h2])]
    have t0 : decide (e.f0 ≤ next) = false := by simp; omega
    have t1 : decide (e.f0 > next + 7) = false := by simp; omega
    have t2 : decide (e.f0 > 9999) = false := by simp; omega
    by_cases h3 : 32 < m
    · rw [if_pos (by omega)]
      have t3 : decide ((m : Int) > 32) = true := by simp; omega
      clear hm
      go_enter Try.func85, Try.ntmps85
      go_wp2
      go_ret
      exact ⟨rfl, ab (Below.refl _ _) _⟩
    · rw [if_neg (by omega)]
      have t3 : decide ((m : Int) > 32) = false := by simp; omega
      clear hm
      go_enter Try.func85, Try.ntmps85
      go_wp2
      go_ret
      exact ⟨rfl, ab (Below.refl _ _) _⟩
  · rw [if_pos (by unfold aheadB; simpa using h2)]
    by_cases q0 : e.f0 ≤ next
    · have t0 : decide (e.f0 ≤ next) = true := by simp; omega
      clear hm
      go_enter Try.func85, Try.ntmps85
      go_wp2
      go_ret
      exact ⟨rfl, ab (Below.refl _ _) _⟩
    · have t0 : decide (e.f0 ≤ next) = false := by simp; omega
      by_cases q1 : e.f0 > next + 7
      · have t1 : decide (e.f0 > next + 7) = true := by simp; omega
        clear hm
        go_enter Try.func85, Try.ntmps85
        go_wp2
        go_ret
        exact ⟨rfl, ab (Below.refl _ _) _⟩
      · have t1 : decide (e.f0 > next + 7) = false := by simp; omega
        have t2 : decide (e.f0 > 9999) = true := by simp; omega
        clear hm
        go_enter Try.func85, Try.ntmps85
        go_wp2
        go_ret
        exact ⟨rfl, ab (Below.refl _ _) _⟩

theorem rises_any (A : Option Addr) (n c : Nat) (els : List HeldD) (w : World) (h : Lst HeldD.cels 3 w A n els) (hn : n ≤ 1048576) :
    Calls Try.prog 86 #[.slice A n c] w fun e w' => e = .returned (.bool (allAt (upB els) 0 els)) ∧ Below w.heap.size w w' := by
  have Hl := Shut.mk h.len
  go_enter Try.func86, Try.ntmps86
  go_wp2
  go_loopw [3] (fun i wr => ∃ k : Nat, k + 1 ≤ n + 1 ∧ i = .int .i64 ((k : Int) + 1) ∧ Shut (allAt (upB els) 0 (els.take (k + 1)) = true) ∧ Below w.heap.size w wr) (fun i _ => n + 1 - (intOf i).toNat)
  case atStart =>
    refine ⟨0, by omega, rfl, ⟨?_⟩, Below.refl _ _⟩
    cases els with
    | nil => rfl
    | cons x r => rfl
  case round =>
    obtain ⟨k, hk, rfl, hA, hbel⟩ := hrel
    by_cases hlt : k + 1 < n
    · obtain ⟨b, off, e, B, m, c', rfl, hbs, he, g0, g1, g2, hB, hz⟩ := h.getHeld hlt
      obtain ⟨b', off', e', B', m', c'', hA', hbs', he', g0', g1', g2', hB', hz'⟩ := h.getHeld (k := k) (by omega)
      injection hA' with hA'
      injection hA' with q1 q2 _
      subst q1 q2
      have hb' := bcell hbel
      have hu : upB els (k + 1) e = decide (e'.f0 < e.f0) := by
        show (match els[k]? with | some p => decide (p.f0 < e.f0) | none => true) = _
        rw [he'.out]
      have t0 : decide ((k : Int) + 1 < (n : Int)) = true := by simp; omega
      clear g1 g2 g1' g2' hB hB' h
      by_cases hf : e'.f0 < e.f0
      · have hA2 := Shut.mk (allAt_succ (upB els) he.out hA.out (by rw [hu]; simpa using hf))
        have t1 : decide (e.f0 ≤ e'.f0) = false := by simp; omega
        clear hu
        go_wp2
        go_quiet (fail)
        have z1 : (wr.drewN nq).heap.size = wr.heap.size := rfl
        replace hbel := ad hbel nq
        generalize wr.drewN nq = w1 at *
        go_wp2
        go_roundw
        case rel => exact ⟨k + 1, by omega, by go_num, hA2, hbel⟩
        case measure => simp [intOf]; omega
      · have e0 := Shut.mk (allAt_at (upB els) he.out (by rw [hu]; simpa using hf))
        have t1 : decide (e.f0 ≤ e'.f0) = true := by simp; omega
        clear hu
        go_wp2
        go_quiet (fail)
        have z1 : (wr.drewN nq).heap.size = wr.heap.size := rfl
        replace hbel := ad hbel nq
        generalize wr.drewN nq = w1 at *
        go_wp2
        go_ret
        exact ⟨by rw [e0.out]; rfl, hbel⟩
    · have e0 : Shut (allAt (upB els) 0 els = true) := ⟨by
        have := hA.out
        rwa [List.take_of_length_le (by rw [Hl.out]; omega)] at this⟩
      have t0 : decide ((k : Int) + 1 < (n : Int)) = false := by simp; omega
      go_wp2
      go_ret
      exact ⟨by rw [e0.out]; rfl, hbel⟩
end Go.Proofs.Ytpaemmoopjkppaa

/-! SndG -/
namespace Go.Proofs.Ytpaemmoopjkppaa
open Go.RowKit

theorem senF_nums {base : Int} {els : List PartD} (h : numsB base els.length = false) : senF base els = 3 := by unfold senF; rw [if_pos h]
theorem senF_many {base : Int} {els : List PartD} (h : numsB base els.length = true) (h1 : 24 < els.length) : senF base els = 2 := by unfold senF; rw [if_neg (by simp [h]), if_pos h1]
theorem senF_part {base : Int} {els : List PartD} (h : numsB base els.length = true) (h1 : ¬ 24 < els.length) (h2 : firstF partF els ≠ 0) : senF base els = firstF partF els := by unfold senF; rw [if_neg (by simp [h]), if_neg h1, if_pos h2]
theorem senF_place {base : Int} {els : List PartD} (h : numsB base els.length = true) (h1 : ¬ 24 < els.length) (h2 : firstF partF els = 0) (h3 : allAt placeB 0 els = false) : senF base els = 8 := by unfold senF; rw [if_neg (by simp [h]), if_neg h1, if_neg (by simp [h2]), if_pos h3]
theorem senF_ok {base : Int} {els : List PartD} (h : numsB base els.length = true) (h1 : ¬ 24 < els.length) (h2 : firstF partF els = 0) (h3 : allAt placeB 0 els = true) : senF base els = 0 := by unfold senF; rw [if_neg (by simp [h]), if_neg h1, if_neg (by simp [h2]), if_neg (by simp [h3])]

end Go.Proofs.Ytpaemmoopjkppaa

/-! RcvG -/
namespace Go.Proofs.Ytpaemmoopjkppaa
open Go.RowKit

set_option linter.unusedVariables false in
set_option maxHeartbeats 2000000 in
theorem implReceiverFault_any (next : Int) (A : Option Addr) (n c : Nat) (els : List HeldD) (A' : Option Addr) (n' c' : Nat) (w : World) (h : Lst HeldD.cels 3 w A n els) (hn : n ≤ 1048576) (hn' : n' ≤ 1048576) :
    Calls Try.prog 41 #[.agg #[.int .i64 next, .slice A n c, .slice A' n' c']] w fun e w' => e = .returned (.int .i64 (recF next els n')) ∧ Below w.heap.size w w' := by
  have hl := h.len
  have Hl := Shut.mk hl
  by_cases h0 : 0 ≤ next ∧ next ≤ 10000
  rotate_left
  · have e0 := Shut.mk (recF_num (els := els) (np := n') h0)
    clear hl
    by_cases q0 : next < 0
    · have t0 : decide (next < 0) = true := by simp; omega
      go_enter Try.func41, Try.ntmps41
      go_wp2
      go_ret
      exact ⟨by rw [e0.out]; rfl, ab (Below.refl _ _) _⟩
    · have t0 : decide (next < 0) = false := by simp; omega
      have t1 : decide (next > 10000) = true := by simp; omega
      go_enter Try.func41, Try.ntmps41
      go_wp2
      go_ret
      exact ⟨by rw [e0.out]; rfl, ab (Below.refl _ _) _⟩
  have t0 : decide (next < 0) = false := by simp; omega
  have t1 : decide (next > 10000) = false := by simp; omega
  by_cases h1 : 200 < n'
  · have e0 := Shut.mk (recF_many (els := els) h0 h1)
    have t2 : decide ((n' : Int) > 200) = true := by simp; omega
    clear hl
    go_enter Try.func41, Try.ntmps41
    go_wp2
    go_ret
    exact ⟨by rw [e0.out]; rfl, ab (Below.refl _ _) _⟩
  have t2 : decide ((n' : Int) > 200) = false := by simp; omega
  clear hl
  have S0 := Stc.new w 32 [.int .i64 next, .slice A n c, .slice A' n' c'] _ rfl
  have B0 := ab (Below.refl _ w) (.cells #[.int .i64 next, .slice A n c, .slice A' n' c'] 32)
  go_enter Try.func41, Try.ntmps41
  go_wp2
  go_loopw [21] (fun i wr => ∃ k : Nat, k ≤ n ∧ i = .int .i64 k ∧ Shut (firstF (heldF next) (els.take k) = 0) ∧ Stc wr w.heap.size [.int .i64 next, .slice A n c, .slice A' n' c'] 32 ∧ Below w.heap.size w wr) (fun i _ => n - (intOf i).toNat)
  case atStart => exact ⟨0, Nat.zero_le _, rfl, ⟨rfl⟩, S0, B0⟩
  case round =>
    obtain ⟨k, hk, rfl, hF, hS, hbel⟩ := hrel
    by_cases hlt : k < n
    · obtain ⟨b, off, e, B, m, c'', rfl, hbs, he, g0, g1, g2, hB, hz⟩ := h.getHeld hlt
      have hb' := bcell hbel
      have v0 := hS.cell (i := 0) rfl
      have hl1 := hS.lt
      have htp := fun W => heldFault_any e next B m c'' hB.len h0.1 h0.2 W
      by_cases hf : heldF next e = 0
      · have hF' := Shut.mk (firstF_succ (heldF next) he.out hF.out hf)
        rw [hf] at htp
        clear hf hB
        go_wp2_with fail
        refine (htp _).mono ?_
        rintro e1 w1 ⟨rfl, b1⟩
        clear v0
        go_wp2
        go_roundw
        case rel => exact ⟨k + 1, by omega, by go_num, hF', (hS.alloc _).below b1 (by simp; omega), ac (ab hbel _) b1⟩
        case measure => simp [intOf]; omega
      · have e0 : Shut (recF next els n' = heldF next e) := ⟨by
          have h2 := firstF_at (heldF next) he.out hF.out hf
          rw [recF_held h0 h1 (by rw [h2]; exact hf), h2]⟩
        have t3 : (heldF next e != 0) = true := by simpa using hf
        obtain ⟨z, hz'⟩ : ∃ z, z = heldF next e := ⟨_, rfl⟩
        rw [← hz'] at htp t3 e0
        clear hf hB hz' h
        go_wp2_with fail
        refine (htp _).mono ?_
        rintro e1 w1 ⟨rfl, b1⟩
        clear v0
        go_wp2
        go_ret
        exact ⟨by rw [e0.out]; rfl, ac (ab hbel _) b1⟩
    · obtain rfl : k = n := by omega
      rw [List.take_of_length_le (by rw [Hl.out]; exact Nat.le_refl _)] at hF
      have q1 := hS.cell (i := 1) rfl
      have hr := fun W (hh : Below w.heap.size w W) => rises_any A k c els W (h.below hh) hn
      by_cases hR : allAt (upB els) 0 els = true
      · have e0 := Shut.mk (recF_ok h0 h1 hF.out hR)
        rw [hR] at hr
        clear hR h
        go_wp2_with fail
        refine (hr _ hbel).mono ?_
        rintro e1 w1 ⟨rfl, b1⟩
        clear q1
        go_wp2
        go_ret
        exact ⟨by rw [e0.out]; rfl, ac hbel b1⟩
      · have hR' : allAt (upB els) 0 els = false := by simpa using hR
        have e0 := Shut.mk (recF_form h0 h1 hF.out hR')
        rw [hR'] at hr
        clear hR hR' h
        go_wp2_with fail
        refine (hr _ hbel).mono ?_
        rintro e1 w1 ⟨rfl, b1⟩
        clear q1
        go_wp2
        go_ret
        exact ⟨by rw [e0.out]; rfl, ac hbel b1⟩

theorem Min_any (x y : Int) (w : World) :
    Calls Try.prog 82 #[.int .i64 x, .int .i64 y] w fun e w' => e = .returned (.int .i64 (if x < y then x else y)) ∧ w = w' := by
  by_cases h : x < y
  · rw [if_pos h]
    go_enter Try.func82, Try.ntmps82
    go_wp2
    go_ret
    exact ⟨rfl, rfl⟩
  · rw [if_neg h]
    go_enter Try.func82, Try.ntmps82
    go_wp2
    go_ret
    exact ⟨rfl, rfl⟩

set_option linter.unusedVariables false in
set_option maxHeartbeats 4000000 in
theorem specReceiverFault_any (next : Int) (A : Option Addr) (n c : Nat) (els : List HeldD) (A' : Option Addr) (n' c' : Nat) (w : World) (h : Lst HeldD.cels 3 w A n els) (hn : n ≤ 1048576) (hn' : n' ≤ 1048576) :
    Calls Try.prog 35 #[.agg #[.int .i64 next, .slice A n c, .slice A' n' c']] w fun e w' => e = .returned (.int .i64 (recF next els n')) ∧ Below w.heap.size w w' := by
  have hl := h.len
  have Hl := Shut.mk hl
  have hN := fun W => In_any next 0 10000 W
  by_cases h0 : 0 ≤ next ∧ next ≤ 10000
  rotate_left
  · have e0 := Shut.mk (recF_num (els := els) (np := n') h0)
    have e1 : inB next 0 10000 = false := by unfold inB; simpa using h0
    rw [e1] at hN
    clear hl
    go_enter Try.func35, Try.ntmps35
    go_wp2_with fail
    refine (hN _).mono ?_
    rintro e1 w1 ⟨rfl, rfl⟩
    go_wp2
    go_ret
    exact ⟨by rw [e0.out]; rfl, ab (Below.refl _ _) _⟩
  have e1 : inB next 0 10000 = true := by unfold inB; simpa using h0
  rw [e1] at hN
  clear e1
  by_cases h1 : 200 < n'
  · have e0 := Shut.mk (recF_many (els := els) h0 h1)
    have t2 : decide ((n' : Int) > 200) = true := by simp; omega
    clear hl
    go_enter Try.func35, Try.ntmps35
    go_wp2_with fail
    refine (hN _).mono ?_
    rintro e1 w1 ⟨rfl, rfl⟩
    go_wp2
    go_ret
    exact ⟨by rw [e0.out]; rfl, ab (Below.refl _ _) _⟩
  have t2 : decide ((n' : Int) > 200) = false := by simp; omega
  clear hl
  have S0 := Stc.new w 32 [.int .i64 next, .slice A n c, .slice A' n' c'] _ rfl
  have B0 := ab (Below.refl _ w) (.cells #[.int .i64 next, .slice A n c, .slice A' n' c'] 32)
  have hM : ∀ W : World, Calls Try.prog 82 #[.int .i64 (next + 7), .int .i64 9999] W fun e w' => e = .returned (.int .i64 (if next + 7 < 9999 then next + 7 else 9999)) ∧ W = w' := fun W => Min_any _ _ W
  obtain ⟨top, htop⟩ : ∃ top, top = (if next + 7 < 9999 then next + 7 else 9999) := ⟨_, rfl⟩
  rw [← htop] at hM
  have Ht : top ≤ next + 7 ∧ top ≤ 9999 ∧ (next + 7 ≤ top ∨ 9999 ≤ top) := by split at htop <;> omega
  clear htop
  go_enter Try.func35, Try.ntmps35
  go_wp2_with fail
  refine (hN _).mono ?_
  rintro e1 w1 ⟨rfl, rfl⟩
  go_wp2
  clear hN
  go_loopw [16] (fun i wr => ∃ k : Nat, k ≤ n ∧ i = .int .i64 k ∧ Shut (firstF (heldF next) (els.take k) = 0) ∧ Stc wr w.heap.size [.int .i64 next, .slice A n c, .slice A' n' c'] 32 ∧ Below w.heap.size w wr) (fun i _ => n - (intOf i).toNat)
  case atStart => exact ⟨0, Nat.zero_le _, rfl, ⟨rfl⟩, S0, B0⟩
  case round =>
    obtain ⟨k, hk, rfl, hF, hS, hbel⟩ := hrel
    by_cases hlt : k < n
    · obtain ⟨b, off, e, B, m, c'', rfl, hbs, he, g0, g1, g2, hB, hz⟩ := h.getHeld hlt
      have hb' := bcell hbel
      have v0 := hS.cell (i := 0) rfl
      have v1 := hS.cell (i := 1) rfl
      have hml := hB.len
      have hI := Shut.mk (fun W => In_any e.f0 (next + 1) top W)
      have hM' := Shut.mk hM
      by_cases ha : next + 1 ≤ e.f0 ∧ e.f0 ≤ next + 7 ∧ e.f0 ≤ 9999
      · have e1 : inB e.f0 (next + 1) top = true := by unfold inB; simp; omega
        rw [e1] at hI
        have ha' : aheadB next e.f0 = true := by unfold aheadB; simpa using ha
        by_cases hm : 32 < m
        · have hf : heldF next e = 2 := by unfold heldF; rw [if_neg (by simp [ha']), if_pos (by omega)]
          have e0 : Shut (recF next els n' = 2) := ⟨by
            have h2 := firstF_at (heldF next) he.out hF.out (by rw [hf]; decide)
            rw [recF_held h0 h1 (by rw [h2, hf]; decide), h2, hf]⟩
          have t3 : decide ((m : Int) > 32) = true := by simp; omega
          clear hml hf hB h e1 ha ha'
          go_wp2
          go_quiet (first | (go_at_call 82; refine Calls.quiet_of_same ((hM'.out _).mono fun _ _ h => ⟨h.1, h.2.symm⟩)) | (go_at_call 81; refine Calls.quiet_of_same ((hI.out _).mono fun _ _ h => ⟨h.1, h.2.symm⟩)))
          replace hbel := ad hbel nq
          replace hS := hS.drewN nq
          clear v0 v1 hb'
          generalize wr.drewN nq = w1 at *
          have hb' := bcell hbel
          have v1 := hS.cell (i := 1) rfl
          go_wp2
          go_ret
          exact ⟨by rw [e0.out]; rfl, hbel⟩
        · have hf : heldF next e = 0 := by unfold heldF; rw [if_neg (by simp [ha']), if_neg (by omega)]
          have hF' := Shut.mk (firstF_succ (heldF next) he.out hF.out hf)
          have t3 : decide ((m : Int) > 32) = false := by simp; omega
          clear hml hf hB h e1 ha ha'
          go_wp2
          go_quiet (first | (go_at_call 82; refine Calls.quiet_of_same ((hM'.out _).mono fun _ _ h => ⟨h.1, h.2.symm⟩)) | (go_at_call 81; refine Calls.quiet_of_same ((hI.out _).mono fun _ _ h => ⟨h.1, h.2.symm⟩)))
          replace hbel := ad hbel nq
          replace hS := hS.drewN nq
          clear v0 v1 hb'
          generalize wr.drewN nq = w1 at *
          have hb' := bcell hbel
          have v1 := hS.cell (i := 1) rfl
          go_wp2
          go_roundw
          case rel => exact ⟨k + 1, by omega, by go_num, hF', hS, hbel⟩
          case measure => simp [intOf]; omega
      · have e1 : inB e.f0 (next + 1) top = false := by unfold inB; simp; omega
        rw [e1] at hI
        have ha' : aheadB next e.f0 = false := by unfold aheadB; simpa using ha
        have hf : heldF next e = 3 := by unfold heldF; rw [if_pos ha']
        have e0 : Shut (recF next els n' = 3) := ⟨by
          have h2 := firstF_at (heldF next) he.out hF.out (by rw [hf]; decide)
          rw [recF_held h0 h1 (by rw [h2, hf]; decide), h2, hf]⟩
        clear hml hf hB h e1 ha ha'
        go_wp2
        go_quiet (first | (go_at_call 82; refine Calls.quiet_of_same ((hM'.out _).mono fun _ _ h => ⟨h.1, h.2.symm⟩)) | (go_at_call 81; refine Calls.quiet_of_same ((hI.out _).mono fun _ _ h => ⟨h.1, h.2.symm⟩)))
        replace hbel := ad hbel nq
        generalize wr.drewN nq = w1 at *
        go_wp2
        go_ret
        exact ⟨by rw [e0.out]; rfl, hbel⟩
    · obtain rfl : k = n := by omega
      rw [List.take_of_length_le (by rw [Hl.out]; exact Nat.le_refl _)] at hF
      go_wp2
      go_loopw [4] (fun i wr => ∃ j : Nat, j + 1 ≤ k + 1 ∧ i = .int .i64 ((j : Int) + 1) ∧ Shut (allAt (upB els) 0 (els.take (j + 1)) = true) ∧ Stc wr w.heap.size [.int .i64 next, .slice A k c, .slice A' n' c'] 32 ∧ Below w.heap.size w wr) (fun i _ => k + 1 - (intOf i).toNat)
      case atStart =>
        refine ⟨0, by omega, rfl, ⟨?_⟩, hS, hbel⟩
        cases els with
        | nil => rfl
        | cons x r => rfl
      case round =>
        obtain ⟨j, hj, rfl, hA, hS', hbel'⟩ := hrel
        have v1 := hS'.cell (i := 1) rfl
        by_cases hlt' : j + 1 < k
        · obtain ⟨b, off, e, B, m, c'', rfl, hbs, he, g0, g1, g2, hB, hz⟩ := h.getHeld hlt'
          obtain ⟨b', off', e', B', m', c3, hA', hbs', he', g0', g1', g2', hB', hz'⟩ := h.getHeld (k := j) (by omega)
          injection hA' with hA'
          injection hA' with q1 q2 _
          subst q1 q2
          have hb' := bcell hbel'
          have hu : upB els (j + 1) e = decide (e'.f0 < e.f0) := by
            show (match els[j]? with | some p => decide (p.f0 < e.f0) | none => true) = _
            rw [he'.out]
          have t3 : decide ((j : Int) + 1 < (k : Int)) = true := by simp; omega
          clear g1 g2 g1' g2' hB hB' h
          by_cases hf : e'.f0 < e.f0
          · have hA2 := Shut.mk (allAt_succ (upB els) he.out hA.out (by rw [hu]; simpa using hf))
            have t4 : decide (e.f0 ≤ e'.f0) = false := by simp; omega
            clear hu
            go_wp2
            go_quiet (fail)
            replace hbel' := ad hbel' nq
            replace hS' := hS'.drewN nq
            generalize wr.drewN nq = w1 at *
            go_wp2
            go_roundw
            case rel => exact ⟨j + 1, by omega, by go_num, hA2, hS', hbel'⟩
            case measure => simp [intOf]; omega
          · have e0 := Shut.mk (recF_form h0 h1 hF.out (allAt_at (upB els) he.out (by rw [hu]; simpa using hf)))
            have t4 : decide (e.f0 ≤ e'.f0) = true := by simp; omega
            clear hu
            go_wp2
            go_quiet (fail)
            replace hbel' := ad hbel' nq
            generalize wr.drewN nq = w1 at *
            go_wp2
            go_ret
            exact ⟨by rw [e0.out]; rfl, hbel'⟩
        · have e0 : Shut (recF next els n' = 0) := ⟨by
            have := hA.out
            rw [List.take_of_length_le (by rw [Hl.out]; omega)] at this
            exact recF_ok h0 h1 hF.out this⟩
          have t3 : decide ((j : Int) + 1 < (k : Int)) = false := by simp; omega
          go_wp2
          go_ret
          exact ⟨by rw [e0.out]; rfl, hbel'⟩
end Go.Proofs.Ytpaemmoopjkppaa
