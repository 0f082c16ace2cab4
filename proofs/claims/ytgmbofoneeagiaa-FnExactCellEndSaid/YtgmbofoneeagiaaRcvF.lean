/- The faults of a receiver: of the model and of the program. -/
import Derived.Test.YtgmbofoneeagiaaHeldC
import Derived.Test.YtgmbofoneeagiaaSndF
namespace Go.Proofs.Ytgmbofoneeagiaa
open Go.RowKit

def aheadB (next x : Int) : Bool := decide (next + 1 ≤ x ∧ x ≤ next + 7 ∧ x ≤ 9999)
def heldF (next : Int) (e : HeldD) : Int := if aheadB next e.f0 = false then 3 else if 32 < e.f1.length then 2 else 0
def upB (els : List HeldD) : Nat → HeldD → Bool
  | 0, _ => true
  | j + 1, e => match els[j]? with
    | some p => decide (p.f0 < e.f0)
    | none => true
def recF (next : Int) (els : List HeldD) (np : Nat) : Int :=
  if decide (0 ≤ next ∧ next ≤ 10000) = false then 3 else if 200 < np then 2 else if firstF (heldF next) els ≠ 0 then firstF (heldF next) els else if allAt (upB els) 0 els = false then 1 else 0
theorem recF_num {next : Int} {els : List HeldD} {np : Nat} (h : ¬ (0 ≤ next ∧ next ≤ 10000)) : recF next els np = 3 := by unfold recF; rw [if_pos (by simpa using h)]
theorem recF_many {next : Int} {els : List HeldD} {np : Nat} (h : 0 ≤ next ∧ next ≤ 10000) (h1 : 200 < np) : recF next els np = 2 := by unfold recF; rw [if_neg (by simp [h]), if_pos h1]
theorem recF_held {next : Int} {els : List HeldD} {np : Nat} (h : 0 ≤ next ∧ next ≤ 10000) (h1 : ¬ 200 < np) (h2 : firstF (heldF next) els ≠ 0) : recF next els np = firstF (heldF next) els := by unfold recF; rw [if_neg (by simp [h]), if_neg h1, if_pos h2]
theorem recF_form {next : Int} {els : List HeldD} {np : Nat} (h : 0 ≤ next ∧ next ≤ 10000) (h1 : ¬ 200 < np) (h2 : firstF (heldF next) els = 0) (h3 : allAt (upB els) 0 els = false) : recF next els np = 1 := by unfold recF; rw [if_neg (by simp [h]), if_neg h1, if_neg (by simp [h2]), if_pos h3]
theorem recF_ok {next : Int} {els : List HeldD} {np : Nat} (h : 0 ≤ next ∧ next ≤ 10000) (h1 : ¬ 200 < np) (h2 : firstF (heldF next) els = 0) (h3 : allAt (upB els) 0 els = true) : recF next els np = 0 := by unfold recF; rw [if_neg (by simp [h]), if_neg h1, if_neg (by simp [h2]), if_neg (by simp [h3])]

theorem heldFault_any (e : HeldD) (next : Int) (A : Option Addr) (m c : Nat) (hm : e.f1.length = m) (h0 : 0 ≤ next) (h1 : next ≤ 10000) (w : World) :
    Calls Try.prog 155 #[.agg #[.int .i64 e.f0, .slice A m c, .bool e.f2], .int .i64 next] w fun e' w' => e' = .returned (.int .i64 (heldF next e)) ∧ Below w.heap.size w w' := by
  unfold heldF
  by_cases h2 : next + 1 ≤ e.f0 ∧ e.f0 ≤ next + 7 ∧ e.f0 ≤ 9999
  · rw [if_neg (by unfold aheadB; simp [h2])]
    have t0 : decide (e.f0 ≤ next) = false := by simp; omega
    have t1 : decide (e.f0 > next + 7) = false := by simp; omega
    have t2 : decide (e.f0 > 9999) = false := by simp; omega
    by_cases h3 : 32 < m
    · rw [if_pos (by omega)]
      have t3 : decide ((m : Int) > 32) = true := by simp; omega
      clear hm
      go_enter Try.func155, Try.ntmps155
      go_wp2
      go_ret
      exact ⟨rfl, ab (Below.refl _ _) _⟩
    · rw [if_neg (by omega)]
      have t3 : decide ((m : Int) > 32) = false := by simp; omega
      clear hm
      go_enter Try.func155, Try.ntmps155
      go_wp2
      go_ret
      exact ⟨rfl, ab (Below.refl _ _) _⟩
  · rw [if_pos (by unfold aheadB; simpa using h2)]
    by_cases q0 : e.f0 ≤ next
    · have t0 : decide (e.f0 ≤ next) = true := by simp; omega
      clear hm
      go_enter Try.func155, Try.ntmps155
      go_wp2
      go_ret
      exact ⟨rfl, ab (Below.refl _ _) _⟩
    · have t0 : decide (e.f0 ≤ next) = false := by simp; omega
      by_cases q1 : e.f0 > next + 7
      · have t1 : decide (e.f0 > next + 7) = true := by simp; omega
        clear hm
        go_enter Try.func155, Try.ntmps155
        go_wp2
        go_ret
        exact ⟨rfl, ab (Below.refl _ _) _⟩
      · have t1 : decide (e.f0 > next + 7) = false := by simp; omega
        have t2 : decide (e.f0 > 9999) = true := by simp; omega
        clear hm
        go_enter Try.func155, Try.ntmps155
        go_wp2
        go_ret
        exact ⟨rfl, ab (Below.refl _ _) _⟩

theorem rises_any (A : Option Addr) (n c : Nat) (els : List HeldD) (w : World) (h : Lst HeldD.cels 3 w A n els) (hn : n ≤ 1048576) :
    Calls Try.prog 156 #[.slice A n c] w fun e w' => e = .returned (.bool (allAt (upB els) 0 els)) ∧ Below w.heap.size w w' := by
  have Hl := Shut.mk h.len
  go_enter Try.func156, Try.ntmps156
  go_wp2
  go_loopw [3] (fun i wr => ∃ k : Nat, k + 1 ≤ n + 1 ∧ i = .int .i64 ((k : Int) + 1) ∧ Shut (allAt (upB els) 0 (els.take (k + 1)) = true) ∧ Below w.heap.size w wr) (fun i _ => n + 1 - (intOf i).toNat)
  case atStart =>
    refine ⟨0, by omega, rfl, ⟨?_⟩, Below.refl _ _⟩
    cases els with
    | nil => rfl
    | cons x r => rfl
  case round =>
    obtain ⟨k, hk, rfl, hA, hbel⟩ := hrel
    by_cases hlt : k + 1 < n
    · obtain ⟨b, off, e, B, m, c', rfl, hbs, he, g0, g1, g2, hB, hz⟩ := h.getHeld hlt
      obtain ⟨b', off', e', B', m', c'', hA', hbs', he', g0', g1', g2', hB', hz'⟩ := h.getHeld (k := k) (by omega)
      injection hA' with hA'
      injection hA' with q1 q2 _
      subst q1 q2
      have hb' := bcell hbel
      have hu : upB els (k + 1) e = decide (e'.f0 < e.f0) := by
        show (match els[k]? with | some p => decide (p.f0 < e.f0) | none => true) = _
        rw [he'.out]
      have t0 : decide ((k : Int) + 1 < (n : Int)) = true := by simp; omega
      clear g1 g2 g1' g2' hB hB' h
      by_cases hf : e'.f0 < e.f0
      · have hA2 := Shut.mk (allAt_succ (upB els) he.out hA.out (by rw [hu]; simpa using hf))
        have t1 : decide (e.f0 ≤ e'.f0) = false := by simp; omega
        clear hu
        go_wp2
        go_quiet (fail)
        have z1 : (wr.drewN nq).heap.size = wr.heap.size := rfl
        replace hbel := ad hbel nq
        generalize wr.drewN nq = w1 at *
        go_wp2
        go_roundw
        case rel => exact ⟨k + 1, by omega, by go_num, hA2, hbel⟩
        case measure => simp [intOf]; omega
      · have e0 := Shut.mk (allAt_at (upB els) he.out (by rw [hu]; simpa using hf))
        have t1 : decide (e.f0 ≤ e'.f0) = true := by simp; omega
        clear hu
        go_wp2
        go_quiet (fail)
        have z1 : (wr.drewN nq).heap.size = wr.heap.size := rfl
        replace hbel := ad hbel nq
        generalize wr.drewN nq = w1 at *
        go_wp2
        go_ret
        exact ⟨by rw [e0.out]; rfl, hbel⟩
    · have e0 : Shut (allAt (upB els) 0 els = true) := ⟨by
        have := hA.out
        rwa [List.take_of_length_le (by rw [Hl.out]; omega)] at this⟩
      have t0 : decide ((k : Int) + 1 < (n : Int)) = false := by simp; omega
      go_wp2
      go_ret
      exact ⟨by rw [e0.out]; rfl, hbel⟩
end Go.Proofs.Ytgmbofoneeagiaa
