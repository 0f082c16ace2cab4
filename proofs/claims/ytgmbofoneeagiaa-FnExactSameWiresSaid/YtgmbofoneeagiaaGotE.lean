/- Whether two lists of runs of bytes are the same: of the model and of the program. -/
import Derived.Test.YtgmbofoneeagiaaBytC
import Derived.Test.YtgmbofoneeagiaaSndE
namespace Go.Proofs.Ytgmbofoneeagiaa
open Go.RowKit

set_option maxHeartbeats 2000000 in
theorem gotEqual_any (z : Bool) (A A' : Option Addr) (n c n' c' : Nat) (els els' : List (List Int)) (w : World) (h : Lst bytC 1 w A n els) (h' : Lst bytC 1 w A' n' els') (hn : n ≤ 1048576) (hn' : n' ≤ 1048576) (hz : z = true ↔ els = els') :
    Calls Try.prog 90 #[.slice A n c, .slice A' n' c', .func (.func 91) #[] #[]] w fun x w' => x = .returned (.bool z) ∧ Below w.heap.size w w' := by
  have Hl := Shut.mk h.len
  have Hl' := Shut.mk h'.len
  by_cases hnn : n = n'
  rotate_left
  · have E : Shut (z = false) := ⟨by
      cases z with
      | false => rfl
      | true => exact absurd (by rw [← Hl.out, ← Hl'.out, hz.1 rfl]) hnn⟩
    have t0 : ((n : Int) != (n' : Int)) = true := by simp; omega
    clear hz hnn
    go_enter Try.func90, Try.ntmps90
    go_wp2
    go_ret
    exact ⟨by rw [E.out]; rfl, Below.refl _ _⟩
  subst hnn
  have Hz := Shut.mk hz
  clear hz
  go_enter Try.func90, Try.ntmps90
  go_wp2
  go_loopw [17] (fun i wr => ∃ k : Nat, k ≤ n ∧ i = .int .i64 k ∧ Shut (els.take k = els'.take k) ∧ Below w.heap.size w wr) (fun i _ => n - (intOf i).toNat)
  case atStart => exact ⟨0, Nat.zero_le _, rfl, ⟨rfl⟩, Below.refl _ _⟩
  case round =>
    obtain ⟨k, hk, rfl, hT, hbel⟩ := hrel
    by_cases hlt : k < n
    · obtain ⟨b, off, e, B, m, d, rfl, hbs, he, g0, hB, hz⟩ := h.getByt hlt
      obtain ⟨b', off', e', B', m', d', rfl, hbs', he', g0', hB', hz'⟩ := h'.getByt hlt
      have hb' := bcell hbel
      have hl2 : b' < wr.heap.size := by have := hbel.size; omega
      have htp := fun W (hh : Below w.heap.size w W) => implSameBytes_any B B' m d m' d' e e' W (hB.below hh) (hB'.below hh)
      clear h h' hB hB'
      by_cases hq : e = e'
      · have hT' := Shut.mk (take_eq_succ hT.out he.out he'.out hq)
        rw [decide_eq_true hq] at htp
        clear hq
        go_wp2_with fail
        refine (htp _ hbel).mono ?_
        rintro x w1 ⟨rfl, rfl⟩
        go_wp2
        go_roundw
        case rel => exact ⟨k + 1, by omega, by go_num, hT', hbel⟩
        case measure => simp [intOf]; omega
      · have E : Shut (z = false) := ⟨by
          cases hh : z with
          | false => rfl
          | true => exact absurd (Hz.out.1 hh) (ne_at he.out he'.out hq)⟩
        rw [decide_eq_false hq] at htp
        clear hq
        go_wp2_with fail
        refine (htp _ hbel).mono ?_
        rintro x w1 ⟨rfl, rfl⟩
        go_wp2
        go_ret
        exact ⟨by rw [E.out]; rfl, hbel⟩
    · obtain rfl : k = n := by omega
      have E : Shut (z = true) := ⟨by
        have := hT.out
        rw [List.take_of_length_le (by rw [Hl.out]; exact Nat.le_refl _), List.take_of_length_le (by rw [Hl'.out]; exact Nat.le_refl _)] at this
        exact Hz.out.2 this⟩
      clear h h'
      go_wp2
      go_ret
      exact ⟨by rw [E.out]; rfl, hbel⟩

end Go.Proofs.Ytgmbofoneeagiaa
