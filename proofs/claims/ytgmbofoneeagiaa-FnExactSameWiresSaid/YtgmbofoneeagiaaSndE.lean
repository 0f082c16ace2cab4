/- Whether two senders are the same: of the model and of the program. -/
import Derived.Test.YtgmbofoneeagiaaPartC
namespace Go.Proofs.Ytgmbofoneeagiaa
open Go.RowKit

theorem take_eq_succ {E : Type} {a b : List E} {k : Nat} {x y : E} (h : a.take k = b.take k) (ha : a[k]? = some x) (hb : b[k]? = some y) (e : x = y) : a.take (k + 1) = b.take (k + 1) := by
  rw [List.take_add_one, List.take_add_one, h, ha, hb, e]
theorem ne_at {E : Type} {a b : List E} {k : Nat} {x y : E} (ha : a[k]? = some x) (hb : b[k]? = some y) (e : x ≠ y) : a ≠ b := fun h => by
  subst h
  rw [ha] at hb
  injection hb with hb
  exact e hb

def PartD.same (a b : PartD) : Bool := decide (a.f1 = b.f1 ∧ a.f2 = b.f2 ∧ a.f3 = b.f3 ∧ a.f0 = b.f0)
theorem PartD.same_iff (a b : PartD) : a.same b = true ↔ a = b := by
  cases a; cases b
  simp [PartD.same]
  constructor
  · rintro ⟨rfl, rfl, rfl, rfl⟩; exact ⟨rfl, rfl, rfl, rfl⟩
  · rintro ⟨rfl, rfl, rfl, rfl⟩; exact ⟨rfl, rfl, rfl, rfl⟩

set_option maxHeartbeats 1000000 in
theorem partSame_any (e e' : PartD) (A A' : Option Addr) (n c n' c' : Nat) (w : World) (h : Bs w A n e.f0) (h' : Bs w A' n' e'.f0) :
    Calls Try.prog 125 #[.agg #[.slice A n c, .bool e.f1, .int .i64 e.f2, .bool e.f3], .agg #[.slice A' n' c', .bool e'.f1, .int .i64 e'.f2, .bool e'.f3]] w fun x w' => x = .returned (.bool (e.same e')) ∧ Below w.heap.size w w' := by
  obtain ⟨l, b1, i2, b3⟩ := e
  obtain ⟨l', b1', i2', b3'⟩ := e'
  simp only at h h'
  have hS := fun W (a : Below w.heap.size w W) => implSameBytes_any A A' n c n' c' l l' W (h.below a) (h'.below a)
  obtain ⟨z, hz⟩ : ∃ z, z = PartD.same ⟨l, b1, i2, b3⟩ ⟨l', b1', i2', b3'⟩ := ⟨_, rfl⟩
  rw [← hz]
  simp only [PartD.same] at hz
  by_cases q1 : b1 = b1'
  · subst q1
    by_cases q2 : i2 = i2'
    · subst q2
      by_cases q3 : b3 = b3'
      · subst q3
        have t3 : (b3 == b3) = true := by simp
        have B0 := ab (ab (Below.refl _ w) (.cells #[.slice A n c, .bool b1, .int .i64 i2, .bool b3] 77)) (.cells #[.slice A' n' c', .bool b1, .int .i64 i2, .bool b3] 77)
        have E : Shut (z = decide (l = l')) := ⟨by rw [hz]; simp⟩
        clear hz
        go_enter Try.func125, Try.ntmps125
        go_wp2_with fail
        refine (hS _ B0).mono ?_
        rintro x w1 ⟨rfl, rfl⟩
        go_wp2
        go_ret
        exact ⟨by rw [E.out]; rfl, B0⟩
      · have t3 : (b3 == b3') = false := by simpa using q3
        have E : Shut (z = false) := ⟨by rw [hz]; simp [q3]⟩
        clear hz
        clear q3
        go_enter Try.func125, Try.ntmps125
        go_wp2
        go_ret
        exact ⟨by rw [E.out]; rfl, by go_grown⟩
    · have t3 : (i2 == i2') = false := by simpa using q2
      have E : Shut (z = false) := ⟨by rw [hz]; simp [q2]⟩
      clear hz
      clear q2
      go_enter Try.func125, Try.ntmps125
      go_wp2
      go_ret
      exact ⟨by rw [E.out]; rfl, by go_grown⟩
  · have t3 : (b1 == b1') = false := by simpa using q1
    have E : Shut (z = false) := ⟨by rw [hz]; simp [q1]⟩
    clear hz
    clear q1
    go_enter Try.func125, Try.ntmps125
    go_wp2
    go_ret
    exact ⟨by rw [E.out]; rfl, by go_grown⟩

set_option maxHeartbeats 2000000 in
theorem partEqual_any (z : Bool) (A A' : Option Addr) (n c n' c' : Nat) (els els' : List PartD) (w : World) (h : Lst PartD.cels 4 w A n els) (h' : Lst PartD.cels 4 w A' n' els') (hn : n ≤ 1048576) (hn' : n' ≤ 1048576) (hz : z = true ↔ els = els') :
    Calls Try.prog 124 #[.slice A n c, .slice A' n' c', .func (.func 125) #[] #[]] w fun x w' => x = .returned (.bool z) ∧ Below w.heap.size w w' := by
  have Hl := Shut.mk h.len
  have Hl' := Shut.mk h'.len
  by_cases hnn : n = n'
  rotate_left
  · have E : Shut (z = false) := ⟨by
      cases z with
      | false => rfl
      | true => exact absurd (by rw [← Hl.out, ← Hl'.out, hz.1 rfl]) hnn⟩
    have t0 : ((n : Int) != (n' : Int)) = true := by simp; omega
    clear hz hnn
    go_enter Try.func124, Try.ntmps124
    go_wp2
    go_ret
    exact ⟨by rw [E.out]; rfl, Below.refl _ _⟩
  subst hnn
  have Hz := Shut.mk hz
  clear hz
  go_enter Try.func124, Try.ntmps124
  go_wp2
  go_loopw [17] (fun i wr => ∃ k : Nat, k ≤ n ∧ i = .int .i64 k ∧ Shut (els.take k = els'.take k) ∧ Below w.heap.size w wr) (fun i _ => n - (intOf i).toNat)
  case atStart => exact ⟨0, Nat.zero_le _, rfl, ⟨rfl⟩, Below.refl _ _⟩
  case round =>
    obtain ⟨k, hk, rfl, hT, hbel⟩ := hrel
    by_cases hlt : k < n
    · obtain ⟨b, off, e, B, m, d, rfl, hbs, he, g0, g1, g2, g3, hB, hz⟩ := h.getPart hlt
      obtain ⟨b', off', e', B', m', d', rfl, hbs', he', g0', g1', g2', g3', hB', hz'⟩ := h'.getPart hlt
      have hb' := bcell hbel
      have hl2 : b' < wr.heap.size := by have := hbel.size; omega
      have htp := fun W (hh : Below w.heap.size w W) => partSame_any e e' B B' m d m' d' W (hB.below hh) (hB'.below hh)
      clear h h' hB hB'
      by_cases hq : e = e'
      · have hs : e.same e' = true := (PartD.same_iff _ _).2 hq
        have hT' := Shut.mk (take_eq_succ hT.out he.out he'.out hq)
        rw [hs] at htp
        clear hs hq
        go_wp2_with fail
        refine (htp _ (ab (ab hbel _) _)).mono ?_
        rintro x w1 ⟨rfl, b1⟩
        go_wp2
        go_roundw
        case rel => exact ⟨k + 1, by omega, by go_num, hT', ac (ab (ab hbel _) _) b1⟩
        case measure => simp [intOf]; omega
      · have hs : e.same e' = false := by
          cases hh : e.same e' with
          | false => rfl
          | true => exact absurd ((PartD.same_iff _ _).1 hh) hq
        have E : Shut (z = false) := ⟨by
          cases hh : z with
          | false => rfl
          | true => exact absurd (Hz.out.1 hh) (ne_at he.out he'.out hq)⟩
        rw [hs] at htp
        clear hs hq
        go_wp2_with fail
        refine (htp _ (ab (ab hbel _) _)).mono ?_
        rintro x w1 ⟨rfl, b1⟩
        go_wp2
        go_ret
        exact ⟨by rw [E.out]; rfl, ac (ab (ab hbel _) _) b1⟩
    · obtain rfl : k = n := by omega
      have E : Shut (z = true) := ⟨by
        have := hT.out
        rw [List.take_of_length_le (by rw [Hl.out]; exact Nat.le_refl _), List.take_of_length_le (by rw [Hl'.out]; exact Nat.le_refl _)] at this
        exact Hz.out.2 this⟩
      clear h h'
      go_wp2
      go_ret
      exact ⟨by rw [E.out]; rfl, hbel⟩

set_option maxHeartbeats 1000000 in
theorem implSameSenders_any (z : Bool) (x x' : Int) (A A' : Option Addr) (n c n' c' : Nat) (els els' : List PartD) (w : World) (h : Lst PartD.cels 4 w A n els) (h' : Lst PartD.cels 4 w A' n' els') (hn : n ≤ 1048576) (hn' : n' ≤ 1048576) (hz : z = true ↔ x = x' ∧ els = els') :
    Calls Try.prog 39 #[.agg #[.int .i64 x, .slice A n c], .agg #[.int .i64 x', .slice A' n' c']] w fun e w' => e = .returned (.bool z) ∧ Below w.heap.size w w' := by
  by_cases hx : x = x'
  · subst hx
    have hE := fun W (hh : Below w.heap.size w W) => partEqual_any z A A' n c n' c' els els' W (h.below hh) (h'.below hh) hn hn' (by rw [hz]; simp)
    have B0 := ab (ab (Below.refl _ w) (.cells #[.int .i64 x, .slice A n c] 58)) (.cells #[.int .i64 x, .slice A' n' c'] 58)
    clear hz h h'
    go_enter Try.func39, Try.ntmps39
    go_wp2_with fail
    refine (hE _ B0).mono ?_
    rintro e w1 ⟨rfl, b1⟩
    go_wp2
    go_ret
    exact ⟨rfl, ac B0 b1⟩
  · have E : Shut (z = false) := ⟨by
      cases hh : z with
      | false => rfl
      | true => exact absurd (hz.1 hh).1 hx⟩
    have t0 : (x == x') = false := by simpa using hx
    clear hz hx h h'
    go_enter Try.func39, Try.ntmps39
    go_wp2
    go_ret
    exact ⟨by rw [E.out]; rfl, by go_grown⟩
end Go.Proofs.Ytgmbofoneeagiaa
