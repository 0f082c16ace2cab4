/- Whether two receivers are the same: of the model and of the program. -/
import Derived.Test.YtjpnacgdefgalaaHeldC
import Derived.Test.YtjpnacgdefgalaaSndE
namespace Go.Proofs.Ytjpnacgdefgalaa
open Go.RowKit

def HeldD.same (a b : HeldD) : Bool := decide (a.f0 = b.f0 ∧ a.f2 = b.f2 ∧ a.f1 = b.f1)
theorem HeldD.same_iff (a b : HeldD) : a.same b = true ↔ a = b := by
  cases a; cases b
  simp [HeldD.same]
  intro _
  exact And.comm

set_option maxHeartbeats 1000000 in
theorem heldSame_any (e e' : HeldD) (A A' : Option Addr) (n c n' c' : Nat) (w : World) (h : Bs w A n e.f1) (h' : Bs w A' n' e'.f1) :
    Calls Try.prog 153 #[.agg #[.int .i64 e.f0, .slice A n c, .bool e.f2], .agg #[.int .i64 e'.f0, .slice A' n' c', .bool e'.f2]] w fun x w' => x = .returned (.bool (e.same e')) ∧ Below w.heap.size w w' := by
  obtain ⟨i0, l, b2⟩ := e
  obtain ⟨i0', l', b2'⟩ := e'
  simp only at h h'
  have hS := fun W (a : Below w.heap.size w W) => implSameBytes_any A A' n c n' c' l l' W (h.below a) (h'.below a)
  obtain ⟨z, hz⟩ : ∃ z, z = HeldD.same ⟨i0, l, b2⟩ ⟨i0', l', b2'⟩ := ⟨_, rfl⟩
  rw [← hz]
  simp only [HeldD.same] at hz
  by_cases q2 : i0 = i0'
  · subst q2
    by_cases q3 : b2 = b2'
    · subst q3
      have t3 : (b2 == b2) = true := by simp
      have B0 := ab (ab (Below.refl _ w) (.cells #[.int .i64 i0, .slice A n c, .bool b2] 148)) (.cells #[.int .i64 i0, .slice A' n' c', .bool b2] 148)
      have E : Shut (z = decide (l = l')) := ⟨by rw [hz]; simp⟩
      clear hz
      go_enter Try.func153, Try.ntmps153
      go_wp2_with fail
      refine (hS _ B0).mono ?_
      rintro x w1 ⟨rfl, rfl⟩
      go_wp2
      go_ret
      exact ⟨by rw [E.out]; rfl, B0⟩
    · have t3 : (b2 == b2') = false := by simpa using q3
      have E : Shut (z = false) := ⟨by rw [hz]; simp [q3]⟩
      clear q3 hz
      go_enter Try.func153, Try.ntmps153
      go_wp2
      go_ret
      exact ⟨by rw [E.out]; rfl, by go_grown⟩
  · have t3 : (i0 == i0') = false := by simpa using q2
    have E : Shut (z = false) := ⟨by rw [hz]; simp [q2]⟩
    clear q2 hz
    go_enter Try.func153, Try.ntmps153
    go_wp2
    go_ret
    exact ⟨by rw [E.out]; rfl, by go_grown⟩

set_option maxHeartbeats 2000000 in
theorem heldEqual_any (z : Bool) (A A' : Option Addr) (n c n' c' : Nat) (els els' : List HeldD) (w : World) (h : Lst HeldD.cels 3 w A n els) (h' : Lst HeldD.cels 3 w A' n' els') (hn : n ≤ 1048576) (hn' : n' ≤ 1048576) (hz : z = true ↔ els = els') :
    Calls Try.prog 152 #[.slice A n c, .slice A' n' c', .func (.func 153) #[] #[]] w fun x w' => x = .returned (.bool z) ∧ Below w.heap.size w w' := by
  have Hl := Shut.mk h.len
  have Hl' := Shut.mk h'.len
  by_cases hnn : n = n'
  rotate_left
  · have E : Shut (z = false) := ⟨by
      cases z with
      | false => rfl
      | true => exact absurd (by rw [← Hl.out, ← Hl'.out, hz.1 rfl]) hnn⟩
    have t0 : ((n : Int) != (n' : Int)) = true := by simp; omega
    clear hz hnn
    go_enter Try.func152, Try.ntmps152
    go_wp2
    go_ret
    exact ⟨by rw [E.out]; rfl, Below.refl _ _⟩
  subst hnn
  have Hz := Shut.mk hz
  clear hz
  go_enter Try.func152, Try.ntmps152
  go_wp2
  go_loopw [17] (fun i wr => ∃ k : Nat, k ≤ n ∧ i = .int .i64 k ∧ Shut (els.take k = els'.take k) ∧ Below w.heap.size w wr) (fun i _ => n - (intOf i).toNat)
  case atStart => exact ⟨0, Nat.zero_le _, rfl, ⟨rfl⟩, Below.refl _ _⟩
  case round =>
    obtain ⟨k, hk, rfl, hT, hbel⟩ := hrel
    by_cases hlt : k < n
    · obtain ⟨b, off, e, B, m, d, rfl, hbs, he, g0, g1, g2, hB, hz⟩ := h.getHeld hlt
      obtain ⟨b', off', e', B', m', d', rfl, hbs', he', g0', g1', g2', hB', hz'⟩ := h'.getHeld hlt
      have hb' := bcell hbel
      have hl2 : b' < wr.heap.size := by have := hbel.size; omega
      have htp := fun W (hh : Below w.heap.size w W) => heldSame_any e e' B B' m d m' d' W (hB.below hh) (hB'.below hh)
      clear h h' hB hB'
      by_cases hq : e = e'
      · have hs : e.same e' = true := (HeldD.same_iff _ _).2 hq
        have hT' := Shut.mk (take_eq_succ hT.out he.out he'.out hq)
        rw [hs] at htp
        clear hs hq
        go_wp2_with fail
        refine (htp _ (ab (ab hbel _) _)).mono ?_
        rintro x w1 ⟨rfl, b1⟩
        go_wp2
        go_roundw
        case rel => exact ⟨k + 1, by omega, by go_num, hT', ac (ab (ab hbel _) _) b1⟩
        case measure => simp [intOf]; omega
      · have hs : e.same e' = false := by
          cases hh : e.same e' with
          | false => rfl
          | true => exact absurd ((HeldD.same_iff _ _).1 hh) hq
        have E : Shut (z = false) := ⟨by
          cases hh : z with
          | false => rfl
          | true => exact absurd (Hz.out.1 hh) (ne_at he.out he'.out hq)⟩
        rw [hs] at htp
        clear hs hq
        go_wp2_with fail
        refine (htp _ (ab (ab hbel _) _)).mono ?_
        rintro x w1 ⟨rfl, b1⟩
        go_wp2
        go_ret
        exact ⟨by rw [E.out]; rfl, ac (ab (ab hbel _) _) b1⟩
    · obtain rfl : k = n := by omega
      have E : Shut (z = true) := ⟨by
        have := hT.out
        rw [List.take_of_length_le (by rw [Hl.out]; exact Nat.le_refl _), List.take_of_length_le (by rw [Hl'.out]; exact Nat.le_refl _)] at this
        exact Hz.out.2 this⟩
      clear h h'
      go_wp2
      go_ret
      exact ⟨by rw [E.out]; rfl, hbel⟩

set_option maxHeartbeats 1000000 in
theorem implSameReceivers_any (z : Bool) (x x' : Int) (A A' : Option Addr) (n c n' c' : Nat) (els els' : List HeldD) (P P' : Option Addr) (np cp np' cp' : Nat) (l l' : List Int) (w : World) (h : Lst HeldD.cels 3 w A n els) (h' : Lst HeldD.cels 3 w A' n' els') (hp : Bs w P np l) (hp' : Bs w P' np' l') (hn : n ≤ 1048576) (hn' : n' ≤ 1048576) (hz : z = true ↔ x = x' ∧ els = els' ∧ l = l') :
    Calls Try.prog 73 #[.agg #[.int .i64 x, .slice A n c, .slice P np cp], .agg #[.int .i64 x', .slice A' n' c', .slice P' np' cp']] w fun e w' => e = .returned (.bool z) ∧ Below w.heap.size w w' := by
  have hS := fun W (a : Below w.heap.size w W) => implSameBytes_any P P' np cp np' cp' l l' W (hp.below a) (hp'.below a)
  have F1 : ∀ q : Prop, (z = true → q) → ¬ q → Shut (z = false) := fun q h1 h2 => ⟨by
    cases hh : z with
    | false => rfl
    | true => exact absurd (h1 hh) h2⟩
  by_cases hx : x = x'
  · subst hx
    by_cases hl : l = l'
    · have hE := fun W (hh : Below w.heap.size w W) => heldEqual_any z A A' n c n' c' els els' W (h.below hh) (h'.below hh) hn hn' (by rw [hz]; simp [hl])
      have B0 := ab (ab (Below.refl _ w) (.cells #[.int .i64 x, .slice A n c, .slice P np cp] 39)) (.cells #[.int .i64 x, .slice A' n' c', .slice P' np' cp'] 39)
      have hl' := Shut.mk hl
      rw [decide_eq_true hl] at hS
      clear hz h h' hp hp' F1 hl
      go_enter Try.func73, Try.ntmps73
      go_wp2_with fail
      refine (hS _ B0).mono ?_
      rintro e w1 ⟨rfl, rfl⟩
      go_wp2_with fail
      refine (hE _ B0).mono ?_
      rintro e w1 ⟨rfl, b1⟩
      go_wp2
      go_ret
      exact ⟨rfl, ac B0 b1⟩
    · have E := F1 _ (fun hh => (hz.1 hh).2.2) hl
      have B0 := ab (ab (Below.refl _ w) (.cells #[.int .i64 x, .slice A n c, .slice P np cp] 39)) (.cells #[.int .i64 x, .slice A' n' c', .slice P' np' cp'] 39)
      rw [decide_eq_false hl] at hS
      clear hz h h' hp hp' F1 hl
      go_enter Try.func73, Try.ntmps73
      go_wp2_with fail
      refine (hS _ B0).mono ?_
      rintro e w1 ⟨rfl, rfl⟩
      go_wp2
      go_ret
      exact ⟨by rw [E.out]; rfl, B0⟩
  · have E := F1 _ (fun hh => (hz.1 hh).1) hx
    have t0 : (x == x') = false := by simpa using hx
    clear hz hx h h' hp hp' F1 hS
    go_enter Try.func73, Try.ntmps73
    go_wp2
    go_ret
    exact ⟨by rw [E.out]; rfl, by go_grown⟩
end Go.Proofs.Ytjpnacgdefgalaa
