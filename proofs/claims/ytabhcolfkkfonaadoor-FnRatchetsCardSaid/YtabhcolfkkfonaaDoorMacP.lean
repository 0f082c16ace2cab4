/- The mac of the program. -/
import Derived.Test.YtabhcolfkkfonaaDoorHashP
import Derived.Test.YtabhcolfkkfonaaDoorMaskP
namespace Go.Proofs.YtabhcolfkkfonaaDoor
open Go.RowKit

theorem pts_one {w : World} {g : Nat} {A : Option Addr} {n c : Nat} {l : List Int} (hg : g < w.heap.size) (hc : w.cell? ⟨g, 0, none⟩ = some (.slice A n c)) (h : Bs w A n l) (h0 : A = none → c = 0) : Pts w g [⟨A, n, c, l⟩] :=
  ⟨hg, fun i p hp => by
    cases i with
    | zero => simp at hp; subst hp; exact hc
    | succ i => simp at hp,
   fun i p hp => by
    cases i with
    | zero => simp at hp; subst hp; exact h
    | succ i => simp at hp,
   fun i p hp => by
    cases i with
    | zero => simp at hp; subst hp; exact h0
    | succ i => simp at hp⟩
theorem pts_two {w : World} {g : Nat} {A B : Option Addr} {n c m d : Nat} {l r : List Int} (hg : g < w.heap.size) (hc : w.cell? ⟨g, 0, none⟩ = some (.slice A n c)) (hd : w.cell? ⟨g, 1, none⟩ = some (.slice B m d)) (h : Bs w A n l) (k : Bs w B m r) (h0 : A = none → c = 0) (k0 : B = none → d = 0) : Pts w g [⟨A, n, c, l⟩, ⟨B, m, d, r⟩] :=
  ⟨hg, fun i p hp => by
    rcases i with _ | _ | i
    · simp at hp; subst hp; exact hc
    · simp at hp; subst hp; exact hd
    · simp at hp,
   fun i p hp => by
    rcases i with _ | _ | i
    · simp at hp; subst hp; exact h
    · simp at hp; subst hp; exact k
    · simp at hp,
   fun i p hp => by
    rcases i with _ | _ | i
    · simp at hp; subst hp; exact h0
    · simp at hp; subst hp; exact k0
    · simp at hp⟩
theorem new_one (w : World) (a : Value) (t : TypeId) : (w.alloc (.cells #[a] t)).cell? ⟨w.heap.size, 0, none⟩ = some a := (one_new w a t).1
theorem new_two (w : World) (a b : Value) (t : TypeId) : (w.alloc (.cells #[a, b] t)).cell? ⟨w.heap.size, 0, none⟩ = some a ∧ (w.alloc (.cells #[a, b] t)).cell? ⟨w.heap.size, 1, none⟩ = some b :=
  ⟨(Two.new w t a b).cells.1, (Two.new w t a b).cells.2.1⟩

set_option maxHeartbeats 1000000 in
theorem macParts_any (A : Option Addr) (n c : Nat) (l : List Int) (g m d : Nat) (ps : List Pt) (w : World) (hT : Tabs w) (hk : Bs w A n l) (hn : n ≤ 64) (h : Pts w g ps) (hm : ps.length = m) (hm2 : m ≤ 1000) (hs : sumN ps ≤ 10000000) :
    Calls Tryd.prog 40 #[.slice A n c, .slice (some ⟨g, 0, none⟩) m d] w fun e w' => (∃ A' c', e = .returned (.slice A' 32 c') ∧ Row w' w.heap.size (.slice A' 32 c') (macW l (catL ps))) ∧ Below w.heap.size w w' := by
  have Hm : Shut (macW l (catL ps) = hashW (keyed l 92 64 ++ hashW (keyed l 54 64 ++ catL ps))) := ⟨rfl⟩
  have hbl := hk.byte
  have L1 := Shut.mk (keyed_len l 54 64)
  have L2 := Shut.mk (keyed_len l 92 64)
  go_enter Tryd.func40, Tryd.ntmps40
  go_wp2_with fail
  refine (maskedKey_any A n c l 54 w hk hn).mono ?_
  rintro e w1 ⟨rfl, k1, b1⟩
  have s1 := k1.lt
  go_wp2_with fail
  refine (concat_any g m d ps w1 (h.below b1) hm hm2 (by omega)).mono ?_
  rintro e w2 ⟨⟨A2, c2, rfl, r2⟩, b2⟩
  have s2 := b2.size
  have k2 := k1.below b2 s1
  have B2 := ac b1 b2
  have hcl := catL_len h ps.length (Nat.le_refl _)
  rw [List.take_length] at hcl
  have y1 := (k2.bsn (keyed_byte l 54 64 hbl (by omega) (by omega)) L1.out).alloc (.cells #[.slice (some ⟨w.heap.size, 0, none⟩) 64 64, .slice A2 (sumN ps) c2] 22)
  have y2 := (r2.ow' hcl).bs.alloc (.cells #[.slice (some ⟨w.heap.size, 0, none⟩) 64 64, .slice A2 (sumN ps) c2] 22)
  obtain ⟨n1, n2⟩ := new_two w2 (.slice (some ⟨w.heap.size, 0, none⟩) 64 64) (.slice A2 (sumN ps) c2) 22
  have q1 := pts_two (by rw [World.size_alloc]; omega) n1 n2 y1 y2 (fun e => by cases e) r2.cap0
  have T2 := hT.keep (ab B2 (.cells #[.slice (some ⟨w.heap.size, 0, none⟩) 64 64, .slice A2 (sumN ps) c2] 22))
  have hk2 := hk.below (ab B2 (.cells #[.slice (some ⟨w.heap.size, 0, none⟩) 64 64, .slice A2 (sumN ps) c2] 22))
  have B2a := ab B2 (.cells #[.slice (some ⟨w.heap.size, 0, none⟩) 64 64, .slice A2 (sumN ps) c2] 22)
  have hc1 : catL [(⟨some ⟨w.heap.size, 0, none⟩, 64, 64, keyed l 54 64⟩ : Pt), ⟨A2, sumN ps, c2, catL ps⟩] = keyed l 54 64 ++ catL ps := by simp [catL]
  have hc2 : sumN [(⟨some ⟨w.heap.size, 0, none⟩, 64, 64, keyed l 54 64⟩ : Pt), ⟨A2, sumN ps, c2, catL ps⟩] = 64 + sumN ps := by simp [sumN]
  have HC1 := Shut.mk hc1
  have HC2 := Shut.mk hc2
  clear hc1 hc2 n1 n2 y1 y2 r2 k2 b2 B2
  go_wp2_with fail
  refine (hashParts_any w2.heap.size 2 2 _ _ T2 q1 rfl (by omega) (by rw [HC2.out]; omega)).mono ?_
  rintro e w3 ⟨⟨A3, c3, rfl, r3⟩, b3⟩
  rw [HC1.out] at r3
  have B3 := ac B2a b3
  have s3 := B3.size
  have o3 := r3.ow' (hashW_len _)
  have hk3 := hk2.below b3
  clear q1 T2 hk2 B2a b3 HC1 HC2
  go_wp2_with fail
  refine (maskedKey_any A n c l 92 w3 hk3 hn).mono ?_
  rintro e w4 ⟨rfl, k4, b4⟩
  have s4 := k4.lt
  have B4 := ac B3 b4
  have y1 := (k4.bsn (keyed_byte l 92 64 hbl (by omega) (by omega)) L2.out).alloc (.cells #[.slice (some ⟨w3.heap.size, 0, none⟩) 64 64, .slice A3 32 c3] 22)
  have y2 := (o3.bs.below b4).alloc (.cells #[.slice (some ⟨w3.heap.size, 0, none⟩) 64 64, .slice A3 32 c3] 22)
  obtain ⟨n1, n2⟩ := new_two w4 (.slice (some ⟨w3.heap.size, 0, none⟩) 64 64) (.slice A3 32 c3) 22
  have q1 := pts_two (by rw [World.size_alloc]; omega) n1 n2 y1 y2 (fun e => by cases e) r3.cap0
  have T4 := hT.keep (ab B4 (.cells #[.slice (some ⟨w3.heap.size, 0, none⟩) 64 64, .slice A3 32 c3] 22))
  have hc1 : catL [(⟨some ⟨w3.heap.size, 0, none⟩, 64, 64, keyed l 92 64⟩ : Pt), ⟨A3, 32, c3, hashW (keyed l 54 64 ++ catL ps)⟩] = keyed l 92 64 ++ hashW (keyed l 54 64 ++ catL ps) := by simp [catL]
  have hc2 : sumN [(⟨some ⟨w3.heap.size, 0, none⟩, 64, 64, keyed l 92 64⟩ : Pt), ⟨A3, 32, c3, hashW (keyed l 54 64 ++ catL ps)⟩] = 96 := by simp [sumN]
  have HC1 := Shut.mk hc1
  have HC2 := Shut.mk hc2
  clear hc1 hc2 n1 n2 y1 y2 r3 o3 k4 hk3
  go_wp2_with fail
  refine (hashParts_any w4.heap.size 2 2 _ _ T4 q1 rfl (by omega) (by rw [HC2.out]; omega)).mono ?_
  rintro e w5 ⟨⟨A5, c5, rfl, r5⟩, b5⟩
  rw [HC1.out, ← Hm.out] at r5
  have B5 := ac (ab B4 (.cells #[.slice (some ⟨w3.heap.size, 0, none⟩) 64 64, .slice A3 32 c3] 22)) b5
  go_wp2
  go_ret
  exact ⟨⟨A5, c5, rfl, r5.mono (by have := B4.size; rw [World.size_alloc]; omega)⟩, B5⟩
end Go.Proofs.YtabhcolfkkfonaaDoor
