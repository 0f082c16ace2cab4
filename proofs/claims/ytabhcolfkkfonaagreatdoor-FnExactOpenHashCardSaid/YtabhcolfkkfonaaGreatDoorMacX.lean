import Derived.Test.YtabhcolfkkfonaaGreatDoorBase
import Derived.Test.YtabhcolfkkfonaaGreatDoorMakX
import Derived.Test.YtabhcolfkkfonaaGreatDoorPadX

/-! MaskP -/
/- A key, masked, of the program. -/
namespace Go.Proofs.YtabhcolfkkfonaaGreatDoor
open Go.RowKit

/-- 64 bytes, the first m of them xored with x -/
def masked (l : List Int) (x : Int) (m : Nat) : List Int := (List.range 64).map fun i => if i < m then bits BinOp.xor IntKind.u8 (l.getD i 0) x else l.getD i 0
theorem masked_len (l : List Int) (x : Int) (m : Nat) : (masked l x m).length = 64 := by simp [masked]
theorem masked_get? (l : List Int) (x : Int) (m i : Nat) (hi : i < 64) : (masked l x m)[i]? = some (if i < m then bits BinOp.xor IntKind.u8 (l.getD i 0) x else l.getD i 0) := by
  unfold masked
  rw [List.getElem?_map, List.getElem?_range hi]; rfl
theorem masked_get (l : List Int) (x : Int) (m : Nat) (h : m < 64) : (masked l x m).getD m 0 = l.getD m 0 := by
  rw [List.getD, masked_get? l x m m h, if_neg (by omega)]; rfl
theorem masked_zero (l : List Int) (x : Int) (h : l.length ≤ 64) : laidOver (List.replicate 64 0) 0 l = masked l x 0 := by
  apply List.ext_getElem?
  intro i
  rcases Nat.lt_or_ge i 64 with hi | hi
  · rw [masked_get? l x 0 i hi, if_neg (by omega)]
    unfold laidOver
    rw [List.take_zero, List.nil_append, Nat.zero_add, List.drop_replicate]
    rcases Nat.lt_or_ge i l.length with h1 | h1
    · rw [List.getElem?_append_left h1]
      simp [List.getD, List.getElem?_eq_getElem h1]
    · rw [List.getElem?_append_right h1, List.getElem?_replicate, if_pos (by omega)]
      simp [List.getD, List.getElem?_eq_none h1]
  · rw [List.getElem?_eq_none (by rw [laidOver_len _ _ _ (by simpa using h)]; simpa using hi), List.getElem?_eq_none (by rw [masked_len]; exact hi)]
theorem masked_set (l : List Int) (x : Int) (m : Nat) (h : m < 64) : (masked l x m).set m (bits BinOp.xor IntKind.u8 (l.getD m 0) x) = masked l x (m + 1) := by
  apply List.ext_getElem?
  intro i
  rcases Nat.lt_or_ge i 64 with hi | hi
  · rw [masked_get? l x (m + 1) i hi]
    by_cases e : m = i
    · subst e
      rw [List.getElem?_set_self (by rw [masked_len]; exact h), if_pos (by omega)]
    · rw [List.getElem?_set_ne e, masked_get? l x m i hi]
      by_cases hl : i < m
      · rw [if_pos hl, if_pos (by omega)]
      · rw [if_neg hl, if_neg (by omega)]
  · rw [List.getElem?_eq_none (by rw [List.length_set, masked_len]; exact hi), List.getElem?_eq_none (by rw [masked_len]; exact hi)]
theorem masked_all (l : List Int) (x : Int) : masked l x 64 = keyed l x 64 := by
  unfold masked keyed
  apply List.map_congr_left
  intro i hi
  have : i < 64 := by simpa using hi
  rw [if_pos this, if_pos this]

set_option maxHeartbeats 1000000 in
theorem maskedKey_any (A : Option Addr) (n c : Nat) (l : List Int) (x : Int) (w : World) (h : Bs w A n l) (hn : n ≤ 64) :
    Calls Tryz.prog 208 #[.slice A n c, .int .u8 x] w fun e w' => e = .returned (.slice (some ⟨w.heap.size, 0, none⟩) 64 64) ∧ Blk w' w.heap.size (keyed l x 64) ∧ Below w.heap.size w w' := by
  have HN := Shut.mk h.len
  have hmk : ∀ W : World, (Instr.makeSlice 22 (.int .i64 64) (.int .i64 64)).run Tryz.prog W = .ok (.slice (some ⟨W.heap.size, 0, none⟩) 64 64) (W.alloc (.cells (zeroB 64) 5)) := fun W => run_make_bytes 64 (by omega) W
  have Hz := Shut.mk (masked_zero l x (by rw [HN.out]; exact hn))
  have Hall := Shut.mk (masked_all l x)
  go_enter Tryz.func208, Tryz.ntmps208
  go_wp2_with (refine wpList_copyb rfl _ _ rfl _ w.heap.size 0 64 64 A n c (List.replicate 64 0) l rfl rfl (Blk.zeroB w 64) (h.alloc _) hn (by rw [List.length_replicate]; omega) w.heap.size w (ab (Below.refl _ _) _) (Nat.le_refl _) ?_; intro w1 k1 b1; clear hmk)
  rw [Hz.out] at k1
  go_loopw [13] (fun i wr => ∃ k : Nat, k ≤ 64 ∧ i = .int .i64 (k : Int) ∧ Blk wr w.heap.size (masked l x k) ∧ Below w.heap.size w wr) (fun i _ => 64 - (intOf i).toNat)
  case atStart => exact ⟨0, by omega, rfl, k1, b1⟩
  case round =>
    clear k1 b1
    obtain ⟨k, hk, rfl, k1, b1⟩ := hrel
    by_cases hlt : k < 64
    · have hc := k1.cell (i := k) (by rw [masked_len]; exact hlt)
      rw [masked_get l x k hlt] at hc
      have hf := k1.frozen k
      have Hs := Shut.mk (masked_set l x k hlt)
      generalize l.getD k 0 = Y at *
      have hki : (k : Int) < 64 := by omega
      go_wp2
      refine ⟨⟨k + 1, by omega, by go_num, ?_, b1.setCell (Nat.le_refl _) _⟩, by simp [intOf]; omega⟩
      rw [← Hs.out]
      exact k1.set_ k _
    · obtain rfl : k = 64 := by omega
      rw [Hall.out] at k1
      go_wp2
      go_ret
      exact ⟨rfl, k1, b1⟩
end Go.Proofs.YtabhcolfkkfonaaGreatDoor

/-! MacP -/
/- The mac of the program. -/
namespace Go.Proofs.YtabhcolfkkfonaaGreatDoor
open Go.RowKit

theorem pts_one {w : World} {g : Nat} {A : Option Addr} {n c : Nat} {l : List Int} (hg : g < w.heap.size) (hc : w.cell? ⟨g, 0, none⟩ = some (.slice A n c)) (h : Bs w A n l) (h0 : A = none → c = 0) : Pts w g [⟨A, n, c, l⟩] :=
  ⟨hg, fun i p hp => by
    cases i with
    | zero => simp at hp; subst hp; exact hc
    | succ i => simp at hp,
   fun i p hp => by
    cases i with
    | zero => simp at hp; subst hp; exact h
    | succ i => simp at hp,
   fun i p hp => by
    cases i with
    | zero => simp at hp; subst hp; exact h0
    | succ i => simp at hp⟩
theorem pts_two {w : World} {g : Nat} {A B : Option Addr} {n c m d : Nat} {l r : List Int} (hg : g < w.heap.size) (hc : w.cell? ⟨g, 0, none⟩ = some (.slice A n c)) (hd : w.cell? ⟨g, 1, none⟩ = some (.slice B m d)) (h : Bs w A n l) (k : Bs w B m r) (h0 : A = none → c = 0) (k0 : B = none → d = 0) : Pts w g [⟨A, n, c, l⟩, ⟨B, m, d, r⟩] :=
  ⟨hg, fun i p hp => by
    rcases i with _ | _ | i
    · simp at hp; subst hp; exact hc
    · simp at hp; subst hp; exact hd
    · simp at hp,
   fun i p hp => by
    rcases i with _ | _ | i
    · simp at hp; subst hp; exact h
    · simp at hp; subst hp; exact k
    · simp at hp,
   fun i p hp => by
    rcases i with _ | _ | i
    · simp at hp; subst hp; exact h0
    · simp at hp; subst hp; exact k0
    · simp at hp⟩
theorem new_one (w : World) (a : Value) (t : TypeId) : (w.alloc (.cells #[a] t)).cell? ⟨w.heap.size, 0, none⟩ = some a := (one_new w a t).1
theorem new_two (w : World) (a b : Value) (t : TypeId) : (w.alloc (.cells #[a, b] t)).cell? ⟨w.heap.size, 0, none⟩ = some a ∧ (w.alloc (.cells #[a, b] t)).cell? ⟨w.heap.size, 1, none⟩ = some b :=
  ⟨(Two.new w t a b).cells.1, (Two.new w t a b).cells.2.1⟩

set_option maxHeartbeats 1000000 in
theorem macParts_any (A : Option Addr) (n c : Nat) (l : List Int) (g m d : Nat) (ps : List Pt) (w : World) (hT : Tabs w) (hk : Bs w A n l) (hn : n ≤ 64) (h : Pts w g ps) (hm : ps.length = m) (hm2 : m ≤ 1000) (hs : sumN ps ≤ 10000000) :
    Calls Tryz.prog 183 #[.slice A n c, .slice (some ⟨g, 0, none⟩) m d] w fun e w' => (∃ A' c', e = .returned (.slice A' 32 c') ∧ Row w' w.heap.size (.slice A' 32 c') (macW l (catL ps))) ∧ Below w.heap.size w w' := by
  have Hm : Shut (macW l (catL ps) = hashW (keyed l 92 64 ++ hashW (keyed l 54 64 ++ catL ps))) := ⟨rfl⟩
  have hbl := hk.byte
  have L1 := Shut.mk (keyed_len l 54 64)
  have L2 := Shut.mk (keyed_len l 92 64)
  go_enter Tryz.func183, Tryz.ntmps183
  go_wp2_with fail
  refine (maskedKey_any A n c l 54 w hk hn).mono ?_
  rintro e w1 ⟨rfl, k1, b1⟩
  have s1 := k1.lt
  go_wp2_with fail
  refine (concat_any g m d ps w1 (h.below b1) hm hm2 (by omega)).mono ?_
  rintro e w2 ⟨⟨A2, c2, rfl, r2⟩, b2⟩
  have s2 := b2.size
  have k2 := k1.below b2 s1
  have B2 := ac b1 b2
  have hcl := catL_len h ps.length (Nat.le_refl _)
  rw [List.take_length] at hcl
  have y1 := (k2.bsn (keyed_byte l 54 64 hbl (by omega) (by omega)) L1.out).alloc (.cells #[.slice (some ⟨w.heap.size, 0, none⟩) 64 64, .slice A2 (sumN ps) c2] 22)
  have y2 := (r2.ow' hcl).bs.alloc (.cells #[.slice (some ⟨w.heap.size, 0, none⟩) 64 64, .slice A2 (sumN ps) c2] 22)
  obtain ⟨n1, n2⟩ := new_two w2 (.slice (some ⟨w.heap.size, 0, none⟩) 64 64) (.slice A2 (sumN ps) c2) 22
  have q1 := pts_two (by rw [World.size_alloc]; omega) n1 n2 y1 y2 (fun e => by cases e) r2.cap0
  have T2 := hT.keep (ab B2 (.cells #[.slice (some ⟨w.heap.size, 0, none⟩) 64 64, .slice A2 (sumN ps) c2] 22))
  have hk2 := hk.below (ab B2 (.cells #[.slice (some ⟨w.heap.size, 0, none⟩) 64 64, .slice A2 (sumN ps) c2] 22))
  have B2a := ab B2 (.cells #[.slice (some ⟨w.heap.size, 0, none⟩) 64 64, .slice A2 (sumN ps) c2] 22)
  have hc1 : catL [(⟨some ⟨w.heap.size, 0, none⟩, 64, 64, keyed l 54 64⟩ : Pt), ⟨A2, sumN ps, c2, catL ps⟩] = keyed l 54 64 ++ catL ps := by simp [catL]
  have hc2 : sumN [(⟨some ⟨w.heap.size, 0, none⟩, 64, 64, keyed l 54 64⟩ : Pt), ⟨A2, sumN ps, c2, catL ps⟩] = 64 + sumN ps := by simp [sumN]
  have HC1 := Shut.mk hc1
  have HC2 := Shut.mk hc2
  clear hc1 hc2 n1 n2 y1 y2 r2 k2 b2 B2
  go_wp2_with fail
  refine (hashParts_any w2.heap.size 2 2 _ _ T2 q1 rfl (by omega) (by rw [HC2.out]; omega)).mono ?_
  rintro e w3 ⟨⟨A3, c3, rfl, r3⟩, b3⟩
  rw [HC1.out] at r3
  have B3 := ac B2a b3
  have s3 := B3.size
  have o3 := r3.ow' (hashW_len _)
  have hk3 := hk2.below b3
  clear q1 T2 hk2 B2a b3 HC1 HC2
  go_wp2_with fail
  refine (maskedKey_any A n c l 92 w3 hk3 hn).mono ?_
  rintro e w4 ⟨rfl, k4, b4⟩
  have s4 := k4.lt
  have B4 := ac B3 b4
  have y1 := (k4.bsn (keyed_byte l 92 64 hbl (by omega) (by omega)) L2.out).alloc (.cells #[.slice (some ⟨w3.heap.size, 0, none⟩) 64 64, .slice A3 32 c3] 22)
  have y2 := (o3.bs.below b4).alloc (.cells #[.slice (some ⟨w3.heap.size, 0, none⟩) 64 64, .slice A3 32 c3] 22)
  obtain ⟨n1, n2⟩ := new_two w4 (.slice (some ⟨w3.heap.size, 0, none⟩) 64 64) (.slice A3 32 c3) 22
  have q1 := pts_two (by rw [World.size_alloc]; omega) n1 n2 y1 y2 (fun e => by cases e) r3.cap0
  have T4 := hT.keep (ab B4 (.cells #[.slice (some ⟨w3.heap.size, 0, none⟩) 64 64, .slice A3 32 c3] 22))
  have hc1 : catL [(⟨some ⟨w3.heap.size, 0, none⟩, 64, 64, keyed l 92 64⟩ : Pt), ⟨A3, 32, c3, hashW (keyed l 54 64 ++ catL ps)⟩] = keyed l 92 64 ++ hashW (keyed l 54 64 ++ catL ps) := by simp [catL]
  have hc2 : sumN [(⟨some ⟨w3.heap.size, 0, none⟩, 64, 64, keyed l 92 64⟩ : Pt), ⟨A3, 32, c3, hashW (keyed l 54 64 ++ catL ps)⟩] = 96 := by simp [sumN]
  have HC1 := Shut.mk hc1
  have HC2 := Shut.mk hc2
  clear hc1 hc2 n1 n2 y1 y2 r3 o3 k4 hk3
  go_wp2_with fail
  refine (hashParts_any w4.heap.size 2 2 _ _ T4 q1 rfl (by omega) (by rw [HC2.out]; omega)).mono ?_
  rintro e w5 ⟨⟨A5, c5, rfl, r5⟩, b5⟩
  rw [HC1.out, ← Hm.out] at r5
  have B5 := ac (ab B4 (.cells #[.slice (some ⟨w3.heap.size, 0, none⟩) 64 64, .slice A3 32 c3] 22)) b5
  go_wp2
  go_ret
  exact ⟨⟨A5, c5, rfl, r5.mono (by have := B4.size; rw [World.size_alloc]; omega)⟩, B5⟩
end Go.Proofs.YtabhcolfkkfonaaGreatDoor
