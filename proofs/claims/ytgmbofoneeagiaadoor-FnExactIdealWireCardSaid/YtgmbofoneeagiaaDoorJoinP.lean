/- slices.Grow of nothing, and slices.Concat, of bytes. -/
import Derived.Test.YtgmbofoneeagiaaDoorBase
import Derived.Lib.AppendZeros
namespace Go.Proofs.YtgmbofoneeagiaaDoor
open Go.RowKit

theorem Row.nil_ (w : World) (B : Nat) : Row w B (.slice none 0 0) [] := ⟨By.nil, ⟨rfl, .inl ⟨rfl, rfl⟩⟩⟩

set_option maxRecDepth 100000 in
set_option maxHeartbeats 1000000 in
theorem growNil_any (N : Nat) (w : World) (hN : N ≤ 1000000000) :
    Calls Tryd.prog 27 #[.slice none 0 0, .int .i64 (N : Int)] w fun e w' => (∃ v, e = .returned v ∧ Row w' w.heap.size v []) ∧ Below w.heap.size w w' := by
  by_cases h0 : N = 0
  · subst h0
    go_enter Tryd.func27, Tryd.ntmps27
    go_wp2
    go_ret
    exact ⟨⟨_, rfl, Row.nil_ _ _⟩, Below.refl _ _⟩
  · have h1 : 0 < N := by omega
    obtain ⟨i0, hi, hz0, hz1, hz2⟩ := info_parts info_u8
    have hrz : ∀ ty, (Builtin.append_ #[22, 3] ty #[.slice none 0 0, .int .i64 (N : Int)]).run Tryd.prog w =
        .ok (.slice (some ⟨w.heap.size, 0, none⟩) N (grownCap w N 0 5)) (w.drew.alloc (.cells (Builtin.zeroCells (Value.int .u8 0).cells N ++ Builtin.zeroCells (Value.int .u8 0).cells (grownCap w N 0 5 - N)) 5)) := fun ty =>
      Lib.run_append_nil_zeros w 22 3 ty 5 i0 (.int .u8 0) .i64 .i64 Tryd.underlying22 Tryd.underlying3 hi hz0 N h1 (by omega) (by omega) (by rw [hz2]; omega)
    have hG := grownCap_ge w N 0 5
    have hG2 := grownCap_le_maxLen w N 0 5 (by unfold maxLen; omega)
    obtain ⟨G, eG⟩ : ∃ G, G = grownCap w N 0 5 := ⟨_, rfl⟩
    rw [← eG] at hrz hG hG2
    have hG3 : G ≤ 9223372036854775807 := by unfold maxLen at hG2; omega
    obtain ⟨cs, hcs⟩ : ∃ cs, cs = Builtin.zeroCells (Value.int .u8 0).cells N ++ Builtin.zeroCells (Value.int .u8 0).cells (G - N) := ⟨_, rfl⟩
    rw [← hcs] at hrz
    have hsz : cs.size = G := by rw [hcs]; simp [Builtin.zeroCells, Value.cells]; omega
    have hrow : Row (w.drew.alloc (.cells cs 5)) w.heap.size (.slice (some ⟨w.heap.size, 0, none⟩) 0 G) [] :=
      ⟨By.nil, ⟨by simp, .inr ⟨w.heap.size, G, cs, rfl, Nat.le_refl _, heap_alloc_new w.drew _, Nat.zero_le _, hG2, by rw [Nat.mul_one]; exact hsz, by simp⟩⟩⟩
    have HR := Shut.mk hrow
    have HZ := Shut.mk hrz
    clear hcs hsz hrow eG hG2 hrz
    go_enter Tryd.func27, Tryd.ntmps27
    go_wp2_with (at_builtin; refine Lib.wpList_append_run _ rfl _ _ _ _ rfl _ _ rfl rfl _ _ (HZ.out _) ?_)
    go_ret
    exact ⟨⟨_, rfl, HR.out⟩, ab (Below.refl _ _).drew _⟩

set_option maxRecDepth 100000 in
theorem Row.cap0 {w : World} {B n c : Nat} {A : Option Addr} {l : List Int} (h : Row w B (.slice A n c) l) : A = none → c = 0 := by
  intro e
  subst e
  rcases h.own.2 with ⟨e, _⟩ | ⟨g, cap, cur, e, _⟩
  · injection e with _ _ e3
  · injection e with e1
    cases e1

/-- one of the lists that are put behind one another -/
structure Pt where
  a : Option Addr
  n : Nat
  c : Nat
  l : List Int
/-- a slice of slices of bytes, at block g -/
structure Pts (w : World) (g : Nat) (ps : List Pt) : Prop where
  lt : g < w.heap.size
  cell : ∀ (i : Nat) (p : Pt), ps[i]? = some p → w.cell? ⟨g, i, none⟩ = some (.slice p.a p.n p.c)
  bs : ∀ (i : Nat) (p : Pt), ps[i]? = some p → Bs w p.a p.n p.l
  cap : ∀ (i : Nat) (p : Pt), ps[i]? = some p → p.a = none → p.c = 0
def sumN (ps : List Pt) : Nat := (ps.map (·.n)).sum
def catL (ps : List Pt) : List Int := ps.flatMap (·.l)
theorem Pts.below {w w' : World} {g : Nat} {ps : List Pt} (h : Pts w g ps) (hb : Below w.heap.size w w') : Pts w' g ps :=
  ⟨Nat.lt_of_lt_of_le h.lt hb.size, fun i p hp => (hb.cell (p := ⟨g, i, none⟩) h.lt).trans (h.cell i p hp), fun i p hp => (h.bs i p hp).below hb, h.cap⟩
theorem take_pt {ps : List Pt} {k : Nat} {p : Pt} (h : ps[k]? = some p) : ps.take (k + 1) = ps.take k ++ [p] := by
  obtain ⟨hk, e⟩ := List.getElem?_eq_some_iff.1 h
  rw [List.take_succ_eq_append_getElem hk, e]
theorem sumN_snoc (ps : List Pt) (p : Pt) : sumN (ps ++ [p]) = sumN ps + p.n := by simp [sumN]
theorem catL_snoc (ps : List Pt) (p : Pt) : catL (ps ++ [p]) = catL ps ++ p.l := by simp [catL]
theorem sumN_take (ps : List Pt) (k : Nat) : sumN (ps.take k) ≤ sumN ps := by
  have : sumN ps = sumN (ps.take k) + sumN (ps.drop k) := by
    have e : ps.map (·.n) = (ps.take k).map (·.n) ++ (ps.drop k).map (·.n) := by rw [← List.map_append, List.take_append_drop]
    unfold sumN
    rw [e, List.sum_append]
  omega
theorem catL_len {w : World} {g : Nat} {ps : List Pt} (h : Pts w g ps) (k : Nat) (hk : k ≤ ps.length) : (catL (ps.take k)).length = sumN (ps.take k) := by
  induction k with
  | zero => rfl
  | succ k ih =>
    obtain ⟨p, hp⟩ : ∃ p, ps[k]? = some p := ⟨ps[k], List.getElem?_eq_getElem (by omega)⟩
    rw [take_pt hp, catL_snoc, sumN_snoc, List.length_append, ih (by omega), (h.bs k p hp).len]

set_option maxHeartbeats 1000000 in
theorem concat_any (g n c : Nat) (ps : List Pt) (w : World) (h : Pts w g ps) (hn : ps.length = n) (hn2 : n ≤ 1000) (hs : sumN ps ≤ 1000000000) :
    Calls Tryd.prog 18 #[.slice (some ⟨g, 0, none⟩) n c] w fun e w' => (∃ A c', e = .returned (.slice A (sumN ps) c') ∧ Row w' w.heap.size (.slice A (sumN ps) c') (catL ps)) ∧ Below w.heap.size w w' := by
  have HN := Shut.mk hn
  clear hn
  go_enter Tryd.func18, Tryd.ntmps18
  go_wp2
  go_loop [3, 11] (fun s i => ∃ k : Nat, k ≤ n ∧ i = .int .i64 k ∧ s = .int .i64 (sumN (ps.take k) : Int)) (fun _ i => n - (intOf i).toNat)
  case atStart => exact ⟨0, Nat.zero_le _, rfl, rfl⟩
  case round =>
    obtain ⟨k, hk, rfl, rfl⟩ := hrel
    have hst := sumN_take ps k
    have hst2 := sumN_take ps (k + 1)
    by_cases hlt : k < n
    · obtain ⟨p, hp⟩ : ∃ p, ps[k]? = some p := ⟨ps[k]'(by rw [HN.out]; exact hlt), List.getElem?_eq_getElem _⟩
      have hc := h.cell k p hp
      have hsn : sumN (ps.take (k + 1)) = sumN (ps.take k) + p.n := by rw [take_pt hp, sumN_snoc]
      have HS := Shut.mk hsn
      rw [hsn] at hst2
      clear hsn hp
      generalize sumN (ps.take k) = S at *
      go_wp2
      exact ⟨⟨k + 1, by omega, by go_num, by rw [HS.out]; go_num⟩, by simp [intOf]; omega⟩
    · obtain rfl : k = n := by omega
      have hfull : ps.take k = ps := List.take_of_length_le (by rw [HN.out]; exact Nat.le_refl _)
      rw [hfull] at hst
      rw [hfull]
      have HT := Shut.mk (sumN_take ps)
      clear hst2 hfull
      generalize hS : sumN ps = S at *
      go_wp2_with fail
      refine (growNil_any S w (by omega)).mono ?_
      rintro e w1 ⟨⟨v1, rfl, r1⟩, b1⟩
      have h1 := h.below b1
      go_wp2
      go_loopw [6, 27] (fun v i wr => ∃ j : Nat, j ≤ k ∧ i = .int .i64 j ∧ Row wr w.heap.size v (catL (ps.take j)) ∧ Below w.heap.size w wr) (fun _ i _ => k - (intOf i).toNat)
      case atStart => exact ⟨0, Nat.zero_le _, rfl, r1, b1⟩
      case round =>
        obtain ⟨j, hj, rfl, hrow, hbel⟩ := hrel
        have hh := h.below hbel
        have hsz := hbel.size
        have hcl := catL_len h j (by rw [HN.out]; exact hj)
        obtain ⟨A5, c5, rfl, _⟩ := hrow.ow hcl
        by_cases hlt : j < k
        · obtain ⟨p, hp⟩ : ∃ p, ps[j]? = some p := ⟨ps[j]'(by rw [HN.out]; exact hlt), List.getElem?_eq_getElem _⟩
          have hc := hh.cell j p hp
          have hpb := hh.bs j p hp
          have hpc := hh.cap j p hp
          have Hc : Shut (catL (ps.take (j + 1)) = catL (ps.take j) ++ p.l) := ⟨by rw [take_pt hp, catL_snoc]⟩
          have hle := HT.out (j + 1)
          rw [take_pt hp, sumN_snoc] at hle
          have hbd : (catL (ps.take j)).length + p.n ≤ 140737488351232 := by rw [hcl]; omega
          have HB := Shut.mk hbd
          clear hp hcl hle hbd
          go_wp2_with (at_builtin; refine wpList_row_join rfl _ _ rfl _ w.heap.size (.slice A5 (sumN (ps.take j)) c5) _ _ rfl hrow hsz p.a p.n p.c rfl hpb hpc HB.out ?_; intro v4 w4 hr4 hb4 hs4)
          exact ⟨⟨j + 1, by omega, by go_num, by rw [Hc.out]; exact hr4, hbel.trans hb4⟩, by simp [intOf]; omega⟩
        · obtain rfl : j = k := by omega
          have hfull : ps.take j = ps := List.take_of_length_le (by rw [HN.out]; exact Nat.le_refl _)
          rw [hfull, hS] at hcl
          rw [hfull, hS] at hrow
          rw [hfull, hS]
          go_wp2
          go_ret
          subst hS
          exact ⟨⟨_, _, rfl, hrow⟩, hbel⟩
end Go.Proofs.YtgmbofoneeagiaaDoor
