/- The draws of chapter 1: each answers something within its bounds. -/
import Derived.Test.YtcanmhlhnihijaaDoorBytesC
namespace Go.Proofs.YtcanmhlhnihijaaDoor
open Go.RowKit

/-- the source at block p: a slice of bytes, and how many were read -/
structure Src (w : World) (p : Nat) (A : Option Addr) (k c : Nat) (l : List Int) (at_ : Nat) : Prop where
  two : Two w p 68 (.slice A k c) (.int .i64 (at_ : Int))
  bs : Bs w A k l
  apart : ∀ b off, A = some ⟨b, off, none⟩ → 0 < k → b < p

theorem emod_lt' (a m : Int) (h : 1 ≤ m) : a % m < m := Int.emod_lt_of_pos _ (by omega)
theorem emod_nn (a m : Int) (h : 1 ≤ m) : 0 ≤ a % m := Int.emod_nonneg _ (by omega)

theorem next_zero (p c : Nat) (A : Option Addr) (at_ : Nat) (m : Int) (w : World) (hat : at_ ≤ 100000) (hm0 : 1 ≤ m) (hm1 : m ≤ 1000) (l : List Int) (h : Src w p A 0 c l at_) :
    Calls Tryd.prog 46 #[.pointer (some ⟨p, 0, none⟩), .int .i64 m] w fun e w' => (∃ v : Int, 0 ≤ v ∧ v < m ∧ e = .returned (.int .i64 v)) ∧ ∃ q, w' = (w.setCell ⟨p, 1, none⟩ (.int .i64 ((at_ : Int) + 1))).drewN q := by
  obtain ⟨x0, x1, x2, x3⟩ := h.two.cells
  go_enter Tryd.func46, Tryd.ntmps46
  go_wp2
  go_ret
  exact ⟨⟨_, emod_nn _ _ hm0, emod_lt' _ _ hm0, rfl⟩, 0, rfl⟩

theorem next_some (p k c : Nat) (A : Option Addr) (at_ : Nat) (m : Int) (w : World) (hat : at_ ≤ 100000) (hm0 : 1 ≤ m) (hm1 : m ≤ 1000) (l : List Int) (hk : 0 < k) (hkm : k ≤ 1048576) (h : Src w p A k c l at_) :
    Calls Tryd.prog 46 #[.pointer (some ⟨p, 0, none⟩), .int .i64 m] w fun e w' => (∃ v : Int, 0 ≤ v ∧ v < m ∧ e = .returned (.int .i64 v)) ∧ ∃ q, w' = (w.setCell ⟨p, 1, none⟩ (.int .i64 ((at_ : Int) + 1))).drewN q := by
  obtain ⟨x0, x1, x2, x3⟩ := h.two.cells
  have hlt : at_ % k < k := Nat.mod_lt _ hk
  have hlt2 : (at_ + 1) % k < k := Nat.mod_lt _ hk
  obtain ⟨b, off, X, rfl, hbs, hX0, hX1, HX, hx⟩ := h.bs.get hlt
  obtain ⟨b2, off2, Y, e2, _, hY0, hY1, HY, hy⟩ := h.bs.get hlt2
  injection e2 with e2
  injection e2 with e2 e3
  subst e2 e3
  have hbp := h.apart b off rfl hk
  have hd0 : 0 ≤ at_ / k := Nat.zero_le _
  have hd1 : at_ / k ≤ at_ := Nat.div_le_self _ _
  generalize hD : at_ / k = D at *
  generalize hR : at_ % k = R at *
  generalize hS : (at_ + 1) % k = S at *
  have hne : ((k : Int) == 0) = false := by simp; omega
  have c1 : ((at_ : Int)) / (k : Int) = (D : Int) := by rw [← hD]; rfl
  have c2 : ((at_ : Int)) % (k : Int) = (R : Int) := by rw [← hR]; rfl
  have c3 : ((at_ : Int) + 1) % (k : Int) = (S : Int) := by rw [← hS]; rfl
  have hkk : (0 : Int) < (k : Int) := by omega
  have i1 : (R : Int) < (k : Int) := by omega
  have i2 : (S : Int) < (k : Int) := by omega
  clear hD hR hS
  by_cases h2 : m ≤ 200
  · go_enter Tryd.func46, Tryd.ntmps46
    go_wp2
    go_quiet (fail)
    go_wp2
    go_ret
    exact ⟨⟨_, emod_nn _ _ hm0, emod_lt' _ _ hm0, rfl⟩, _, rfl⟩
  · have h2' : 200 < m := by omega
    clear h2
    go_enter Tryd.func46, Tryd.ntmps46
    go_wp2
    go_quiet (fail)
    go_wp2
    go_quiet (fail)
    go_wp2
    go_ret
    exact ⟨⟨_, emod_nn _ _ hm0, emod_lt' _ _ hm0, rfl⟩, _, by first | rfl | exact World.drewN_drewN _ _ _⟩

/-- nothing below B but block p has turned -/
structure But (p B : Nat) (w w' : World) : Prop where
  os : w'.os = w.os
  tape : w'.tape = w.tape
  output : w'.output = w.output
  size : w.heap.size ≤ w'.heap.size
  block : ∀ k, k < B → k ≠ p → w'.heap[k]? = w.heap[k]?
section
variable {p B : Nat} {w w' w2 : World}
theorem But.refl (p B : Nat) (w : World) : But p B w w := ⟨rfl, rfl, rfl, Nat.le_refl _, fun _ _ _ => rfl⟩
theorem But.trans (h : But p B w w') (k : But p B w' w2) : But p B w w2 := ⟨k.os.trans h.os, k.tape.trans h.tape, k.output.trans h.output, Nat.le_trans h.size k.size, fun i hi hp => (k.block i hi hp).trans (h.block i hi hp)⟩
theorem But.of_below (h : Below B w w') : But p B w w' := ⟨h.os, h.tape, h.output, h.size, fun k hk _ => h.block k hk⟩
theorem But.mono {C : Nat} (h : But p B w w') (hC : C ≤ B) : But p C w w' := ⟨h.os, h.tape, h.output, h.size, fun k hk hp => h.block k (by omega) hp⟩
theorem But.below {C : Nat} (h : But p B w w') (hC : C ≤ B) (hp : C ≤ p) : Below C w w' := ⟨h.os, h.tape, h.output, h.size, fun k hk => h.block k (by omega) (by omega)⟩
theorem But.drewN (h : But p B w w') (n : Nat) : But p B w (w'.drewN n) := ⟨h.os, h.tape, h.output, h.size, h.block⟩
theorem But.setCell (h : But p B w w') (i : Nat) (v : Value) : But p B w (w'.setCell ⟨p, i, none⟩ v) :=
  ⟨h.os, h.tape, h.output, by rw [World.size_setCell]; exact h.size, fun k hk hp => (Below.heap_setCell w' ⟨p, i, none⟩ v k hp).trans (h.block k hk hp)⟩
theorem Src.but {A : Option Addr} {k c : Nat} {l : List Int} {at_ : Nat} (h : Src w p A k c l at_) (hb : Below B w w') (hB : w.heap.size ≤ B) : Src w' p A k c l at_ := by
  have hp : p < w.heap.size := by
    have := h.two
    unfold Two at this
    exact (Array.getElem?_eq_some_iff.1 this).1
  exact ⟨h.two.below hb (by omega), h.bs.below (hb.mono hB), h.apart⟩
theorem Src.under {A : Option Addr} {k c : Nat} {l : List Int} {at_ : Nat} (h : Src w p A k c l at_) (hb : Below B w w') (hB : p < B) : Src w' p A k c l at_ :=
  ⟨h.two.below hb hB, ⟨h.bs.len, h.bs.byte, fun hk => by
    obtain ⟨b, off, e, hlt, hc⟩ := h.bs.at_ hk
    have hbp := h.apart b off e hk
    exact ⟨b, off, e, Nat.lt_of_lt_of_le hlt hb.size, fun i hi => (hb.cell (p := ⟨b, off + i, none⟩) (by show b < B; omega)).trans (hc i hi)⟩⟩, h.apart⟩
theorem Src.lt {A : Option Addr} {k c : Nat} {l : List Int} {at_ : Nat} (h : Src w p A k c l at_) : p < w.heap.size := by
  have := h.two
  unfold Two at this
  exact (Array.getElem?_eq_some_iff.1 this).1
theorem Two.set1 {t : TypeId} {x y : Value} (h : Two w p t x y) (v : Value) : Two (w.setCell ⟨p, 1, none⟩ v) p t x v := by
  unfold Two at h ⊢
  simp [World.setCell, Array.getElem?_modify, h]
theorem Src.next {A : Option Addr} {k c : Nat} {l : List Int} {at_ : Nat} (h : Src w p A k c l at_) (q : Nat) : Src ((w.setCell ⟨p, 1, none⟩ (.int .i64 ((at_ : Int) + 1))).drewN q) p A k c l (at_ + 1) := by
  refine ⟨?_, ⟨h.bs.len, h.bs.byte, fun hk => ?_⟩, h.apart⟩
  · have := h.two.set1 (.int .i64 ((at_ : Int) + 1))
    exact this
  · obtain ⟨b, off, e, hb, hc⟩ := h.bs.at_ hk
    have hbp := h.apart b off e hk
    refine ⟨b, off, e, by simpa using hb, fun i hi => ?_⟩
    have := Below.heap_setCell w ⟨p, 1, none⟩ (.int .i64 ((at_ : Int) + 1)) b (by show b ≠ p; omega)
    exact (World.cell?_of_block (a := ⟨b, off + i, none⟩) this).trans (hc i hi)
end

theorem Ow.past {w w' : World} {B C p n : Nat} {A : Option Addr} {l : List Int} (h : Ow w B A n l) (hb : But p C w w') (hC : w.heap.size ≤ C) (hp : p < B) : Ow w' B A n l :=
  ⟨h.len, h.byte, fun hn => by
    obtain ⟨b, e, hB, hlt, hc, hf⟩ := h.at_ hn
    have hk := hb.block b (by omega) (by omega)
    exact ⟨b, e, hB, Nat.lt_of_lt_of_le hlt hb.size, fun i hi => (World.cell?_of_block (a := ⟨b, i, none⟩) hk).trans (hc i hi), fun i => (World.frozen?_of_block (a := ⟨b, i, none⟩) hk).trans (hf i)⟩⟩
theorem Row.keep {w w' : World} {B : Nat} {v : Value} {l : List Int} (h : Row w B v l) (hk : ∀ g, B ≤ g → g < w.heap.size → w'.heap[g]? = w.heap[g]?) : Row w' B v l := by
  refine ⟨h.byte, h.own.1, ?_⟩
  rcases h.own.2 with hn | ⟨g, cap, cur, hv, hB, hg, rest⟩
  · exact .inl hn
  · exact .inr ⟨g, cap, cur, hv, hB, (hk g hB (Array.getElem?_eq_some_iff.1 hg).1).trans hg, rest⟩
theorem Row.mono {w : World} {B C : Nat} {v : Value} {l : List Int} (h : Row w B v l) (hC : C ≤ B) : Row w C v l := by
  refine ⟨h.byte, h.own.1, ?_⟩
  rcases h.own.2 with hn | ⟨g, cap, cur, hv, hB, hg, rest⟩
  · exact .inl hn
  · exact .inr ⟨g, cap, cur, hv, by omega, hg, rest⟩
theorem Row.ow' {w : World} {B n c : Nat} {A : Option Addr} {l : List Int} (h : Row w B (.slice A n c) l) (hn : l.length = n) : Ow w B A n l := by
  obtain ⟨A', c', e, how⟩ := h.ow hn
  injection e with e1 e2 e3
  subst e1
  exact how

/-- a draw: a number within its bounds, one byte further on -/
theorem next_any (p k c : Nat) (A : Option Addr) (at_ : Nat) (m : Int) (w : World) (hat : at_ ≤ 100000) (hm0 : 1 ≤ m) (hm1 : m ≤ 1000) (l : List Int) (hkm : k ≤ 1048576) (h : Src w p A k c l at_) :
    Calls Tryd.prog 46 #[.pointer (some ⟨p, 0, none⟩), .int .i64 m] w fun e w' => (∃ v : Int, 0 ≤ v ∧ v < m ∧ e = .returned (.int .i64 v)) ∧ Src w' p A k c l (at_ + 1) ∧ (∀ B, But p B w w') ∧ w'.heap.size = w.heap.size := by
  have fin : ∀ (e : Ending) (w' : World), ((∃ v : Int, 0 ≤ v ∧ v < m ∧ e = .returned (.int .i64 v)) ∧ ∃ q, w' = (w.setCell ⟨p, 1, none⟩ (.int .i64 ((at_ : Int) + 1))).drewN q) →
      ((∃ v : Int, 0 ≤ v ∧ v < m ∧ e = .returned (.int .i64 v)) ∧ Src w' p A k c l (at_ + 1) ∧ (∀ B, But p B w w') ∧ w'.heap.size = w.heap.size) := by
    rintro e w' ⟨hv, q, rfl⟩
    exact ⟨hv, h.next q, fun B => ((But.refl p B w).setCell 1 _).drewN q, by simp⟩
  rcases Nat.eq_zero_or_pos k with hk | hk
  · subst hk
    exact (next_zero p c A at_ m w hat hm0 hm1 l h).mono fin
  · exact (next_some p k c A at_ m w hat hm0 hm1 l hk hkm h).mono fin

theorem source_any (A : Option Addr) (k c : Nat) (l : List Int) (w : World) (h : Bs w A k l) :
    Calls Tryd.prog 33 #[.slice A k c] w fun e w' => e = .returned (.pointer (some ⟨w.heap.size, 0, none⟩)) ∧ Src w' w.heap.size A k c l 0 ∧ Below w.heap.size w w' ∧ w'.heap.size = w.heap.size + 1 := by
  go_enter Tryd.func33, Tryd.ntmps33
  go_wp2
  go_ret
  refine ⟨rfl, ⟨Two.new w _ _ _, h.alloc _, fun b off e hk => ?_⟩, ab (Below.refl _ _) _, by simp⟩
  obtain ⟨b', off', e', hb', _⟩ := h.at_ hk
  rw [e] at e'
  injection e' with e'
  injection e' with e'
  omega

/-- a choice out of a list of numbers -/
theorem pick_any (p k c : Nat) (A : Option Addr) (at_ : Nat) (g m d : Nat) (vs : List Int) (w : World) (hat : at_ ≤ 100000) (hm0 : 1 ≤ m) (hm1 : m ≤ 1000) (l : List Int) (hkm : k ≤ 1048576) (h : Src w p A k c l at_)
    (hvs : vs.length = m) (hgp : g ≠ p) (hcell : ∀ i, i < m → w.cell? ⟨g, i, none⟩ = some (.int .i64 (vs.getD i 0))) :
    Calls Tryd.prog 36 #[.pointer (some ⟨p, 0, none⟩), .slice (some ⟨g, 0, none⟩) m d] w fun e w' => (∃ v : Int, v ∈ vs ∧ e = .returned (.int .i64 v)) ∧ Src w' p A k c l (at_ + 1) ∧ (∀ B, But p B w w') ∧ w'.heap.size = w.heap.size := by
  have Hv := Lib.hid hvs
  clear hvs
  go_enter Tryd.func36, Tryd.ntmps36
  go_wp2_with fail
  refine (next_any p k c A at_ (m : Int) _ hat (by omega) (by omega) l hkm h).mono ?_
  rintro e w' ⟨⟨v, hv0, hv1, rfl⟩, hs, hb, hz⟩
  obtain ⟨i, rfl⟩ := Int.eq_ofNat_of_zero_le hv0
  have hi : i < m := by omega
  have hc := hcell i hi
  have hg : g < w.heap.size := World.block_lt_of_cell? w _ hc
  have hc' := (World.cell?_of_block (a := ⟨g, i, none⟩) ((hb (g + 1)).block g (by omega) hgp)).trans hc
  have Hm : Hid (vs.getD i 0 ∈ vs) := by
    show vs.getD i 0 ∈ vs
    have hl : i < vs.length := by rw [Hv.out]; exact hi
    have e : vs.getD i 0 = vs[i] := by simp [List.getD, List.getElem?_eq_getElem hl]
    rw [e]; exact List.getElem_mem hl
  obtain ⟨V, hV⟩ : ∃ V, V = vs.getD i 0 := ⟨_, rfl⟩
  rw [← hV] at hc' Hm
  clear hV hcell hc
  have hBut : Hid (∀ B, But p B w w') := hb
  have Hz := Lib.hid hz
  clear hb hz
  go_wp2
  go_ret
  exact ⟨⟨V, Hm.out, rfl⟩, hs, hBut.out, Hz.out⟩
end Go.Proofs.YtcanmhlhnihijaaDoor
