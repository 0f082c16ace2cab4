/- The laws' helpers for an answer of two runs of bytes. -/
import Derived.Test.YtknkadmngdaakaaDoorBase
namespace Go.Proofs.YtknkadmngdaakaaDoor
open Go.RowKit

theorem eqPairResult_any (a b : Int) (A B A' B' : Option Addr) (n c m d n' c' m' d' : Nat) (l r l' r' : List Int) (w : World) (h : Bs w A n l) (k : Bs w B m r) (h' : Bs w A' n' l') (k' : Bs w B' m' r') (hn : n ≤ 140737488351232) (hm : m ≤ 140737488351232) (hn' : n' ≤ 140737488351232) (hm' : m' ≤ 140737488351232) :
    Calls Tryd.prog 23 #[.agg #[.int .i64 a, .slice A n c, .slice B m d], .agg #[.int .i64 b, .slice A' n' c', .slice B' m' d']] w fun e w' => e = .returned (.bool (decide (a = b ∧ l = l' ∧ r = r'))) ∧ Below w.heap.size w w' := by
  by_cases hab : a = b
  · subst hab
    by_cases hl : l = l'
    · have Hd : Hid (decide (l = l') = true) := by simp [Hid, hl]
      have Hl := Lib.hid hl
      clear hl
      go_enter Tryd.func23, Tryd.ntmps23
      go_wp2_with fail
      refine (eqByteS_any _ _ _ _ _ _ _ _ _ ((h.alloc _).alloc _) ((h'.alloc _).alloc _) hn hn').mono ?_
      rintro e w' ⟨rfl, q, rfl⟩
      rw [Hd.out]
      go_wp2_with fail
      refine (eqByteS_any _ _ _ _ _ _ _ _ _ (((k.alloc _).alloc _).drewN q) (((k'.alloc _).alloc _).drewN q) hm hm').mono ?_
      rintro e w' ⟨rfl, q2, rfl⟩
      go_wp2
      · go_returns
        have hh : (!decide (r = r')) = true := by assumption
        exact ⟨by simp at hh; simp [hh], ad (ab (ab (Below.refl _ _) _) _) _⟩
      · go_returns
        have hh : (!decide (r = r')) = false := by assumption
        exact ⟨by simp at hh; simp [hh, Hl.out], ad (ab (ab (Below.refl _ _) _) _) _⟩
    · have Hd : Hid (decide (l = l') = false) := by simp [Hid, hl]
      have Hl := Lib.hid hl
      clear hl
      go_enter Tryd.func23, Tryd.ntmps23
      go_wp2_with fail
      refine (eqByteS_any _ _ _ _ _ _ _ _ _ ((h.alloc _).alloc _) ((h'.alloc _).alloc _) hn hn').mono ?_
      rintro e w' ⟨rfl, q, rfl⟩
      rw [Hd.out]
      go_wp2
      go_returns
      exact ⟨by simp [Hl.out], ad (ab (ab (Below.refl _ _) _) _) _⟩
  · have hb : (a == b) = false := by simpa using hab
    have hb' : (a != b) = true := by simpa using hab
    go_enter Tryd.func23, Tryd.ntmps23
    go_wp2
    go_returns
    exact ⟨by simp [hab], by go_grown⟩

/-- two runs of bytes share no block -/
def Sunder (n m : Nat) (A B : Option Addr) : Prop := 0 < n → 0 < m → ∀ a b, A = some a → B = some b → a.block ≠ b.block
/-- a struct of three cells -/
def Three (w : World) (b : Nat) (t : TypeId) (x y z : Value) : Prop := w.heap[b]? = some (.cells #[x, y, z] t (0, 0))
theorem Three.cells {w : World} {b : Nat} {t : TypeId} {x y z : Value} (h : Three w b t x y z) :
    w.cell? ⟨b, 0, none⟩ = some x ∧ w.cell? ⟨b, 1, none⟩ = some y ∧ w.cell? ⟨b, 2, none⟩ = some z ∧ w.frozen? ⟨b, 0, none⟩ = false ∧ w.frozen? ⟨b, 1, none⟩ = false ∧ w.frozen? ⟨b, 2, none⟩ = false := by
  unfold Three at h
  refine ⟨?_, ?_, ?_, by simp [World.frozen?, h], by simp [World.frozen?, h], by simp [World.frozen?, h]⟩
  · simpa using cell_of_row w b 0 _ _ (0, 0) h
  · simpa using cell_of_row w b 1 _ _ (0, 0) h
  · simpa using cell_of_row w b 2 _ _ (0, 0) h
theorem Three.new (w : World) (t : TypeId) (x y z : Value) : Three (w.alloc (.cells #[x, y, z] t)) w.heap.size t x y z := heap_alloc_new w _
theorem Three.below {w w' : World} {b B : Nat} {t : TypeId} {x y z : Value} (h : Three w b t x y z) (hb : Below B w w') (hl : b < B) : Three w' b t x y z := (hb.block b hl).trans h
theorem Three.only {w w' : World} {b n : Nat} {A : Option Addr} {t : TypeId} {x y z : Value} (h : Three w b t x y z) (ho : Only n A w w') (hA : 0 < n → ∀ a, A = some a → a.block ≠ b) : Three w' b t x y z := (ho.block b hA).trans h

theorem Ow.only' {w w' : World} {B n m : Nat} {A A' : Option Addr} {l : List Int} (h : Ow w B A n l) (ho : Only m A' w w') (ha : Sunder m n A' A) : Ow w' B A n l :=
  ⟨h.len, h.byte, fun hn => by
    obtain ⟨b, e, hB, hlt, hc, hf⟩ := h.at_ hn
    have hk := ho.block b (fun hm a he => ha hm hn a _ he e)
    exact ⟨b, e, hB, by rw [ho.size]; exact hlt, fun i hi => (World.cell?_of_block (a := ⟨b, i, none⟩) hk).trans (hc i hi), fun i => (World.frozen?_of_block (a := ⟨b, i, none⟩) hk).trans (hf i)⟩⟩
theorem Sunder.symm {n m : Nat} {A B : Option Addr} (h : Sunder n m A B) : Sunder m n B A := fun h1 h2 a b ea eb e => h h2 h1 b a eb ea e.symm

theorem markPairResult_any (a : Int) (A A' : Option Addr) (n c m d B : Nat) (l r : List Int) (k : Int) (w : World) (h : Ow w B A n l) (h' : Ow w B A' m r) (hap : Sunder n m A A') (hk0 : 0 ≤ k) (hk1 : k ≤ 140737488351232) (hn : n ≤ 14073748835123) (hm : m ≤ 14073748835123) (hk2 : k ≤ 14073748835123) :
    Calls Tryd.prog 24 #[.agg #[.int .i64 a, .slice A n c, .slice A' m d], .int .i64 k] w fun e w' => e = .returned (.int .i64 (k + (n : Int) + (m : Int))) ∧ Ow w' B A n (marks k n) ∧ Ow w' B A' m (marks (k + (n : Int)) m) ∧ ∃ w1 w2, Below w.heap.size w w1 ∧ Only n A w1 w2 ∧ Only m A' w2 w' := by
  go_enter Tryd.func24, Tryd.ntmps24
  go_wp2_with fail
  refine (markByteS_any _ _ _ _ _ _ _ (h.below (ab (Below.refl _ _) _) (Nat.le_refl _)) hk0 hk1 (by omega)).mono ?_
  rintro e w1 ⟨rfl, ho, hon⟩
  have h2 := (h'.below (ab (Below.refl _ w) (.cells #[.int .i64 a, .slice A n c, .slice A' m d] 40)) (Nat.le_refl _)).only' hon hap
  have hsz := hon.size
  obtain ⟨x0, x1, x2, x3, x4, x5⟩ := ((Three.new w 40 (.int .i64 a) (.slice A n c) (.slice A' m d)).only hon (fun h0 b hb => by have := h.top h0 b hb; omega)).cells
  rw [World.size_alloc] at hsz
  have hs1 : w.heap.size < w1.heap.size := by omega
  clear hsz x0 x1 x3 x4 x5
  go_wp2_with fail
  refine (markByteS_any _ _ _ _ _ _ _ h2 (by omega) (by omega) (by omega)).mono ?_
  rintro e w2 ⟨rfl, ho2, hon2⟩
  have h3 := ho.only' hon2 hap.symm
  go_wp2
  go_returns
  exact ⟨rfl, h3, ho2, _, _, ab (Below.refl _ _) _, hon, hon2⟩

theorem heldPairResult_any (a : Int) (A A' : Option Addr) (n c m d : Nat) (k : Int) (w : World) (h : Bs w A n (marks k n)) (h' : Bs w A' m (marks (k + (n : Int)) m)) (hk0 : 0 ≤ k) (hk2 : k ≤ 14073748835123) (hn : n ≤ 14073748835123) (hm : m ≤ 14073748835123) :
    Calls Tryd.prog 25 #[.agg #[.int .i64 a, .slice A n c, .slice A' m d], .int .i64 k] w fun e w' => e = .returned (.int .i64 (k + (n : Int) + (m : Int))) ∧ Below w.heap.size w w' := by
  go_enter Tryd.func25, Tryd.ntmps25
  go_wp2_with fail
  refine (heldByteS_any _ _ _ _ _ (h.alloc _) hk0 (by omega) (by omega)).mono ?_
  rintro e w' ⟨rfl, rfl⟩
  go_wp2_with fail
  refine (heldByteS_any _ _ _ _ _ (h'.alloc _) (by omega) (by omega) (by omega)).mono ?_
  rintro e w' ⟨rfl, rfl⟩
  go_wp2
  go_returns
  exact ⟨rfl, ab (Below.refl _ _) _⟩
end Go.Proofs.YtknkadmngdaakaaDoor
