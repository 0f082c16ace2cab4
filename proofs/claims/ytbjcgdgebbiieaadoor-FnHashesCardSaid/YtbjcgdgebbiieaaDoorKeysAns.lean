/- The answer of the model's keys. -/
import Derived.Test.YtbjcgdgebbiieaaDoorHashAns
namespace Go.Proofs.YtbjcgdgebbiieaaDoor
open Go.RowKit

/-- the answer with a code and two runs of bytes in memory of its own -/
def PairAns (code : Int) (n m : Nat) (l r : List Int) (w : World) (e : Ending) (w' : World) : Prop :=
  (∃ A c B d, e = .returned (.agg #[.int .i64 code, .slice A n c, .slice B m d]) ∧ Ow w' w.heap.size A n l ∧ Ow w' w.heap.size B m r ∧ Apart n m A B) ∧ Below w.heap.size w w'

/-- the code of the keys' answer -/
def kcode (n m : Nat) : Int := if n = 32 then (if m ≤ 1000 then 0 else 2) else 3
def klen (n m : Nat) : Nat := if n = 32 ∧ m ≤ 1000 then 32 else 0
def kbytes (n m : Nat) (l : List Int) : List Int := if n = 32 ∧ m ≤ 1000 then l else []

theorem specKeysOf_any (A C : Option Addr) (n c m d : Nat) (l r : List Int) (w : World) (h : Bs w A n l) (hr : Bs w C m r) (hd : C = none → d = 0) (hn : n ≤ 140737488351232) (hm : m ≤ 140737488351232) :
    Calls Tryd.prog 15 #[.slice A n c, .slice C m d] w (PairAns (kcode n m) (klen n m) (klen n m) (kbytes n m (firstW l r)) (kbytes n m (otherW l r)) w) := by
  by_cases hn1 : n = 32
  · by_cases hm1 : m ≤ 1000
    · have Hf : Hid (kcode n m = 0 ∧ klen n m = 32 ∧ kbytes n m (firstW l r) = firstW l r ∧ kbytes n m (otherW l r) = otherW l r) := by simp [Hid, kcode, klen, kbytes, hn1, hm1]
      subst hn1
      clear hn hm
      go_enter Tryd.func15, Tryd.ntmps15
      go_wp2_with fail
      refine (l2Keys_any _ _ _ _ _ _ _ _ _ (h.alloc _) (hr.alloc _) hd (by omega)).mono ?_
      rintro e w1 ⟨⟨A1, c1, A2, c2, rfl, o1, o2, hap⟩, hb⟩
      have t1 := (Three.new w 32 (.int .i64 0) (.slice none 0 0) (.slice none 0 0)).below hb (by simp)
      have hs := hb.size
      simp only [World.size_alloc] at hs o1 o2
      obtain ⟨x0, x1, x2, x3, x4, x5⟩ := t1.cells
      go_wp2
      refine bodyPost_ret (v := .agg #[.int .i64 0, .slice A1 32 c1, .slice A2 32 c2]) (by simp [results, Tryd.results15, go_sem, x0, x1, x2]) rfl ?_
      rw [Hf.out.1, Hf.out.2.1, Hf.out.2.2.1, Hf.out.2.2.2]
      refine ⟨⟨A1, c1, A2, c2, rfl, ?_, ?_, hap⟩, ?_⟩
      · exact (((o1.far (p := ⟨w.heap.size, 0, none⟩) (by simp) _).far (p := ⟨w.heap.size, 1, none⟩) (by simp) _).far (p := ⟨w.heap.size, 2, none⟩) (by simp) _).mono (by omega)
      · exact (((o2.far (p := ⟨w.heap.size, 0, none⟩) (by simp) _).far (p := ⟨w.heap.size, 1, none⟩) (by simp) _).far (p := ⟨w.heap.size, 2, none⟩) (by simp) _).mono (by omega)
      · exact (((ac (ab (Below.refl _ w) _) hb).setCell (by simp) _).setCell (by simp) _).setCell (by simp) _
    · have Hf : Hid (kcode n m = 2 ∧ klen n m = 0 ∧ kbytes n m (firstW l r) = [] ∧ kbytes n m (otherW l r) = []) := by simp [Hid, kcode, klen, kbytes, hn1, hm1]
      subst hn1
      have hm2 : 1000 < m := by omega
      clear hm1 hn
      go_enter Tryd.func15, Tryd.ntmps15
      go_wp2
      go_returns
      rw [Hf.out.1, Hf.out.2.1, Hf.out.2.2.1, Hf.out.2.2.2]
      exact ⟨⟨none, 0, none, 0, rfl, Ow.nil_ _ _, Ow.nil_ _ _, fun h0 => absurd h0 (by omega)⟩, by go_grown⟩
  · have Hf : Hid (kcode n m = 3 ∧ klen n m = 0 ∧ kbytes n m (firstW l r) = [] ∧ kbytes n m (otherW l r) = []) := by simp [Hid, kcode, klen, kbytes, hn1]
    have hb : ((n : Int) != 32) = true := by rw [bne_iff_ne]; omega
    clear hn1
    go_enter Tryd.func15, Tryd.ntmps15
    go_wp2
    go_returns
    rw [Hf.out.1, Hf.out.2.1, Hf.out.2.2.1, Hf.out.2.2.2]
    exact ⟨⟨none, 0, none, 0, rfl, Ow.nil_ _ _, Ow.nil_ _ _, fun h0 => absurd h0 (by omega)⟩, by go_grown⟩
end Go.Proofs.YtbjcgdgebbiieaaDoor
