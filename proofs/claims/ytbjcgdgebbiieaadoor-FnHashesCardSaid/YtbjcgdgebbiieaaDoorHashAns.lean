/- The answers of the model's hash functions that are of bytes. -/
import Derived.Test.YtbjcgdgebbiieaaDoorKeysC
namespace Go.Proofs.YtbjcgdgebbiieaaDoor
open Go.RowKit

def hcode (n : Nat) : Int := if n ≤ 1000 then 0 else 2
def hlen (n k : Nat) : Nat := if n ≤ 1000 then k else 0
def hbytes (n : Nat) (l : List Int) : List Int := if n ≤ 1000 then l else []

theorem specPadMessage_any (A : Option Addr) (n c : Nat) (l : List Int) (w : World) (h : Bs w A n l) (hc : A = none → c = 0) (hn : n ≤ 140737488351232) :
    Calls Tryd.prog 17 #[.slice A n c] w (BytesAns (hcode n) (hlen n (padW l).length) (hbytes n (padW l)) w) := by
  by_cases hok : n ≤ 1000
  · have Hf : Hid (hcode n = 0 ∧ hlen n (padW l).length = (padW l).length ∧ hbytes n (padW l) = padW l) := by simp [Hid, hcode, hlen, hbytes, hok]
    clear hn
    go_enter Tryd.func17, Tryd.ntmps17
    go_wp2_with fail
    refine (l2Pad_any _ _ _ _ _ (h.alloc _) hc (by omega)).mono ?_
    rintro e w1 ⟨⟨A1, c1, rfl, hrow⟩, hb⟩
    have how := hrow.ow' rfl
    have t1 := (Two.new w 26 (.int .i64 0) (.slice none 0 0)).below hb (by simp)
    have hs := hb.size
    simp only [World.size_alloc] at hs how
    obtain ⟨x0, x1, x2, x3⟩ := t1.cells
    generalize hL : (padW l).length = L at *
    go_wp2
    refine bodyPost_ret (v := .agg #[.int .i64 0, .slice A1 L c1]) (by simp [results, Tryd.results17, go_sem, x0, x1]) rfl ?_
    rw [Hf.out.1, Hf.out.2.1, Hf.out.2.2]
    refine ⟨⟨A1, c1, rfl, ((how.far (p := ⟨w.heap.size, 0, none⟩) (by simp) _).far (p := ⟨w.heap.size, 1, none⟩) (by simp) _).mono (by omega)⟩, ?_⟩
    exact ((ac (ab (Below.refl _ w) _) hb).setCell (by simp) _).setCell (by simp) _
  · have Hf : Hid (hcode n = 2 ∧ hlen n (padW l).length = 0 ∧ hbytes n (padW l) = []) := by simp [Hid, hcode, hlen, hbytes, hok]
    have h1000 : 1000 < n := by omega
    clear hok
    go_enter Tryd.func17, Tryd.ntmps17
    go_wp2
    go_returns
    rw [Hf.out.1, Hf.out.2.1, Hf.out.2.2]
    exact ⟨⟨none, 0, rfl, Ow.nil_ _ _⟩, by go_grown⟩
theorem specHashOf_any (A : Option Addr) (n c : Nat) (l : List Int) (w : World) (h : Bs w A n l) (hc : A = none → c = 0) (hn : n ≤ 140737488351232) :
    Calls Tryd.prog 18 #[.slice A n c] w (BytesAns (hcode n) (hlen n 32) (hbytes n (hashW l)) w) := by
  by_cases hok : n ≤ 1000
  · have Hf : Hid (hcode n = 0 ∧ hlen n 32 = 32 ∧ hbytes n (hashW l) = hashW l) := by simp [Hid, hcode, hlen, hbytes, hok]
    clear hn
    go_enter Tryd.func18, Tryd.ntmps18
    go_wp2_with fail
    refine (l2Hash_any _ _ _ _ _ (h.alloc _) hc (by omega)).mono ?_
    rintro e w1 ⟨⟨A1, c1, rfl, hrow⟩, hb⟩
    have how := hrow.ow' (hashW_len l)
    have t1 := (Two.new w 26 (.int .i64 0) (.slice none 0 0)).below hb (by simp)
    have hs := hb.size
    simp only [World.size_alloc] at hs how
    obtain ⟨x0, x1, x2, x3⟩ := t1.cells
    go_wp2
    refine bodyPost_ret (v := .agg #[.int .i64 0, .slice A1 32 c1]) (by simp [results, Tryd.results18, go_sem, x0, x1]) rfl ?_
    rw [Hf.out.1, Hf.out.2.1, Hf.out.2.2]
    refine ⟨⟨A1, c1, rfl, ((how.far (p := ⟨w.heap.size, 0, none⟩) (by simp) _).far (p := ⟨w.heap.size, 1, none⟩) (by simp) _).mono (by omega)⟩, ?_⟩
    exact ((ac (ab (Below.refl _ w) _) hb).setCell (by simp) _).setCell (by simp) _
  · have Hf : Hid (hcode n = 2 ∧ hlen n 32 = 0 ∧ hbytes n (hashW l) = []) := by simp [Hid, hcode, hlen, hbytes, hok]
    have h1000 : 1000 < n := by omega
    clear hok
    go_enter Tryd.func18, Tryd.ntmps18
    go_wp2
    go_returns
    rw [Hf.out.1, Hf.out.2.1, Hf.out.2.2]
    exact ⟨⟨none, 0, rfl, Ow.nil_ _ _⟩, by go_grown⟩

/-- the mac's bounds hold: key and data -/
def mok (n m : Nat) : Bool := decide (m ≤ 1000 ∧ n ≤ 64)
def mcode (n m : Nat) : Int := if mok n m = true then 0 else 2
def mlen (n m : Nat) : Nat := if mok n m = true then 32 else 0
def mbytes (n m : Nat) (l : List Int) : List Int := if mok n m = true then l else []

theorem specMacOf_any (A C : Option Addr) (n c m d : Nat) (l r : List Int) (w : World) (h : Bs w A n l) (hr : Bs w C m r) (hd : C = none → d = 0) (hn : n ≤ 140737488351232) (hm : m ≤ 140737488351232) :
    Calls Tryd.prog 19 #[.slice A n c, .slice C m d] w (BytesAns (mcode n m) (mlen n m) (mbytes n m (macW l r)) w) := by
  by_cases hok : mok n m = true
  · have Hf : Hid (mcode n m = 0 ∧ mlen n m = 32 ∧ mbytes n m (macW l r) = macW l r) := by simp [Hid, mcode, mlen, mbytes, hok]
    obtain ⟨m0, n0⟩ : m ≤ 1000 ∧ n ≤ 64 := by simpa [mok] using hok
    clear hn hm hok
    go_enter Tryd.func19, Tryd.ntmps19
    go_wp2_with fail
    refine (l2Mac_any _ _ _ _ _ _ _ _ _ (h.alloc _) (hr.alloc _) hd (by omega)).mono ?_
    rintro e w1 ⟨⟨A1, c1, rfl, hrow⟩, hb⟩
    have how := hrow.ow' (macW_len l r)
    have t1 := (Two.new w 26 (.int .i64 0) (.slice none 0 0)).below hb (by simp)
    have hs := hb.size
    simp only [World.size_alloc] at hs how
    obtain ⟨x0, x1, x2, x3⟩ := t1.cells
    go_wp2
    refine bodyPost_ret (v := .agg #[.int .i64 0, .slice A1 32 c1]) (by simp [results, Tryd.results19, go_sem, x0, x1]) rfl ?_
    rw [Hf.out.1, Hf.out.2.1, Hf.out.2.2]
    refine ⟨⟨A1, c1, rfl, ((how.far (p := ⟨w.heap.size, 0, none⟩) (by simp) _).far (p := ⟨w.heap.size, 1, none⟩) (by simp) _).mono (by omega)⟩, ?_⟩
    exact ((ac (ab (Below.refl _ w) _) hb).setCell (by simp) _).setCell (by simp) _
  · have Hf : Hid (mcode n m = 2 ∧ mlen n m = 0 ∧ mbytes n m (macW l r) = []) := by simp [Hid, mcode, mlen, mbytes, hok]
    have hno : ¬(m ≤ 1000 ∧ n ≤ 64) := by simpa [mok] using hok
    clear hok
    by_cases hm1 : m ≤ 1000
    · have hn1 : 64 < n := by omega
      clear hno
      go_enter Tryd.func19, Tryd.ntmps19
      go_wp2
      go_returns
      rw [Hf.out.1, Hf.out.2.1, Hf.out.2.2]
      exact ⟨⟨none, 0, rfl, Ow.nil_ _ _⟩, by go_grown⟩
    · have hm2 : 1000 < m := by omega
      clear hno hm1
      go_enter Tryd.func19, Tryd.ntmps19
      go_wp2
      go_returns
      rw [Hf.out.1, Hf.out.2.1, Hf.out.2.2]
      exact ⟨⟨none, 0, rfl, Ow.nil_ _ _⟩, by go_grown⟩
end Go.Proofs.YtbjcgdgebbiieaaDoor
