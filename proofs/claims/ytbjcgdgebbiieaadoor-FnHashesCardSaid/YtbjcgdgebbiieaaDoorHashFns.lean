/- PadMessage of the program. -/
import Derived.Test.YtbjcgdgebbiieaaDoorPadP
import Derived.Test.YtbjcgdgebbiieaaDoorHashAns
namespace Go.Proofs.YtbjcgdgebbiieaaDoor
open Go.RowKit

/-- the same, with room for what it holds -/
def BytesAnsC (code : Int) (n : Nat) (l : List Int) (w : World) (e : Ending) (w' : World) : Prop :=
  (∃ A c, e = .returned (.agg #[.int .i64 code, .slice A n c]) ∧ Ow w' w.heap.size A n l ∧ n ≤ c) ∧ Below w.heap.size w w'

theorem implPadMessage_cap (A : Option Addr) (n c : Nat) (l : List Int) (w : World) (h : Bs w A n l) (hn : n ≤ 140737488351232) :
    Calls Tryd.prog 9 #[.slice A n c] w (BytesAnsC (hcode n) (hlen n (padW l).length) (hbytes n (padW l)) w) := by
  by_cases hok : n ≤ 1000
  · have Hf : Shut (hcode n = 0 ∧ hlen n (padW l).length = (padW l).length ∧ hbytes n (padW l) = padW l) := ⟨by simp [hcode, hlen, hbytes, hok]⟩
    clear hn
    have hpb := padW_byte l h.byte
    go_enter Tryd.func9, Tryd.ntmps9
    go_wp2_with fail
    refine (padded_any _ _ _ _ _ (h.alloc _) (by omega)).mono ?_
    rintro e w1 ⟨rfl, hblk, hb⟩
    have how := hblk.own hpb rfl
    rw [World.size_alloc] at how
    have t1 := (Two.new w 26 (.int .i64 0) (.slice none 0 0)).below hb (by simp)
    obtain ⟨x0, x1, x2, x3⟩ := t1.cells
    generalize hL : (padW l).length = L at *
    go_wp2
    refine bodyPost_ret (v := .agg #[.int .i64 0, .slice (some ⟨w.heap.size + 1, 0, none⟩) L L]) (by simp [results, Tryd.results9, go_sem, x0, x1]) rfl ?_
    rw [Hf.out.1, Hf.out.2.1, Hf.out.2.2]
    refine ⟨⟨_, _, rfl, ((how.far (p := ⟨w.heap.size, 0, none⟩) (by simp) _).far (p := ⟨w.heap.size, 1, none⟩) (by simp) _).mono (by omega), Nat.le_refl _⟩, ?_⟩
    exact ((ac (ab (Below.refl _ w) _) hb).setCell (by simp) _).setCell (by simp) _
  · have Hf : Shut (hcode n = 2 ∧ hlen n (padW l).length = 0 ∧ hbytes n (padW l) = []) := ⟨by simp [hcode, hlen, hbytes, hok]⟩
    have h1000 : 1000 < n := by omega
    clear hok
    go_enter Tryd.func9, Tryd.ntmps9
    go_wp2
    go_returns
    rw [Hf.out.1, Hf.out.2.1, Hf.out.2.2]
    exact ⟨⟨none, 0, rfl, Ow.nil_ _ _, Nat.le_refl _⟩, by go_grown⟩
theorem implPadMessage_any (A : Option Addr) (n c : Nat) (l : List Int) (w : World) (h : Bs w A n l) (hn : n ≤ 140737488351232) :
    Calls Tryd.prog 9 #[.slice A n c] w (BytesAns (hcode n) (hlen n (padW l).length) (hbytes n (padW l)) w) :=
  (implPadMessage_cap A n c l w h hn).mono fun _ _ ⟨⟨A', c', he, ho, _⟩, hb⟩ => ⟨⟨A', c', he, ho⟩, hb⟩
theorem hlen_le (n : Nat) : hlen n 32 ≤ 2000 := by unfold hlen; split <;> omega
theorem hpadlen (n : Nat) (l : List Int) (h : l.length = n) : hlen n (padW l).length ≤ 2000 := by
  unfold hlen
  split
  · rw [padW_len]; have := padN_lt l.length; omega
  · omega
theorem mlen_le (n m : Nat) : mlen n m ≤ 2000 := by unfold mlen; split <;> omega
end Go.Proofs.YtbjcgdgebbiieaaDoor
