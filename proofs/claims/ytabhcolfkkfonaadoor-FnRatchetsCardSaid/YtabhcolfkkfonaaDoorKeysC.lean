/- The keys, of the model. -/
import Derived.Test.YtabhcolfkkfonaaDoorMacC
import Derived.Test.YtabhcolfkkfonaaDoorSymB
namespace Go.Proofs.YtabhcolfkkfonaaDoor
open Go.RowKit

def firstW (l r : List Int) : List Int := macW (macW l r) [1]
def otherW (l r : List Int) : List Int := macW (macW l r) (firstW l r ++ [2])

theorem l2Keys_any (A C : Option Addr) (n c m d : Nat) (l r : List Int) (w : World) (h : Bs w A n l) (hr : Bs w C m r) (hd : C = none → d = 0) (hm : m ≤ 100000000) :
    Calls Tryd.prog 31 #[.slice A n c, .slice C m d] w fun e w' => (∃ A1 c1 A2 c2, e = .returned (.tuple #[.slice A1 32 c1, .slice A2 32 c2]) ∧ Ow w' w.heap.size A1 32 (firstW l r) ∧ Ow w' w.heap.size A2 32 (otherW l r) ∧ Sunder 32 32 A1 A2) ∧ Below w.heap.size w w' := by
  have Hf : Hid (firstW l r = macW (macW l r) [1]) := rfl
  have Ho : Hid (otherW l r = macW (macW l r) (firstW l r ++ [2])) := rfl
  go_enter Tryd.func31, Tryd.ntmps31
  go_wp2_with fail
  refine (l2Mac_any _ _ _ _ _ _ _ _ _ h hr hd hm).mono ?_
  rintro e w1 ⟨⟨A1, c1, rfl, r1⟩, b1⟩
  have s1 := b1.size
  have o1 := r1.ow' (macW_len l r)
  clear h hr r1
  generalize macW l r = T at *
  go_wp2_with fail
  refine (l2Mac_any _ _ _ _ 1 _ _ [1] _ (o1.bs.alloc _) ((Blk.made w1 [1]).bsn (by intro x hx; simp at hx; omega) rfl) (fun e => by cases e) (by omega)).mono ?_
  rintro e w2 ⟨⟨A2, c2, rfl, r2⟩, b2⟩
  have s2 := b2.size
  rw [World.size_alloc] at s2
  rw [← Hf.out] at r2
  have hfl : (firstW l r).length = 32 := by rw [Hf.out]; exact macW_len _ _
  have B2 := ac (ab b1 (.cells #[.int .u8 1] 5)) b2
  have o12 := (o1.alloc (.cells #[.int .u8 1] 5)).below b2 (Nat.le_refl _)
  have o2 := r2.ow' hfl
  clear o1 r2
  go_wp2_with fail
  refine (copyb_any _ _ _ _ _ o2.bs (o2.bs.cap_ (by omega)) (by omega)).mono ?_
  rintro e w3 ⟨⟨A3, c3, rfl, r3⟩, b3⟩
  have s3 := b3.size
  have o13 := o12.below b3 (Nat.le_refl _)
  have o23 := o2.below b3 (Nat.le_refl _)
  have B3 := ac B2 b3
  go_wp2_with (at_builtin; refine wpList_row_append rfl _ _ rfl _ w2.heap.size (.slice A3 32 c3) (firstW l r) rfl (r3.alloc _) (by simp; omega) ⟨w3.heap.size, 0, none⟩ 1 2 rfl (cell_one _ _ _) (by omega) (by omega) (by rw [hfl]; omega) ?_; intro v4 w4 r4 b4 s4)
  obtain ⟨A4, c4, rfl, o4⟩ := r4.ow (n := 33) (by rw [List.length_append, hfl]; rfl)
  rw [World.size_alloc] at s4
  have o14 := (o13.alloc (.cells #[.int .u8 2] 5)).under b4 o12.top
  have o24 := (o23.alloc (.cells #[.int .u8 2] 5)).under b4 o2.top
  have B4 := (ab B3 (.cells #[.int .u8 2] 5)).trans (b4.mono (by omega))
  refine (l2Mac_any _ _ _ _ 33 _ _ _ _ o14.bs o4.bs (o4.bs.cap_ (by decide)) (by decide)).mono ?_
  rintro e w5 ⟨⟨A5, c5, rfl, r5⟩, b5⟩
  have s5 := b5.size
  rw [← Ho.out] at r5
  have o5 := r5.ow' (by rw [Ho.out]; exact macW_len _ _)
  have o25 := o24.below b5 (Nat.le_refl _)
  have B5 := ac B4 b5
  have p2 : Ow w5 w.heap.size A2 32 (firstW l r) := o25.mono (by rw [World.size_alloc]; omega)
  have p5 : Ow w5 w.heap.size A5 32 (otherW l r) := o5.mono (by omega)
  have ha : Sunder 32 32 A2 A5 := fun hn1 hm1 a b ea eb => by
    have h1 := o2.top hn1 a ea
    have h2 := o5.base hm1 b eb
    omega
  go_wp2
  go_ret2
  exact ⟨⟨A2, c2, A5, c5, rfl, p2, p5, ha⟩, B5⟩
end Go.Proofs.YtabhcolfkkfonaaDoor
