/- The blocks of the stream, of the model. -/
import Derived.Test.YtcanmhlhnihijaaShaC
import Derived.Test.YtcanmhlhnihijaaDrawC
import Derived.Deep.CutRange
namespace Go.Proofs.Ytcanmhlhnihijaa
open Go.RowKit

theorem set_same (V : List Int) (a : Nat) (x : Int) (h : a < V.length) : (V.set a x).getD a 0 = x := by simp [List.getD, List.getElem?_set_self h]
theorem set_other (V : List Int) (a b : Nat) (x : Int) (h : a ≠ b) : (V.set a x).getD b 0 = V.getD b 0 := by simp [List.getD, List.getElem?_set_ne h]

/-- four places of a row of words of the call's own, and what lies there -/
structure Q4 (w : World) (g : Nat) (V : List Int) (a b c d : Nat) (x y z u : Int) : Prop where
  k : KOw .u32 w g V
  la : a < V.length
  lb : b < V.length
  lc : c < V.length
  ld : d < V.length
  ab : a ≠ b
  ac : a ≠ c
  ad : a ≠ d
  bc : b ≠ c
  bd : b ≠ d
  cd : c ≠ d
  ha : V.getD a 0 = x
  hb : V.getD b 0 = y
  hc : V.getD c 0 = z
  hd : V.getD d 0 = u
section
variable {w : World} {g : Nat} {V : List Int} {a b c d : Nat} {x y z u : Int}
theorem Q4.seta (h : Q4 w g V a b c d x y z u) (t : Int) : Q4 (w.setCell ⟨g, a, none⟩ (.int .u32 t)).drew g (V.set a t) a b c d t y z u :=
  ⟨(h.k.set_ a h.la t).drew, by simpa using h.la, by simpa using h.lb, by simpa using h.lc, by simpa using h.ld, h.ab, h.ac, h.ad, h.bc, h.bd, h.cd,
    set_same _ _ _ h.la, by rw [set_other _ _ _ _ h.ab]; exact h.hb, by rw [set_other _ _ _ _ h.ac]; exact h.hc, by rw [set_other _ _ _ _ h.ad]; exact h.hd⟩
theorem Q4.rot (h : Q4 w g V a b c d x y z u) : Q4 w g V b c d a y z u x :=
  ⟨h.k, h.lb, h.lc, h.ld, h.la, h.bc, h.bd, h.ab.symm, h.cd, h.ac.symm, h.ad.symm, h.hb, h.hc, h.hd, h.ha⟩
theorem Q4.setb (h : Q4 w g V a b c d x y z u) (t : Int) : Q4 (w.setCell ⟨g, b, none⟩ (.int .u32 t)).drew g (V.set b t) a b c d x t z u := (h.rot.seta t).rot.rot.rot
theorem Q4.setc (h : Q4 w g V a b c d x y z u) (t : Int) : Q4 (w.setCell ⟨g, c, none⟩ (.int .u32 t)).drew g (V.set c t) a b c d x y t u := (h.rot.rot.seta t).rot.rot
theorem Q4.setd (h : Q4 w g V a b c d x y z u) (t : Int) : Q4 (w.setCell ⟨g, d, none⟩ (.int .u32 t)).drew g (V.set d t) a b c d x y z t := (h.rot.rot.rot.seta t).rot
theorem Q4.cell (h : Q4 w g V a b c d x y z u) : w.cell? ⟨g, a, none⟩ = some (.int .u32 x) := by have := h.k.cell a h.la; rwa [h.ha] at this
theorem Q4.fz (h : Q4 w g V a b c d x y z u) : w.frozen? ⟨g, a, none⟩ = false := h.k.frozen a
end

/-- half a quarter of a turn -/
def halfQ (r s : Int) (q : Int × Int × Int × Int) : Int × Int × Int × Int :=
  (addW q.1 q.2.1,
   turn (xorW q.2.1 (addW q.2.2.1 (turn (xorW q.2.2.2 (addW q.1 q.2.1)) r))) s,
   addW q.2.2.1 (turn (xorW q.2.2.2 (addW q.1 q.2.1)) r),
   turn (xorW q.2.2.2 (addW q.1 q.2.1)) r)
def wholeQ (x y z u : Int) : Int × Int × Int × Int := halfQ 8 7 (halfQ 16 12 (x, y, z, u))
def put4 (V : List Int) (a b c d : Nat) (q : Int × Int × Int × Int) : List Int := (((V.set a q.1).set b q.2.1).set c q.2.2.1).set d q.2.2.2
/-- four words of a row, turned -/
def qr (V : List Int) (a b c d : Nat) : List Int := put4 V a b c d (wholeQ (V.getD a 0) (V.getD b 0) (V.getD c 0) (V.getD d 0))
theorem put4_len (V : List Int) (a b c d : Nat) (q : Int × Int × Int × Int) : (put4 V a b c d q).length = V.length := by simp [put4]
theorem qr_len (V : List Int) (a b c d : Nat) : (qr V a b c d).length = V.length := put4_len _ _ _ _ _ _
theorem eight_sets (V : List Int) (a b c d : Nat) (x1 u1 z1 y1 x2 u2 z2 y2 : Int) (hbc : b ≠ c) (hbd : b ≠ d) (hcd : c ≠ d) :
    (((((((V.set a x1).set d u1).set c z1).set b y1).set a x2).set d u2).set c z2).set b y2 = put4 V a b c d (x2, y2, z2, u2) := by
  unfold put4
  apply List.ext_getElem?
  intro i
  simp only [List.getElem?_set]
  grind

end Go.Proofs.Ytcanmhlhnihijaa
