/- The blocks of the stream, of the model. -/
import Derived.Test.YtpoiecdifhkegaaDoorShaC
import Derived.Test.YtpoiecdifhkegaaDoorBase
import Derived.Deep.CutRange
namespace Go.Proofs.YtpoiecdifhkegaaDoor
open Go.RowKit

theorem set_same (V : List Int) (a : Nat) (x : Int) (h : a < V.length) : (V.set a x).getD a 0 = x := by simp [List.getD, List.getElem?_set_self h]
theorem set_other (V : List Int) (a b : Nat) (x : Int) (h : a ≠ b) : (V.set a x).getD b 0 = V.getD b 0 := by simp [List.getD, List.getElem?_set_ne h]

/-- four places of a row of words of the call's own, and what lies there -/
structure Q4 (w : World) (g : Nat) (V : List Int) (a b c d : Nat) (x y z u : Int) : Prop where
  k : KOw .u32 w g V
  la : a < V.length
  lb : b < V.length
  lc : c < V.length
  ld : d < V.length
  ab : a ≠ b
  ac : a ≠ c
  ad : a ≠ d
  bc : b ≠ c
  bd : b ≠ d
  cd : c ≠ d
  ha : V.getD a 0 = x
  hb : V.getD b 0 = y
  hc : V.getD c 0 = z
  hd : V.getD d 0 = u
section
variable {w : World} {g : Nat} {V : List Int} {a b c d : Nat} {x y z u : Int}
theorem Q4.seta (h : Q4 w g V a b c d x y z u) (t : Int) : Q4 (w.setCell ⟨g, a, none⟩ (.int .u32 t)).drew g (V.set a t) a b c d t y z u :=
  ⟨(h.k.set_ a h.la t).drew, by simpa using h.la, by simpa using h.lb, by simpa using h.lc, by simpa using h.ld, h.ab, h.ac, h.ad, h.bc, h.bd, h.cd,
    set_same _ _ _ h.la, by rw [set_other _ _ _ _ h.ab]; exact h.hb, by rw [set_other _ _ _ _ h.ac]; exact h.hc, by rw [set_other _ _ _ _ h.ad]; exact h.hd⟩
theorem Q4.rot (h : Q4 w g V a b c d x y z u) : Q4 w g V b c d a y z u x :=
  ⟨h.k, h.lb, h.lc, h.ld, h.la, h.bc, h.bd, h.ab.symm, h.cd, h.ac.symm, h.ad.symm, h.hb, h.hc, h.hd, h.ha⟩
theorem Q4.setb (h : Q4 w g V a b c d x y z u) (t : Int) : Q4 (w.setCell ⟨g, b, none⟩ (.int .u32 t)).drew g (V.set b t) a b c d x t z u := (h.rot.seta t).rot.rot.rot
theorem Q4.setc (h : Q4 w g V a b c d x y z u) (t : Int) : Q4 (w.setCell ⟨g, c, none⟩ (.int .u32 t)).drew g (V.set c t) a b c d x y t u := (h.rot.rot.seta t).rot.rot
theorem Q4.setd (h : Q4 w g V a b c d x y z u) (t : Int) : Q4 (w.setCell ⟨g, d, none⟩ (.int .u32 t)).drew g (V.set d t) a b c d x y z t := (h.rot.rot.rot.seta t).rot
theorem Q4.cell (h : Q4 w g V a b c d x y z u) : w.cell? ⟨g, a, none⟩ = some (.int .u32 x) := by have := h.k.cell a h.la; rwa [h.ha] at this
theorem Q4.fz (h : Q4 w g V a b c d x y z u) : w.frozen? ⟨g, a, none⟩ = false := h.k.frozen a
end

/-- half a quarter of a turn -/
def halfQ (r s : Int) (q : Int × Int × Int × Int) : Int × Int × Int × Int :=
  (addW q.1 q.2.1,
   turn (xorW q.2.1 (addW q.2.2.1 (turn (xorW q.2.2.2 (addW q.1 q.2.1)) r))) s,
   addW q.2.2.1 (turn (xorW q.2.2.2 (addW q.1 q.2.1)) r),
   turn (xorW q.2.2.2 (addW q.1 q.2.1)) r)
def wholeQ (x y z u : Int) : Int × Int × Int × Int := halfQ 8 7 (halfQ 16 12 (x, y, z, u))
def put4 (V : List Int) (a b c d : Nat) (q : Int × Int × Int × Int) : List Int := (((V.set a q.1).set b q.2.1).set c q.2.2.1).set d q.2.2.2
/-- four words of a row, turned -/
def qr (V : List Int) (a b c d : Nat) : List Int := put4 V a b c d (wholeQ (V.getD a 0) (V.getD b 0) (V.getD c 0) (V.getD d 0))
theorem put4_len (V : List Int) (a b c d : Nat) (q : Int × Int × Int × Int) : (put4 V a b c d q).length = V.length := by simp [put4]
theorem qr_len (V : List Int) (a b c d : Nat) : (qr V a b c d).length = V.length := put4_len _ _ _ _ _ _
theorem eight_sets (V : List Int) (a b c d : Nat) (x1 u1 z1 y1 x2 u2 z2 y2 : Int) (hbc : b ≠ c) (hbd : b ≠ d) (hcd : c ≠ d) :
    (((((((V.set a x1).set d u1).set c z1).set b y1).set a x2).set d u2).set c z2).set b y2 = put4 V a b c d (x2, y2, z2, u2) := by
  unfold put4
  apply List.ext_getElem?
  intro i
  simp only [List.getElem?_set]
  grind

set_option maxRecDepth 100000 in
set_option maxHeartbeats 4000000 in
theorem l3Quarter_any (g cp : Nat) (V : List Int) (a b c d : Nat) (w : World) (h : KOw .u32 w g V) (hV : V.length = 16)
    (ha : a < 16) (hb : b < 16) (hc : c < 16) (hd : d < 16) (hab : a ≠ b) (hac : a ≠ c) (had : a ≠ d) (hbc : b ≠ c) (hbd : b ≠ d) (hcd : c ≠ d) :
    Calls Tryd.prog 66 #[.slice (some ⟨g, 0, none⟩) 16 cp, .int .i64 a, .int .i64 b, .int .i64 c, .int .i64 d] w fun e w' => e = .returned (.tuple #[]) ∧ KOw .u32 w' g (qr V a b c d) ∧ But g w.heap.size w w' := by
  have q0 : Q4 w g V a b c d _ _ _ _ := ⟨h, by omega, by omega, by omega, by omega, hab, hac, had, hbc, hbd, hcd, rfl, rfl, rfl, rfl⟩
  have B0 : But g w.heap.size w w := But.refl _ _ _
  have HQ := Lib.hid (show qr V a b c d = put4 V a b c d (wholeQ (V.getD a 0) (V.getD b 0) (V.getD c 0) (V.getD d 0)) from rfl)
  have H8 := fun x1 u1 z1 y1 x2 u2 z2 y2 => Lib.hid (eight_sets V a b c d x1 u1 z1 y1 x2 u2 z2 y2 hbc hbd hcd)
  generalize V.getD a 0 = va at *
  generalize V.getD b 0 = vb at *
  generalize V.getD c 0 = vc at *
  generalize V.getD d 0 = vd at *
  generalize qr V a b c d = VQ at *
  have ia : (a : Int) < 16 := by omega
  have ib : (b : Int) < 16 := by omega
  have ic : (c : Int) < 16 := by omega
  have id' : (d : Int) < 16 := by omega
  clear h hV hab hac had hbc hbd hcd
  go_enter Tryd.func66, Tryd.ntmps66
  have c1 := q0.cell
  have c2 := q0.rot.cell
  have c3 := q0.fz
  go_wp2
  go_region
  go_wp2
  have q1 := q0.seta ((va + vb) % 4294967296)
  have B1 := (B0.setCell a (.int .u32 ((va + vb) % 4294967296))).drewN 1
  rw [show ∀ x : World, x.drewN 1 = x.drew from fun _ => rfl] at B1
  clear c1 c2 c3 q0 B0
  generalize hw1 : (w.setCell ⟨g, a, none⟩ (.int .u32 ((va + vb) % 4294967296))).drew = w1 at *
  generalize ex1 : ((va + vb) % 4294967296) = x1 at *
  have Ex1 := Lib.hid ex1
  clear hw1 ex1
  have c1 := q1.rot.rot.rot.cell
  have c2 := q1.cell
  have c3 := q1.rot.rot.rot.fz
  go_wp2
  go_cut [22] from 22 to 34 (fun s wx => s = .slice (some ⟨g, 0, none⟩) 16 cp ∧ wx = (w1.setCell ⟨g, d, none⟩ (.int .u32 (turn (xorW vd x1) 16))).drew)
  case first =>
    go_region_law (first | (go_simp; go_at_call 80; refine (Turn_any _ _ (by omega) (by omega) _).mono ?_; rintro e w' ⟨rfl, rfl⟩))
    all_goals
      go_wp2_with fail
      go_meet
      exact ⟨rfl, rfl⟩
  obtain ⟨rfl, rfl⟩ := hcut
  have q2 := q1.setd (turn (xorW vd x1) 16)
  have B2 := (B1.setCell d (.int .u32 (turn (xorW vd x1) 16))).drewN 1
  rw [show ∀ x : World, x.drewN 1 = x.drew from fun _ => rfl] at B2
  clear c1 c2 c3 q1 B1
  generalize hw2 : (w1.setCell ⟨g, d, none⟩ (.int .u32 (turn (xorW vd x1) 16))).drew = w2 at *
  generalize eu1 : (turn (xorW vd x1) 16) = u1 at *
  have Eu1 := Lib.hid eu1
  clear hw2 eu1
  have c1 := q2.rot.rot.cell
  have c2 := q2.rot.rot.rot.cell
  have c3 := q2.rot.rot.fz
  go_wp2
  go_region
  go_wp2
  have q3 := q2.setc ((vc + u1) % 4294967296)
  have B3 := (B2.setCell c (.int .u32 ((vc + u1) % 4294967296))).drewN 1
  rw [show ∀ x : World, x.drewN 1 = x.drew from fun _ => rfl] at B3
  clear c1 c2 c3 q2 B2
  generalize hw3 : (w2.setCell ⟨g, c, none⟩ (.int .u32 ((vc + u1) % 4294967296))).drew = w3 at *
  generalize ez1 : ((vc + u1) % 4294967296) = z1 at *
  have Ez1 := Lib.hid ez1
  clear hw3 ez1
  have c1 := q3.rot.cell
  have c2 := q3.rot.rot.cell
  have c3 := q3.rot.fz
  go_wp2
  go_cut [47] from 47 to 59 (fun s wx => s = .slice (some ⟨g, 0, none⟩) 16 cp ∧ wx = (w3.setCell ⟨g, b, none⟩ (.int .u32 (turn (xorW vb z1) 12))).drew)
  case first =>
    go_region_law (first | (go_simp; go_at_call 80; refine (Turn_any _ _ (by omega) (by omega) _).mono ?_; rintro e w' ⟨rfl, rfl⟩))
    all_goals
      go_wp2_with fail
      go_meet
      exact ⟨rfl, rfl⟩
  obtain ⟨rfl, rfl⟩ := hcut
  have q4 := q3.setb (turn (xorW vb z1) 12)
  have B4 := (B3.setCell b (.int .u32 (turn (xorW vb z1) 12))).drewN 1
  rw [show ∀ x : World, x.drewN 1 = x.drew from fun _ => rfl] at B4
  clear c1 c2 c3 q3 B3
  generalize hw4 : (w3.setCell ⟨g, b, none⟩ (.int .u32 (turn (xorW vb z1) 12))).drew = w4 at *
  generalize ey1 : (turn (xorW vb z1) 12) = y1 at *
  have Ey1 := Lib.hid ey1
  clear hw4 ey1
  have c1 := q4.cell
  have c2 := q4.rot.cell
  have c3 := q4.fz
  go_wp2
  go_region
  go_wp2
  have q5 := q4.seta ((x1 + y1) % 4294967296)
  have B5 := (B4.setCell a (.int .u32 ((x1 + y1) % 4294967296))).drewN 1
  rw [show ∀ x : World, x.drewN 1 = x.drew from fun _ => rfl] at B5
  clear c1 c2 c3 q4 B4
  generalize hw5 : (w4.setCell ⟨g, a, none⟩ (.int .u32 ((x1 + y1) % 4294967296))).drew = w5 at *
  generalize ex2 : ((x1 + y1) % 4294967296) = x2 at *
  have Ex2 := Lib.hid ex2
  clear hw5 ex2
  have c1 := q5.rot.rot.rot.cell
  have c2 := q5.cell
  have c3 := q5.rot.rot.rot.fz
  go_wp2
  go_cut [72] from 72 to 84 (fun s wx => s = .slice (some ⟨g, 0, none⟩) 16 cp ∧ wx = (w5.setCell ⟨g, d, none⟩ (.int .u32 (turn (xorW u1 x2) 8))).drew)
  case first =>
    go_region_law (first | (go_simp; go_at_call 80; refine (Turn_any _ _ (by omega) (by omega) _).mono ?_; rintro e w' ⟨rfl, rfl⟩))
    all_goals
      go_wp2_with fail
      go_meet
      exact ⟨rfl, rfl⟩
  obtain ⟨rfl, rfl⟩ := hcut
  have q6 := q5.setd (turn (xorW u1 x2) 8)
  have B6 := (B5.setCell d (.int .u32 (turn (xorW u1 x2) 8))).drewN 1
  rw [show ∀ x : World, x.drewN 1 = x.drew from fun _ => rfl] at B6
  clear c1 c2 c3 q5 B5
  generalize hw6 : (w5.setCell ⟨g, d, none⟩ (.int .u32 (turn (xorW u1 x2) 8))).drew = w6 at *
  generalize eu2 : (turn (xorW u1 x2) 8) = u2 at *
  have Eu2 := Lib.hid eu2
  clear hw6 eu2
  have c1 := q6.rot.rot.cell
  have c2 := q6.rot.rot.rot.cell
  have c3 := q6.rot.rot.fz
  go_wp2
  go_region
  go_wp2
  have q7 := q6.setc ((z1 + u2) % 4294967296)
  have B7 := (B6.setCell c (.int .u32 ((z1 + u2) % 4294967296))).drewN 1
  rw [show ∀ x : World, x.drewN 1 = x.drew from fun _ => rfl] at B7
  clear c1 c2 c3 q6 B6
  generalize hw7 : (w6.setCell ⟨g, c, none⟩ (.int .u32 ((z1 + u2) % 4294967296))).drew = w7 at *
  generalize ez2 : ((z1 + u2) % 4294967296) = z2 at *
  have Ez2 := Lib.hid ez2
  clear hw7 ez2
  have c1 := q7.rot.cell
  have c2 := q7.rot.rot.cell
  have c3 := q7.rot.fz
  have q8 := q7.setb (turn (xorW y1 z2) 7)
  have B8 := (B7.setCell b (.int .u32 (turn (xorW y1 z2) 7))).drewN 1
  rw [show ∀ x : World, x.drewN 1 = x.drew from fun _ => rfl] at B8
  have k := q8.k
  rw [(H8 _ _ _ _ _ _ _ _).out] at k
  have hq : wholeQ va vb vc vd = (x2, turn (xorW y1 z2) 7, z2, u2) := by
    rw [← Ez2.out, ← Eu2.out, ← Ex2.out, ← Ey1.out, ← Ez1.out, ← Eu1.out, ← Ex1.out]
    rfl
  rw [← hq, ← HQ.out] at k
  have K := Lib.hid k
  have B := Lib.hid B8
  clear k B8 hq q8 q7 B7
  go_wp2
  go_region_law (first | (go_simp; go_at_call 80; refine (Turn_any _ _ (by omega) (by omega) _).mono ?_; rintro e w' ⟨rfl, rfl⟩))
  all_goals
    go_wp2
    go_end0
    exact ⟨rfl, K.out, B.out⟩
end Go.Proofs.YtpoiecdifhkegaaDoor
