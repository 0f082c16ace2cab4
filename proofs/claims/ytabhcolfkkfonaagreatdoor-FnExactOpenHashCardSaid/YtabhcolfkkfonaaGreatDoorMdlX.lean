import Derived.Test.YtabhcolfkkfonaaGreatDoorShaC
import Derived.Test.YtabhcolfkkfonaaGreatDoorBase
import Derived.Deep.CutRange
import Derived.Test.YtabhcolfkkfonaaGreatDoorShaD
import Derived.Test.YtabhcolfkkfonaaGreatDoorStartC
import Derived.Test.YtabhcolfkkfonaaGreatDoorPolX
import Derived.Deep.RegionHeld

/-! ChaC -/
/- The blocks of the stream, of the model. -/
namespace Go.Proofs.YtabhcolfkkfonaaGreatDoor
open Go.RowKit

theorem set_same (V : List Int) (a : Nat) (x : Int) (h : a < V.length) : (V.set a x).getD a 0 = x := by simp [List.getD, List.getElem?_set_self h]
theorem set_other (V : List Int) (a b : Nat) (x : Int) (h : a ≠ b) : (V.set a x).getD b 0 = V.getD b 0 := by simp [List.getD, List.getElem?_set_ne h]

/-- four places of a row of words of the call's own, and what lies there -/
structure Q4 (w : World) (g : Nat) (V : List Int) (a b c d : Nat) (x y z u : Int) : Prop where
  k : KOw .u32 w g V
  la : a < V.length
  lb : b < V.length
  lc : c < V.length
  ld : d < V.length
  ab : a ≠ b
  ac : a ≠ c
  ad : a ≠ d
  bc : b ≠ c
  bd : b ≠ d
  cd : c ≠ d
  ha : V.getD a 0 = x
  hb : V.getD b 0 = y
  hc : V.getD c 0 = z
  hd : V.getD d 0 = u
section
variable {w : World} {g : Nat} {V : List Int} {a b c d : Nat} {x y z u : Int}
theorem Q4.seta (h : Q4 w g V a b c d x y z u) (t : Int) : Q4 (w.setCell ⟨g, a, none⟩ (.int .u32 t)).drew g (V.set a t) a b c d t y z u :=
  ⟨(h.k.set_ a h.la t).drew, by simpa using h.la, by simpa using h.lb, by simpa using h.lc, by simpa using h.ld, h.ab, h.ac, h.ad, h.bc, h.bd, h.cd,
    set_same _ _ _ h.la, by rw [set_other _ _ _ _ h.ab]; exact h.hb, by rw [set_other _ _ _ _ h.ac]; exact h.hc, by rw [set_other _ _ _ _ h.ad]; exact h.hd⟩
theorem Q4.rot (h : Q4 w g V a b c d x y z u) : Q4 w g V b c d a y z u x :=
  ⟨h.k, h.lb, h.lc, h.ld, h.la, h.bc, h.bd, h.ab.symm, h.cd, h.ac.symm, h.ad.symm, h.hb, h.hc, h.hd, h.ha⟩
theorem Q4.setb (h : Q4 w g V a b c d x y z u) (t : Int) : Q4 (w.setCell ⟨g, b, none⟩ (.int .u32 t)).drew g (V.set b t) a b c d x t z u := (h.rot.seta t).rot.rot.rot
theorem Q4.setc (h : Q4 w g V a b c d x y z u) (t : Int) : Q4 (w.setCell ⟨g, c, none⟩ (.int .u32 t)).drew g (V.set c t) a b c d x y t u := (h.rot.rot.seta t).rot.rot
theorem Q4.setd (h : Q4 w g V a b c d x y z u) (t : Int) : Q4 (w.setCell ⟨g, d, none⟩ (.int .u32 t)).drew g (V.set d t) a b c d x y z t := (h.rot.rot.rot.seta t).rot
theorem Q4.cell (h : Q4 w g V a b c d x y z u) : w.cell? ⟨g, a, none⟩ = some (.int .u32 x) := by have := h.k.cell a h.la; rwa [h.ha] at this
theorem Q4.fz (h : Q4 w g V a b c d x y z u) : w.frozen? ⟨g, a, none⟩ = false := h.k.frozen a
end

/-- half a quarter of a turn -/
def halfQ (r s : Int) (q : Int × Int × Int × Int) : Int × Int × Int × Int :=
  (addW q.1 q.2.1,
   turn (xorW q.2.1 (addW q.2.2.1 (turn (xorW q.2.2.2 (addW q.1 q.2.1)) r))) s,
   addW q.2.2.1 (turn (xorW q.2.2.2 (addW q.1 q.2.1)) r),
   turn (xorW q.2.2.2 (addW q.1 q.2.1)) r)
def wholeQ (x y z u : Int) : Int × Int × Int × Int := halfQ 8 7 (halfQ 16 12 (x, y, z, u))
def put4 (V : List Int) (a b c d : Nat) (q : Int × Int × Int × Int) : List Int := (((V.set a q.1).set b q.2.1).set c q.2.2.1).set d q.2.2.2
/-- four words of a row, turned -/
def qr (V : List Int) (a b c d : Nat) : List Int := put4 V a b c d (wholeQ (V.getD a 0) (V.getD b 0) (V.getD c 0) (V.getD d 0))
theorem put4_len (V : List Int) (a b c d : Nat) (q : Int × Int × Int × Int) : (put4 V a b c d q).length = V.length := by simp [put4]
theorem qr_len (V : List Int) (a b c d : Nat) : (qr V a b c d).length = V.length := put4_len _ _ _ _ _ _
theorem eight_sets (V : List Int) (a b c d : Nat) (x1 u1 z1 y1 x2 u2 z2 y2 : Int) (hbc : b ≠ c) (hbd : b ≠ d) (hcd : c ≠ d) :
    (((((((V.set a x1).set d u1).set c z1).set b y1).set a x2).set d u2).set c z2).set b y2 = put4 V a b c d (x2, y2, z2, u2) := by
  unfold put4
  apply List.ext_getElem?
  intro i
  simp only [List.getElem?_set]
  grind

set_option maxRecDepth 100000 in
set_option maxHeartbeats 4000000 in
theorem l3Quarter_any (g cp : Nat) (V : List Int) (a b c d : Nat) (w : World) (h : KOw .u32 w g V) (hV : V.length = 16)
    (ha : a < 16) (hb : b < 16) (hc : c < 16) (hd : d < 16) (hab : a ≠ b) (hac : a ≠ c) (had : a ≠ d) (hbc : b ≠ c) (hbd : b ≠ d) (hcd : c ≠ d) :
    Calls Tryz.prog 232 #[.slice (some ⟨g, 0, none⟩) 16 cp, .int .i64 a, .int .i64 b, .int .i64 c, .int .i64 d] w fun e w' => e = .returned (.tuple #[]) ∧ KOw .u32 w' g (qr V a b c d) ∧ But g w.heap.size w w' := by
  have q0 : Q4 w g V a b c d _ _ _ _ := ⟨h, by omega, by omega, by omega, by omega, hab, hac, had, hbc, hbd, hcd, rfl, rfl, rfl, rfl⟩
  have B0 : But g w.heap.size w w := But.refl _ _ _
  have HQ := Lib.hid (show qr V a b c d = put4 V a b c d (wholeQ (V.getD a 0) (V.getD b 0) (V.getD c 0) (V.getD d 0)) from rfl)
  have H8 := fun x1 u1 z1 y1 x2 u2 z2 y2 => Lib.hid (eight_sets V a b c d x1 u1 z1 y1 x2 u2 z2 y2 hbc hbd hcd)
  generalize V.getD a 0 = va at *
  generalize V.getD b 0 = vb at *
  generalize V.getD c 0 = vc at *
  generalize V.getD d 0 = vd at *
  generalize qr V a b c d = VQ at *
  have ia : (a : Int) < 16 := by omega
  have ib : (b : Int) < 16 := by omega
  have ic : (c : Int) < 16 := by omega
  have id' : (d : Int) < 16 := by omega
  clear h hV hab hac had hbc hbd hcd
  go_enter Tryz.func232, Tryz.ntmps232
  have c1 := q0.cell
  have c2 := q0.rot.cell
  have c3 := q0.fz
  go_wp2
  go_region
  go_wp2
  have q1 := q0.seta ((va + vb) % 4294967296)
  have B1 := (B0.setCell a (.int .u32 ((va + vb) % 4294967296))).drewN 1
  rw [show ∀ x : World, x.drewN 1 = x.drew from fun _ => rfl] at B1
  clear c1 c2 c3 q0 B0
  generalize hw1 : (w.setCell ⟨g, a, none⟩ (.int .u32 ((va + vb) % 4294967296))).drew = w1 at *
  generalize ex1 : ((va + vb) % 4294967296) = x1 at *
  have Ex1 := Lib.hid ex1
  clear hw1 ex1
  have c1 := q1.rot.rot.rot.cell
  have c2 := q1.cell
  have c3 := q1.rot.rot.rot.fz
  go_wp2
  go_cut [22] from 22 to 34 (fun s wx => s = .slice (some ⟨g, 0, none⟩) 16 cp ∧ wx = (w1.setCell ⟨g, d, none⟩ (.int .u32 (turn (xorW vd x1) 16))).drew)
  case first =>
    go_region_law (first | (go_simp; go_at_call 235; refine (Turn_any _ _ (by omega) (by omega) _).mono ?_; rintro e w' ⟨rfl, rfl⟩))
    all_goals
      go_wp2_with fail
      go_meet
      exact ⟨rfl, rfl⟩
  obtain ⟨rfl, rfl⟩ := hcut
  have q2 := q1.setd (turn (xorW vd x1) 16)
  have B2 := (B1.setCell d (.int .u32 (turn (xorW vd x1) 16))).drewN 1
  rw [show ∀ x : World, x.drewN 1 = x.drew from fun _ => rfl] at B2
  clear c1 c2 c3 q1 B1
  generalize hw2 : (w1.setCell ⟨g, d, none⟩ (.int .u32 (turn (xorW vd x1) 16))).drew = w2 at *
  generalize eu1 : (turn (xorW vd x1) 16) = u1 at *
  have Eu1 := Lib.hid eu1
  clear hw2 eu1
  have c1 := q2.rot.rot.cell
  have c2 := q2.rot.rot.rot.cell
  have c3 := q2.rot.rot.fz
  go_wp2
  go_region
  go_wp2
  have q3 := q2.setc ((vc + u1) % 4294967296)
  have B3 := (B2.setCell c (.int .u32 ((vc + u1) % 4294967296))).drewN 1
  rw [show ∀ x : World, x.drewN 1 = x.drew from fun _ => rfl] at B3
  clear c1 c2 c3 q2 B2
  generalize hw3 : (w2.setCell ⟨g, c, none⟩ (.int .u32 ((vc + u1) % 4294967296))).drew = w3 at *
  generalize ez1 : ((vc + u1) % 4294967296) = z1 at *
  have Ez1 := Lib.hid ez1
  clear hw3 ez1
  have c1 := q3.rot.cell
  have c2 := q3.rot.rot.cell
  have c3 := q3.rot.fz
  go_wp2
  go_cut [47] from 47 to 59 (fun s wx => s = .slice (some ⟨g, 0, none⟩) 16 cp ∧ wx = (w3.setCell ⟨g, b, none⟩ (.int .u32 (turn (xorW vb z1) 12))).drew)
  case first =>
    go_region_law (first | (go_simp; go_at_call 235; refine (Turn_any _ _ (by omega) (by omega) _).mono ?_; rintro e w' ⟨rfl, rfl⟩))
    all_goals
      go_wp2_with fail
      go_meet
      exact ⟨rfl, rfl⟩
  obtain ⟨rfl, rfl⟩ := hcut
  have q4 := q3.setb (turn (xorW vb z1) 12)
  have B4 := (B3.setCell b (.int .u32 (turn (xorW vb z1) 12))).drewN 1
  rw [show ∀ x : World, x.drewN 1 = x.drew from fun _ => rfl] at B4
  clear c1 c2 c3 q3 B3
  generalize hw4 : (w3.setCell ⟨g, b, none⟩ (.int .u32 (turn (xorW vb z1) 12))).drew = w4 at *
  generalize ey1 : (turn (xorW vb z1) 12) = y1 at *
  have Ey1 := Lib.hid ey1
  clear hw4 ey1
  have c1 := q4.cell
  have c2 := q4.rot.cell
  have c3 := q4.fz
  go_wp2
  go_region
  go_wp2
  have q5 := q4.seta ((x1 + y1) % 4294967296)
  have B5 := (B4.setCell a (.int .u32 ((x1 + y1) % 4294967296))).drewN 1
  rw [show ∀ x : World, x.drewN 1 = x.drew from fun _ => rfl] at B5
  clear c1 c2 c3 q4 B4
  generalize hw5 : (w4.setCell ⟨g, a, none⟩ (.int .u32 ((x1 + y1) % 4294967296))).drew = w5 at *
  generalize ex2 : ((x1 + y1) % 4294967296) = x2 at *
  have Ex2 := Lib.hid ex2
  clear hw5 ex2
  have c1 := q5.rot.rot.rot.cell
  have c2 := q5.cell
  have c3 := q5.rot.rot.rot.fz
  go_wp2
  go_cut [72] from 72 to 84 (fun s wx => s = .slice (some ⟨g, 0, none⟩) 16 cp ∧ wx = (w5.setCell ⟨g, d, none⟩ (.int .u32 (turn (xorW u1 x2) 8))).drew)
  case first =>
    go_region_law (first | (go_simp; go_at_call 235; refine (Turn_any _ _ (by omega) (by omega) _).mono ?_; rintro e w' ⟨rfl, rfl⟩))
    all_goals
      go_wp2_with fail
      go_meet
      exact ⟨rfl, rfl⟩
  obtain ⟨rfl, rfl⟩ := hcut
  have q6 := q5.setd (turn (xorW u1 x2) 8)
  have B6 := (B5.setCell d (.int .u32 (turn (xorW u1 x2) 8))).drewN 1
  rw [show ∀ x : World, x.drewN 1 = x.drew from fun _ => rfl] at B6
  clear c1 c2 c3 q5 B5
  generalize hw6 : (w5.setCell ⟨g, d, none⟩ (.int .u32 (turn (xorW u1 x2) 8))).drew = w6 at *
  generalize eu2 : (turn (xorW u1 x2) 8) = u2 at *
  have Eu2 := Lib.hid eu2
  clear hw6 eu2
  have c1 := q6.rot.rot.cell
  have c2 := q6.rot.rot.rot.cell
  have c3 := q6.rot.rot.fz
  go_wp2
  go_region
  go_wp2
  have q7 := q6.setc ((z1 + u2) % 4294967296)
  have B7 := (B6.setCell c (.int .u32 ((z1 + u2) % 4294967296))).drewN 1
  rw [show ∀ x : World, x.drewN 1 = x.drew from fun _ => rfl] at B7
  clear c1 c2 c3 q6 B6
  generalize hw7 : (w6.setCell ⟨g, c, none⟩ (.int .u32 ((z1 + u2) % 4294967296))).drew = w7 at *
  generalize ez2 : ((z1 + u2) % 4294967296) = z2 at *
  have Ez2 := Lib.hid ez2
  clear hw7 ez2
  have c1 := q7.rot.cell
  have c2 := q7.rot.rot.cell
  have c3 := q7.rot.fz
  have q8 := q7.setb (turn (xorW y1 z2) 7)
  have B8 := (B7.setCell b (.int .u32 (turn (xorW y1 z2) 7))).drewN 1
  rw [show ∀ x : World, x.drewN 1 = x.drew from fun _ => rfl] at B8
  have k := q8.k
  rw [(H8 _ _ _ _ _ _ _ _).out] at k
  have hq : wholeQ va vb vc vd = (x2, turn (xorW y1 z2) 7, z2, u2) := by
    rw [← Ez2.out, ← Eu2.out, ← Ex2.out, ← Ey1.out, ← Ez1.out, ← Eu1.out, ← Ex1.out]
    rfl
  rw [← hq, ← HQ.out] at k
  have K := Lib.hid k
  have B := Lib.hid B8
  clear k B8 hq q8 q7 B7
  go_wp2
  go_region_law (first | (go_simp; go_at_call 235; refine (Turn_any _ _ (by omega) (by omega) _).mono ?_; rintro e w' ⟨rfl, rfl⟩))
  all_goals
    go_wp2
    go_end0
    exact ⟨rfl, K.out, B.out⟩
end Go.Proofs.YtabhcolfkkfonaaGreatDoor

/-! BlockC -/
/- A block of the stream, of the model. -/
namespace Go.Proofs.YtabhcolfkkfonaaGreatDoor
open Go.RowKit

def colsV (V : List Int) : Nat → List Int
  | 0 => V
  | k + 1 => qr (colsV V k) k (4 + k) (8 + k) (12 + k)
def diagV (V : List Int) : Nat → List Int
  | 0 => V
  | k + 1 => qr (diagV V k) k (4 + (k + 1) % 4) (8 + (k + 2) % 4) (12 + (k + 3) % 4)
def turnsV (V : List Int) : Nat → List Int
  | 0 => V
  | t + 1 => diagV (colsV (turnsV V t) 4) 4
theorem colsV_len (V : List Int) (k : Nat) : (colsV V k).length = V.length := by
  induction k with
  | zero => rfl
  | succ k ih => exact (qr_len _ _ _ _ _).trans ih
theorem diagV_len (V : List Int) (k : Nat) : (diagV V k).length = V.length := by
  induction k with
  | zero => rfl
  | succ k ih => exact (qr_len _ _ _ _ _).trans ih
theorem turnsV_len (V : List Int) (t : Nat) : (turnsV V t).length = V.length := by
  induction t with
  | zero => rfl
  | succ t ih => exact ((diagV_len _ _).trans (colsV_len _ _)).trans ih
def mixBytes (R S : List Int) : Nat → List Int
  | 0 => []
  | i + 1 => mixBytes R S i ++ lowOf (addW (R.getD i 0) (S.getD i 0)) 4
theorem mixBytes_len (R S : List Int) (i : Nat) : (mixBytes R S i).length = 4 * i := by
  induction i with
  | zero => rfl
  | succ i ih => rw [mixBytes, List.length_append, ih, lowOf_len]; omega
/-- the block of a key, a number and a nonce -/
def keyBlock (key : List Int) (n : Int) (nonce : List Int) : List Int := mixBytes (turnsV (startW key n nonce) 10) (startW key n nonce) 16
theorem keyBlock_len (key : List Int) (n : Int) (nonce : List Int) : (keyBlock key n nonce).length = 64 := mixBytes_len _ _ _

/-- bytes put behind a row, as one step of a region that draws its order -/
theorem step_row_join {ops : Array Oper} {o : Oper} {a : Act} {K : Act → World → Prop} {Q : Exit → Act → World → Prop} {E : Prop} (hgd : o.guard = none) (s x : Operand)
    (ho : o.op = .call { callee := .builtin .append, args := #[s, x], argTypes := #[22, 22] })
    (w : World) (B : Nat) (v : Value) (l r : List Int) (hs : a.eval s = v) (hrow : Row w B v l) (hB : B ≤ w.heap.size)
    (A : Option Addr) (n c : Nat) (hx : a.eval x = .slice A n c) (hbs : Bs w A n r) (hn0 : 0 < n) (hlen : l.length + n ≤ 140737488351232)
    (h : ∀ v' w', Row w' B v' (l ++ r) → Below B w w' → w.heap.size ≤ w'.heap.size → K (a.put o.dst v') w') :
    if Region.wanted o (yielded ops a.tmps) = true then Oper.wp Tryz.prog o a w K Q else E := by
  have hw : Region.wanted o (yielded ops a.tmps) = true := by simp [Region.wanted, hgd]
  rw [if_pos hw]
  obtain ⟨i0, hi, hz0, hz1, hz2⟩ := info_parts info_u8
  have hrl := hbs.len
  obtain ⟨b, off, rfl, _, hc⟩ := hbs.at_ hn0
  have hcell : ∀ j u, (r.map (Value.int .u8))[j]? = some u → w.cell? ((⟨b, off, none⟩ : Addr).add j) = some u := by
    intro j u hu
    have hj : j < r.length := by
      rcases Nat.lt_or_ge j r.length with h1 | h1
      · exact h1
      · rw [List.getElem?_eq_none (by simpa using h1)] at hu; cases hu
    have hadd : (⟨b, off, none⟩ : Addr).add j = ⟨b, off + j, none⟩ := by unfold Addr.add; split <;> simp_all
    rw [hadd, hc j (by omega)]
    rw [List.getElem?_map, List.getElem?_eq_getElem hj] at hu
    simpa [List.getD, List.getElem?_eq_getElem hj] using hu
  refine wp_append_own w s x 22 ho B 5 i0 (.int .u8 0) 1 1 Tryz.underlying22 hi hz0 hz1 hz2 rfl (by decide) v l.length _ hs hrow.own ⟨b, off, none⟩ n c (r.map (Value.int .u8)) hx (by simp [hrl]) hcell
    (fun u hu => by obtain ⟨y, _, rfl⟩ := List.mem_map.1 hu; rfl) (by unfold maxLen; omega) (by omega) hB ?_
  intro v' w' hown hgrow _
  refine h v' w' ⟨hrow.byte.append hbs.byte, ?_⟩ ⟨hgrow.os, hgrow.tape, hgrow.output, hgrow.size, fun k hk => hgrow.block k (by omega) (fun e => ?_)⟩ hgrow.size
  · rw [List.length_append, List.map_append, hrl]; exact hown
  · have := (hrow.own.lt k e.symm).1
    omega

set_option maxRecDepth 100000 in
set_option maxHeartbeats 4000000 in
theorem l3Block_any (A : Option Addr) (c : Nat) (key : List Int) (n : Int) (A2 : Option Addr) (c2 : Nat) (nonce : List Int) (w : World) (hk : Bs w A 32 key) (hc : 32 ≤ c) (hn : Bs w A2 12 nonce) (hc2 : 12 ≤ c2) :
    Calls Tryz.prog 203 #[.slice A 32 c, .int .i64 n, .slice A2 12 c2] w fun e w' => (∃ A' c', e = .returned (.slice A' 64 c') ∧ Row w' w.heap.size (.slice A' 64 c') (keyBlock key n nonce)) ∧ Below w.heap.size w w' := by
  have HS := Shut.mk (startW_len key n nonce)
  have hst := l3Start_any A c key n A2 c2 nonce w hk hc hn hc2
  have Hk : Shut (keyBlock key n nonce = mixBytes (turnsV (startW key n nonce) 10) (startW key n nonce) 16) := ⟨rfl⟩
  generalize keyBlock key n nonce = KB0 at *
  generalize startW key n nonce = S at *
  go_enter Tryz.func203, Tryz.ntmps203
  go_wp2_with fail
  refine hst.mono ?_
  clear hst
  rintro e w1 ⟨⟨gf, cf, rfl, hgf, kf⟩, b1⟩
  have hlf := kf.lt
  go_wp2_with (at_builtin; refine wpList_words_copy rfl _ _ rfl _ w1.heap.size gf 16 cf S rfl (heap_alloc_new w1 _) rfl HS.out (kf.alloc _) (by omega) ?_ (by omega); intro g cg w2 kv hg hb2 hs2)
  have kf2 := (kf.alloc (.cells #[] 158)).below hb2 hlf
  have hs1 := b1.size
  rw [World.size_alloc] at hs2
  have B2 : Below w.heap.size w w2 := (ab b1 (.cells #[] 158)).trans (hb2.mono (by omega))
  clear kf hb2 hk hn
  go_loopw [9] (fun i wr => ∃ t : Nat, t ≤ 10 ∧ i = .int .i64 (t : Int) ∧ KOw .u32 wr g (turnsV S t) ∧ But g w2.heap.size w2 wr) (fun i _ => 10 - (intOf i).toNat)
  case atStart => exact ⟨0, by omega, rfl, kv, But.refl _ _ _⟩
  case round =>
    obtain ⟨t, ht, rfl, hv, hbut⟩ := hrel
    by_cases hlt : t < 10
    · obtain ⟨wh, rfl⟩ : ∃ x, x = wr := ⟨_, rfl⟩
      have HV := Shut.mk ((turnsV_len S t).trans HS.out)
      have Ht : Shut (turnsV S (t + 1) = diagV (colsV (turnsV S t) 4) 4) := ⟨rfl⟩
      generalize turnsV S t = V at *
      have hd : decide ((t : Int) < 10) = true := by simp; omega
      go_wp2
      go_loopw [10] (fun i wq => ∃ k : Nat, k ≤ 4 ∧ i = .int .i64 (k : Int) ∧ KOw .u32 wq g (colsV V k) ∧ But g w2.heap.size w2 wq) (fun i _ => 4 - (intOf i).toNat)
      case atStart => exact ⟨0, by omega, rfl, hv, hbut⟩
      case round =>
        clear hv hbut
        obtain ⟨k, hk4, rfl, hv, hbut⟩ := hrel
        have hsz := hbut.size
        by_cases hlk : k < 4
        · have hq : Calls Tryz.prog 232 #[.slice (some ⟨g, 0, none⟩) 16 cg, .int .i64 (k : Int), .int .i64 (4 + (k : Int)), .int .i64 (8 + (k : Int)), .int .i64 (12 + (k : Int))] wr fun e w' => e = .returned (.tuple #[]) ∧ KOw .u32 w' g (colsV V (k + 1)) ∧ But g wr.heap.size wr w' :=
            l3Quarter_any g cg (colsV V k) k (4 + k) (8 + k) (12 + k) wr hv ((colsV_len V k).trans HV.out) (by omega) (by omega) (by omega) (by omega) (by omega) (by omega) (by omega) (by omega) (by omega) (by omega)
          go_wp2_with fail
          refine hq.mono ?_
          rintro e w4 ⟨rfl, k4, b4⟩
          clear hq
          go_wp2
          exact ⟨⟨k + 1, by omega, by go_num, k4, hbut.trans (b4.mono hsz)⟩, by simp [intOf]; omega⟩
        · obtain rfl : k = 4 := by omega
          obtain ⟨wi, rfl⟩ : ∃ x, x = wr := ⟨_, rfl⟩
          have HV4 := Shut.mk ((colsV_len V 4).trans HV.out)
          generalize colsV V 4 = V4 at *
          go_wp2
          simp only [Int.cast_ofNat_Int]
          go_loopw [11] (fun i wq => ∃ k : Nat, k ≤ 4 ∧ i = .int .i64 (k : Int) ∧ KOw .u32 wq g (diagV V4 k) ∧ But g w2.heap.size w2 wq) (fun i _ => 4 - (intOf i).toNat)
          case atStart => exact ⟨0, by omega, rfl, hv, hbut⟩
          case round =>
            clear hv hbut hsz
            obtain ⟨k, hk4, rfl, hv, hbut⟩ := hrel
            have hsz := hbut.size
            by_cases hlk : k < 4
            · have hq : Calls Tryz.prog 232 #[.slice (some ⟨g, 0, none⟩) 16 cg, .int .i64 (k : Int), .int .i64 (4 + ((k : Int) + 1) % 4), .int .i64 (8 + ((k : Int) + 2) % 4), .int .i64 (12 + ((k : Int) + 3) % 4)] wr fun e w' => e = .returned (.tuple #[]) ∧ KOw .u32 w' g (diagV V4 (k + 1)) ∧ But g wr.heap.size wr w' :=
                l3Quarter_any g cg (diagV V4 k) k (4 + (k + 1) % 4) (8 + (k + 2) % 4) (12 + (k + 3) % 4) wr hv ((diagV_len V4 k).trans HV4.out) (by omega) (by omega) (by omega) (by omega) (by omega) (by omega) (by omega) (by omega) (by omega) (by omega)
              go_wp2_with fail
              refine hq.mono ?_
              rintro e w4 ⟨rfl, k4, b4⟩
              clear hq
              go_wp2
              exact ⟨⟨k + 1, by omega, by go_num, k4, hbut.trans (b4.mono hsz)⟩, by simp [intOf]; omega⟩
            · obtain rfl : k = 4 := by omega
              rw [← Ht.out] at hv
              go_wp2
              exact ⟨⟨t + 1, by omega, by go_num, hv, hbut⟩, by simp [intOf]; omega⟩
    · obtain rfl : t = 10 := by omega
      have HR := Shut.mk ((turnsV_len S 10).trans HS.out)
      generalize turnsV S 10 = R at *
      have hsz := hbut.size
      have kfr : KOw .u32 wr gf S := kf2.keep (hbut.block gf kf2.lt (by omega)) hbut.size
      have Br : Below w.heap.size w wr := B2.trans (hbut.below (by omega) (by omega))
      obtain ⟨wh, rfl⟩ : ∃ x, x = wr := ⟨_, rfl⟩
      clear hbut B2 kf2 kv ht hlt
      go_wp2
      simp only [Int.cast_ofNat_Int]
      go_loopw [12, 13] (fun v i wq => ∃ m : Nat, m ≤ 16 ∧ i = .int .i64 (m : Int) ∧ Row wq wh.heap.size v (mixBytes R S m) ∧ Below wh.heap.size wh wq) (fun _ i _ => 16 - (intOf i).toNat)
      case atStart => exact ⟨0, by omega, rfl, Row.empty wh _ (Nat.le_refl _) rfl, ab (Below.refl _ _) _⟩
      case round =>
        obtain ⟨m, hm, rfl, hrow, hbel⟩ := hrel
        have hol := mixBytes_len R S m
        obtain ⟨A5, c5, rfl, _⟩ := hrow.ow hol
        have hs5 := hbel.size
        have Hol := Shut.mk hol
        clear hol
        by_cases hlm : m < 16
        · have q0 := (hv.below hbel hv.lt).cell m (by rw [HR.out]; omega)
          have q1 := (kfr.below hbel kfr.lt).cell m (by rw [HS.out]; omega)
          have Hs : Shut (mixBytes R S (m + 1) = mixBytes R S m ++ lowOf (addW (R.getD m 0) (S.getD m 0)) 4) := ⟨rfl⟩
          have r0 := addW_bd (R.getD m 0) (S.getD m 0)
          have im : (m : Int) < 16 := by omega
          generalize R.getD m 0 = X at *
          generalize S.getD m 0 = Y at *
          unfold addW at r0 Hs
          obtain ⟨r00, r01⟩ := r0
          have hwr : IntKind.i64.wrap (IntKind.u32.wrap (X + Y)) = (X + Y) % 4294967296 := by rw [IntKind.wrap_u32, IntWalk.i64_in _ (by omega)]
          generalize (X + Y) % 4294967296 = Z at *
          have hcal := l1Low_any Z 4 wr.drew r00 (by omega) (by omega)
          go_wp2
          go_region_law (first
            | (refine step_row_join rfl _ _ rfl _ wh.heap.size (.slice A5 (4 * m) c5) _ _ rfl (by assumption) (by omega) _ 4 _ rfl (by assumption) (by omega) (by rw [Hol.out]; omega) ?_; intro v7 w7 hr7 hb7 hs7)
            | (go_simp; go_at_call 175; refine hcal.mono ?_; rintro e w6 ⟨⟨A6, c6, rfl, how6⟩, hb6⟩; have hs6 : wr.heap.size ≤ w6.heap.size := hb6.size; have row6 := (hrow.drew).keep (w' := w6) (fun g _ h2 => hb6.block g h2); have bs6 := how6.bs))
          all_goals
            rw [← Hs.out] at hr7
            have hb8 : Below wh.heap.size wh w7 := (ac hbel.drew hb6).trans hb7
            go_wp2
            exact ⟨⟨m + 1, by omega, by go_num, hr7, hb8⟩, by simp [intOf]; omega⟩
        · obtain rfl : m = 16 := by omega
          go_wp2
          go_ret
          rw [Hk.out]
          exact ⟨⟨A5, c5, rfl, hrow.mono (by omega)⟩, Br.trans (hbel.mono (by omega))⟩
end Go.Proofs.YtabhcolfkkfonaaGreatDoor

/-! StreamC -/
/- Data xor the blocks of a stream, of the model. -/
namespace Go.Proofs.YtabhcolfkkfonaaGreatDoor
open Go.RowKit

/-- the first m bytes of the blocks of n, n + 1 and so on -/
def keyStream (key : List Int) (n : Int) (nonce : List Int) (m : Nat) : List Int := (List.range m).map fun j => (keyBlock key (n + ((j / 64 : Nat) : Int)) nonce).getD (j % 64) 0
theorem keyStream_len (key : List Int) (n : Int) (nonce : List Int) (m : Nat) : (keyStream key n nonce m).length = m := by simp [keyStream]
theorem keyStream_get (key : List Int) (n : Int) (nonce : List Int) (m j : Nat) (h : j < m) : (keyStream key n nonce m).getD j 0 = (keyBlock key (n + ((j / 64 : Nat) : Int)) nonce).getD (j % 64) 0 := by
  simp [keyStream, List.getD, h]
/-- data hidden: xor a stream -/
def streamL (key : List Int) (n : Int) (nonce data : List Int) : List Int := xorL data (keyStream key n nonce data.length)
theorem streamL_len (key : List Int) (n : Int) (nonce data : List Int) : (streamL key n nonce data).length = data.length := xorL_len _ _ (keyStream_len _ _ _ _).symm
theorem streamL_get (key : List Int) (n : Int) (nonce data : List Int) (t i : Nat) (hi : i < 64) (h : 64 * t + i < data.length) :
    (streamL key n nonce data).getD (64 * t + i) 0 = xorB (data.getD (64 * t + i) 0) ((keyBlock key (n + (t : Int)) nonce).getD i 0) := by
  unfold streamL
  rw [xorL_get _ _ _ h (by rw [keyStream_len]; exact h), keyStream_get _ _ _ _ _ h]
  rw [show (64 * t + i) / 64 = t by omega, show (64 * t + i) % 64 = i by omega]
theorem streamL_succ (key : List Int) (n : Int) (nonce data : List Int) (t i : Nat) (hi : i < 64) (h : 64 * t + i < data.length) :
    (streamL key n nonce data).take (64 * t + (i + 1)) = (streamL key n nonce data).take (64 * t + i) ++ [xorB (data.getD (64 * t + i) 0) ((keyBlock key (n + (t : Int)) nonce).getD i 0)] := by
  rw [← Nat.add_assoc, take_getD _ _ (by rw [streamL_len]; exact h), streamL_get _ _ _ _ _ _ hi h]

set_option maxRecDepth 100000 in
set_option maxHeartbeats 4000000 in
theorem l3Stream_any (A : Option Addr) (c : Nat) (key : List Int) (n : Int) (A2 : Option Addr) (c2 : Nat) (nonce : List Int) (A3 : Option Addr) (m c3 : Nat) (data : List Int) (w : World)
    (hk : Bs w A 32 key) (hc : 32 ≤ c) (hn : Bs w A2 12 nonce) (hc2 : 12 ≤ c2) (hd : Bs w A3 m data) (hm : m ≤ 100000) (h0 : 0 ≤ n) (h1 : n ≤ 1000000) :
    Calls Tryz.prog 174 #[.slice A 32 c, .int .i64 n, .slice A2 12 c2, .slice A3 m c3] w fun e w' => (∃ A' c', e = .returned (.slice A' m c') ∧ Row w' w.heap.size (.slice A' m c') (streamL key n nonce data)) ∧ Below w.heap.size w w' := by
  have Hd := Shut.mk hd.len
  have Hx := Shut.mk ((streamL_len key n nonce data).trans hd.len)
  have Hs : Shut (∀ t i : Nat, i < 64 → 64 * t + i < m → (streamL key n nonce data).take (64 * t + (i + 1)) = (streamL key n nonce data).take (64 * t + i) ++ [xorB (data.getD (64 * t + i) 0) ((keyBlock key (n + (t : Int)) nonce).getD i 0)]) :=
    ⟨fun t i hi h => streamL_succ _ _ _ _ _ _ hi (by rw [Hd.out]; exact h)⟩
  generalize streamL key n nonce data = Z at *
  go_enter Tryz.func174, Tryz.ntmps174
  go_wp2
  go_loopw [1, 9, 10] (fun q v i wr => ∃ t : Nat, 64 * t < m + 64 ∧ q = .int .i64 (n + (t : Int)) ∧ i = .int .i64 (64 * (t : Int)) ∧ Row wr w.heap.size v (Z.take (64 * t)) ∧ Below w.heap.size w wr) (fun _ _ i _ => m + 64 - (intOf i).toNat)
  case atStart => exact ⟨0, by omega, by simp, rfl, Row.empty w _ (Nat.le_refl _) rfl, ab (Below.refl _ _) _⟩
  case round =>
    obtain ⟨t, ht, rfl, rfl, hrow, hbel⟩ := hrel
    by_cases hlt : 64 * t < m
    · have hb := l3Block_any A c key (n + (t : Int)) A2 c2 nonce wr (hk.below hbel) hc (hn.below hbel) hc2
      obtain ⟨wh, rfl⟩ : ∃ x, x = wr := ⟨_, rfl⟩
      obtain ⟨vo, rfl⟩ : ∃ x, x = u9 := ⟨_, rfl⟩
      have hsz := hbel.size
      go_wp2_with fail
      refine hb.mono ?_
      clear hb
      rintro e w1 ⟨⟨Ab, cb, rfl, hrb⟩, b1⟩
      have HB := Shut.mk (keyBlock_len key (n + (t : Int)) nonce)
      have hob := hrb.ow' HB.out
      obtain ⟨gb, rfl, hgB, hgl, hcb, _⟩ := hob.at_ (by omega)
      have hbb := Shut.mk hob.byte
      have row1 := hrow.keep (w' := w1) (fun g _ h2 => b1.block g h2)
      have ap1 : Apart gb vo w1 w1 := ⟨fun e => by have := (hrow.ownlt e).2; omega, rfl, Nat.le_refl _⟩
      have B1 := ac hbel b1
      have Hs2 : Shut (∀ i : Nat, i < 64 → 64 * t + i < m → Z.take (64 * t + (i + 1)) = Z.take (64 * t + i) ++ [xorB (data.getD (64 * t + i) 0) ((keyBlock key (n + (t : Int)) nonce).getD i 0)]) := ⟨fun i hi h => Hs.out t i hi h⟩
      generalize keyBlock key (n + (t : Int)) nonce = W at *
      have hrow1 : Row w1 w.heap.size vo (Z.take (64 * t + 0)) := row1
      clear row1 hrow hob hrb b1
      have hq : decide (64 * (t : Int) < (m : Int)) = true := by simp; omega
      go_wp2
      go_loopw [9, 12] (fun v i wq => ∃ k : Nat, k ≤ 64 ∧ 64 * t + k ≤ m ∧ i = .int .i64 (k : Int) ∧ Row wq w.heap.size v (Z.take (64 * t + k)) ∧ Below w.heap.size w wq ∧ Apart gb v w1 wq) (fun _ i _ => 64 - (intOf i).toNat)
      case atStart => exact ⟨0, by omega, by omega, rfl, hrow1, B1, ap1⟩
      case round =>
        clear hrow1 B1 ap1
        obtain ⟨k, hk64, hkm, rfl, hrow, hbel, hap⟩ := hrel
        by_cases hlk : k < 64
        · by_cases hlm : 64 * t + k < m
          · obtain ⟨b3, o3, X, rfl, hbs, hX0, hX1, HX, hx⟩ := hd.get hlm
            have hx' := (hbel.cell (p := ⟨b3, o3 + (64 * t + k), none⟩) hbs).trans hx
            have hy' := (World.cell?_of_block (a := ⟨gb, k, none⟩) hap.same).trans (hcb k hlk)
            have hY := hbb.out.get k
            have Hz := Hs2.out k hlk hlm
            rw [HX.out] at Hz
            generalize W.getD k 0 = Y at *
            obtain ⟨hY0, hY1⟩ := hY
            obtain ⟨hq0, hq1⟩ := xorB_bd X Y hX0 hX1 hY0 hY1
            have Hz := Shut.mk Hz
            clear hx
            have hsz := hbel.size
            have hlen : (Z.take (64 * t + k)).length ≤ 140737488351232 := by rw [List.length_take]; omega
            have hkn : 64 * (t : Int) + (k : Int) < (m : Int) := by omega
            have hk6 : (k : Int) < 64 := by omega
            have hwr : IntKind.i64.wrap (64 * (t : Int) + (k : Int)) = 64 * (t : Int) + (k : Int) := IntWalk.i64_in _ (by omega)
            have hk0 : 0 ≤ 64 * (t : Int) + (k : Int) := by omega
            have hidx : (64 * (t : Int) + (k : Int)).toNat = 64 * t + k := by omega
            go_wp2
            go_region_law (refine step_row_append_at rfl _ _ rfl _ w.heap.size _ _ rfl (hrow.alloc _).drew (by simp; omega) ⟨wr.heap.size, 0, none⟩ 1 (xorB X Y) rfl (cell_one wr _ _) hq0 hq1 hlen ?_; intro v2 w2 hr2 hb2 hs2 hl2 he2)
            all_goals
              rw [← Hz.out] at hr2
              have hap2 := ((hap.alloc hgl _).drew).step hgl hl2 he2 hs2
              go_wp2
              exact ⟨⟨k + 1, by omega, by omega, by go_num, hr2, (ab hbel _).drew.trans hb2, hap2⟩, by simp [intOf]; omega⟩
          · have hz : Z.take (64 * t + k) = Z.take (64 * (t + 1)) := by
              rw [List.take_of_length_le (by rw [Hx.out]; omega), List.take_of_length_le (by rw [Hx.out]; omega)]
            rw [hz] at hrow
            have hk6 : (k : Int) < 64 := by omega
            have hkn : ¬ 64 * (t : Int) + (k : Int) < (m : Int) := by omega
            clear hz
            go_wp2
            exact ⟨⟨t + 1, by omega, by go_num, by go_num, hrow, hbel⟩, by simp [intOf]; omega⟩
        · obtain rfl : k = 64 := by omega
          go_wp2
          exact ⟨⟨t + 1, by omega, by go_num, by go_num, hrow, hbel⟩, by simp [intOf]; omega⟩
    · have hz : Z.take (64 * t) = Z := List.take_of_length_le (by rw [Hx.out]; omega)
      rw [hz] at hrow
      obtain ⟨A', c', rfl, how⟩ := hrow.ow Hx.out
      go_wp2
      go_ret
      exact ⟨⟨A', c', rfl, hrow⟩, hbel⟩
end Go.Proofs.YtabhcolfkkfonaaGreatDoor

/-! TagC -/
/- The tag of a box, of the model. -/
namespace Go.Proofs.YtabhcolfkkfonaaGreatDoor
open Go.RowKit

/-- what a box's tag is of -/
def tagA (more hidden : List Int) : List Int := fillL (fillL more ++ hidden)
def tagB (more hidden : List Int) : List Int := tagA more hidden ++ lowOf (more.length : Int) 7 ++ [0]
def tagD (more hidden : List Int) : List Int := tagB more hidden ++ lowOf (hidden.length : Int) 7 ++ [0]
/-- how many bytes the first of these has -/
def tagN (p q : Nat) : Nat := p + fillN p + q + fillN (p + fillN p + q)
theorem tagA_len (more hidden : List Int) : (tagA more hidden).length = tagN more.length hidden.length := by
  unfold tagA
  rw [fillL_len, List.length_append, fillL_len]
  rfl
theorem tagB_len (more hidden : List Int) : (tagB more hidden).length = tagN more.length hidden.length + 8 := by
  unfold tagB
  rw [List.length_append, List.length_append, tagA_len, lowOf_len]
  rfl
theorem tagD_len (more hidden : List Int) : (tagD more hidden).length = tagN more.length hidden.length + 16 := by
  unfold tagD
  rw [List.length_append, List.length_append, tagB_len, lowOf_len]
  rfl
theorem tagN_bd (p q : Nat) : tagN p q ≤ p + q + 30 := by unfold tagN fillN; omega
def boxTag (key nonce more hidden : List Int) : List Int := polyTag ((keyBlock key 0 nonce).take 32) (tagD more hidden)
theorem boxTag_len (key nonce more hidden : List Int) : (boxTag key nonce more hidden).length = 16 := polyTag_len _ _

theorem Row.cap {w : World} {B n c : Nat} {A : Option Addr} {l : List Int} (h : Row w B (.slice A n c) l) : n ≤ c := by
  rcases h.own.2 with ⟨e, _⟩ | ⟨g, cap, cur, e, _, _, hnc, _⟩
  · injection e with _ e2 e3
    omega
  · injection e with _ e2 e3
    omega

set_option maxRecDepth 100000 in
set_option maxHeartbeats 4000000 in
theorem l3Tag_any (A : Option Addr) (c : Nat) (key : List Int) (A2 : Option Addr) (c2 : Nat) (nonce : List Int) (A3 : Option Addr) (p c3 : Nat) (more : List Int) (A4 : Option Addr) (q c4 : Nat) (hidden : List Int) (w : World)
    (hk : Bs w A 32 key) (hc : 32 ≤ c) (hn : Bs w A2 12 nonce) (hc2 : 12 ≤ c2) (hm : Bs w A3 p more) (hp : p ≤ 2000) (hc3 : A3 = none → c3 = 0) (hh : Bs w A4 q hidden) (hq : q ≤ 2000) (hc4 : A4 = none → c4 = 0) :
    Calls Tryz.prog 173 #[.slice A 32 c, .slice A2 12 c2, .slice A3 p c3, .slice A4 q c4] w fun e w' => (∃ A' c', e = .returned (.slice A' 16 c') ∧ Row w' w.heap.size (.slice A' 16 c') (boxTag key nonce more hidden)) ∧ Below w.heap.size w w' := by
  have HT : Shut (boxTag key nonce more hidden = polyTag ((keyBlock key 0 nonce).take 32) (tagD more hidden)) := ⟨rfl⟩
  have HA : Shut (tagA more hidden = fillL (fillL more ++ hidden)) := ⟨rfl⟩
  have HB : Shut (tagB more hidden = tagA more hidden ++ lowOf (p : Int) 7 ++ [0]) := ⟨by rw [← hm.len]; rfl⟩
  have HD : Shut (tagD more hidden = tagB more hidden ++ lowOf (q : Int) 7 ++ [0]) := ⟨by rw [← hh.len]; rfl⟩
  have LA : Shut ((tagA more hidden).length = tagN p q) := ⟨by rw [tagA_len, hm.len, hh.len]⟩
  have LB : Shut ((tagB more hidden).length = tagN p q + 8) := ⟨by rw [tagB_len, hm.len, hh.len]⟩
  have LD : Shut ((tagD more hidden).length = tagN p q + 16) := ⟨by rw [tagD_len, hm.len, hh.len]⟩
  have LF : Shut ((fillL more).length = p + fillN p) := ⟨by rw [fillL_len, hm.len]⟩
  have LG : Shut ((fillL more ++ hidden).length = p + fillN p + q) := ⟨by rw [List.length_append, fillL_len, hm.len, hh.len]⟩
  have hN := tagN_bd p q
  have hF1 : fillN p ≤ 15 := by unfold fillN; omega
  have HNe : Shut (p + fillN p + q + fillN (p + fillN p + q) = tagN p q) := ⟨rfl⟩
  have Lm := Shut.mk hm.len
  generalize boxTag key nonce more hidden = T at *
  generalize tagD more hidden = D at *
  generalize tagB more hidden = DB at *
  generalize tagA more hidden = DA at *
  generalize tagN p q = N at *
  go_enter Tryz.func173, Tryz.ntmps173
  go_wp2_with fail
  refine (copyb_any A3 p c3 more w hm hc3 (by omega)).mono ?_
  rintro e w1 ⟨⟨A5, c5, rfl, hr1⟩, hb1⟩
  have hs1 := hb1.size
  go_wp2_with fail
  refine (l3Fill_any A5 p c5 w.heap.size more w1 hr1 Lm.out hs1 (by omega)).mono ?_
  rintro e w2 ⟨⟨A6, c6, rfl, hr2⟩, hb2⟩
  have hs2 := hb2.size
  have B2 : Below w.heap.size w w2 := hb1.trans hb2
  have hh2 := hh.below B2
  clear hr1 hb1 hb2
  go_wp2_with (at_builtin; refine wpList_row_join rfl _ _ rfl _ w.heap.size (.slice A6 (p + fillN p) c6) _ _ rfl hr2 (by omega) A4 q c4 rfl hh2 hc4 (by rw [LF.out]; omega) ?_; intro v3 w3 hr3 hb3 hs3; obtain ⟨A7, c7, rfl, _⟩ := hr3.ow LG.out)
  refine (l3Fill_any A7 (p + fillN p + q) c7 w.heap.size _ w3 hr3 LG.out (by omega) (by omega)).mono ?_
  rw [HNe.out, ← HA.out]
  rintro e w4 ⟨⟨A8, c8, rfl, hr4⟩, hb4⟩
  have hs4 := hb4.size
  have B4 : Below w.heap.size w w4 := (B2.trans hb3).trans hb4
  clear hr2 hr3 hb3 hb4 hh2 B2
  go_wp2_with fail
  refine (l1Low_any (p : Int) 7 w4 (by omega) (by omega) (by omega)).mono ?_
  rintro e w5 ⟨⟨A9, c9, rfl, how5⟩, hb5⟩
  have hs5 := hb5.size
  have row5 := hr4.keep (w' := w5) (fun g _ h2 => hb5.block g h2)
  have B5 : Below w.heap.size w w5 := B4.trans (hb5.mono (by omega))
  clear hr4 hb5 B4
  go_wp2_with (at_builtin; first
    | (refine wpList_row_join rfl _ _ rfl _ w.heap.size (.slice A8 N c8) _ _ rfl row5 (by omega) A9 7 c9 rfl how5.bs (how5.bs.cap_ (by omega)) (by rw [LA.out]; omega) ?_; intro v6 w6 hr6 hb6 hs6; obtain ⟨A10, c10, rfl, _⟩ := hr6.ow (n := N + 7) (by rw [List.length_append, LA.out, lowOf_len]))
    | (refine wpList_row_append rfl _ _ rfl _ w.heap.size (.slice A10 (N + 7) c10) _ rfl (hr6.alloc _) (by simp; omega) ⟨w6.heap.size, 0, none⟩ 1 0 rfl (cell_one _ _ _) (by omega) (by omega) (by rw [List.length_append, LA.out, lowOf_len]; omega) ?_; rw [← HB.out]; intro v7 w7 hr7 hb7 hs7; obtain ⟨A11, c11, rfl, _⟩ := hr7.ow LB.out))
  have hs6' : w5.heap.size ≤ w6.heap.size := hs6
  have hs7' : w6.heap.size < w7.heap.size := by rw [World.size_alloc] at hs7; omega
  have B7 : Below w.heap.size w w7 := ((B5.trans hb6).alloc (by omega) _).trans hb7
  refine (l1Low_any (q : Int) 7 w7 (by omega) (by omega) (by omega)).mono ?_
  rintro e w8 ⟨⟨A12, c12, rfl, how8⟩, hb8⟩
  have hs8 := hb8.size
  have row8 := hr7.keep (w' := w8) (fun g _ h2 => hb8.block g h2)
  have B8 : Below w.heap.size w w8 := B7.trans (hb8.mono (by omega))
  clear hr7 hb8 hb7 hr6 hb6 hs7 hs6 how5 row5 B5 B7
  go_wp2_with (at_builtin; first
    | (refine wpList_row_join rfl _ _ rfl _ w.heap.size (.slice A11 (N + 8) c11) _ _ rfl row8 (by omega) A12 7 c12 rfl how8.bs (how8.bs.cap_ (by omega)) (by rw [LB.out]; omega) ?_; intro v9 w9 hr9 hb9 hs9; obtain ⟨A13, c13, rfl, _⟩ := hr9.ow (n := N + 15) (by rw [List.length_append, LB.out, lowOf_len]))
    | (refine wpList_row_append rfl _ _ rfl _ w.heap.size (.slice A13 (N + 15) c13) _ rfl (hr9.alloc _) (by simp; omega) ⟨w9.heap.size, 0, none⟩ 1 0 rfl (cell_one _ _ _) (by omega) (by omega) (by rw [List.length_append, LB.out, lowOf_len]; omega) ?_; rw [← HD.out]; intro v10 w10 hr10 hb10 hs10; obtain ⟨A14, c14, rfl, _⟩ := hr10.ow LD.out))
  have hs9' : w8.heap.size ≤ w9.heap.size := hs9
  have hs10' : w9.heap.size < w10.heap.size := by rw [World.size_alloc] at hs10; omega
  have B10 : Below w.heap.size w w10 := ((B8.trans hb9).alloc (by omega) _).trans hb10
  have hcap := hr10.cap
  have hblk := l3Block_any A c key 0 A2 c2 nonce w10 (hk.below B10) hc (hn.below B10) hc2
  have Lk := Shut.mk (keyBlock_len key 0 nonce)
  generalize keyBlock key 0 nonce = K at *
  refine hblk.mono ?_
  rintro e w11 ⟨⟨A15, c15, rfl, hr11⟩, hb11⟩
  have hcap15 := hr11.cap
  have hs11 := hb11.size
  have B11 : Below w.heap.size w w11 := B10.trans (hb11.mono (by omega))
  have how11 := hr11.ow' Lk.out
  obtain ⟨gk, rfl, hgk, hgl, _⟩ := how11.at_ (by omega)
  have hk32 := how11.bs.part_ 0 32 (by omega)
  rw [Nat.add_zero, List.drop_zero] at hk32
  have hbd := (hr10.keep (w' := w11) (fun g _ h2 => hb11.block g h2)).ow' LD.out
  clear hr10 hr11 how11 hblk row8 how8 hr9 hb9 hb10 hb11 hs9 hs10 B8 B10
  go_wp2_with fail
  refine (l3Poly_any _ c15 (K.take 32) A14 (N + 16) c14 D w11 hk32 (by omega) hbd.bs (by omega) hcap).mono ?_
  rw [← HT.out]
  rintro e w12 ⟨⟨A16, c16, rfl, hr12⟩, hb12⟩
  go_wp2
  go_ret
  exact ⟨⟨A16, c16, rfl, hr12.mono (by omega)⟩, B11.trans (hb12.mono (by omega))⟩
end Go.Proofs.YtabhcolfkkfonaaGreatDoor

/-! SealC -/
/- A box sealed and opened, of the model. -/
namespace Go.Proofs.YtabhcolfkkfonaaGreatDoor
open Go.RowKit

theorem Row.nilcap {w : World} {B n c : Nat} {A : Option Addr} {l : List Int} (h : Row w B (.slice A n c) l) : A = none → c = 0 := fun e0 => by
  rcases h.own.2 with ⟨e, _⟩ | ⟨g, cap, cur, e, _, _, hnc, _⟩
  · injection e with _ e2 e3
  · injection e with e1 e2 e3
    rw [e0] at e1; cases e1

/-- a box: a text hidden, and its tag behind it -/
def sealL (key nonce more text : List Int) : List Int := streamL key 1 nonce text ++ boxTag key nonce more (streamL key 1 nonce text)
theorem sealL_len (key nonce more text : List Int) : (sealL key nonce more text).length = text.length + 16 := by
  unfold sealL
  rw [List.length_append, streamL_len, boxTag_len]

set_option maxRecDepth 100000 in
set_option maxHeartbeats 4000000 in
theorem l3Seal_any (A : Option Addr) (c : Nat) (key : List Int) (A2 : Option Addr) (c2 : Nat) (nonce : List Int) (A3 : Option Addr) (p c3 : Nat) (more : List Int) (A4 : Option Addr) (q c4 : Nat) (text : List Int) (w : World)
    (hk : Bs w A 32 key) (hc : 32 ≤ c) (hn : Bs w A2 12 nonce) (hc2 : 12 ≤ c2) (hm : Bs w A3 p more) (hp : p ≤ 2000) (hc3 : A3 = none → c3 = 0) (ht : Bs w A4 q text) (hq : q ≤ 2000) :
    Calls Tryz.prog 141 #[.slice A 32 c, .slice A2 12 c2, .slice A3 p c3, .slice A4 q c4] w fun e w' => (∃ A' c', e = .returned (.slice A' (q + 16) c') ∧ Row w' w.heap.size (.slice A' (q + 16) c') (sealL key nonce more text)) ∧ Below w.heap.size w w' := by
  have HS : Shut (sealL key nonce more text = streamL key 1 nonce text ++ boxTag key nonce more (streamL key 1 nonce text)) := ⟨rfl⟩
  have LS : Shut ((sealL key nonce more text).length = q + 16) := ⟨by rw [sealL_len, ht.len]⟩
  have LH : Shut ((streamL key 1 nonce text).length = q) := ⟨by rw [streamL_len, ht.len]⟩
  have hst := l3Stream_any A c key 1 A2 c2 nonce A4 q c4 text w hk hc hn hc2 ht (by omega) (by omega) (by omega)
  generalize sealL key nonce more text = F at *
  generalize streamL key 1 nonce text = H at *
  go_enter Tryz.func141, Tryz.ntmps141
  go_wp2_with fail
  refine hst.mono ?_
  clear hst
  rintro e w1 ⟨⟨A5, c5, rfl, hr1⟩, hb1⟩
  have hs1 := hb1.size
  have hcap := hr1.nilcap
  have htg := l3Tag_any A c key A2 c2 nonce A3 p c3 more A5 q c5 H w1 (hk.below hb1) hc (hn.below hb1) hc2 (hm.below hb1) hp hc3 (hr1.ow' LH.out).bs hq hcap
  have LT : Shut ((boxTag key nonce more H).length = 16) := ⟨boxTag_len _ _ _ _⟩
  generalize boxTag key nonce more H = T at *
  go_wp2_with fail
  refine htg.mono ?_
  clear htg
  rintro e w2 ⟨⟨A6, c6, rfl, hr2⟩, hb2⟩
  have hs2 := hb2.size
  have row2 := hr1.keep (w' := w2) (fun g _ h2 => hb2.block g h2)
  have B2 := ac hb1 hb2
  have how2 := hr2.ow' LT.out
  clear hr1 hb1 hb2 hr2
  go_wp2_with (at_builtin; refine wpList_row_join rfl _ _ rfl _ w.heap.size (.slice A5 q c5) _ _ rfl row2 (by omega) A6 16 c6 rfl how2.bs (how2.bs.cap_ (by omega)) (by rw [LH.out]; omega) ?_; rw [← HS.out]; intro v3 w3 hr3 hb3 hs3; obtain ⟨A7, c7, rfl, _⟩ := hr3.ow LS.out)
  go_ret
  exact ⟨⟨A7, c7, rfl, hr3⟩, B2.trans hb3⟩

set_option maxRecDepth 100000 in
set_option maxHeartbeats 4000000 in
theorem l3Open_any (A : Option Addr) (c : Nat) (key : List Int) (A2 : Option Addr) (c2 : Nat) (nonce : List Int) (A3 : Option Addr) (p c3 : Nat) (more : List Int) (A4 : Option Addr) (q c4 : Nat) (box : List Int) (w : World)
    (hk : Bs w A 32 key) (hc : 32 ≤ c) (hn : Bs w A2 12 nonce) (hc2 : 12 ≤ c2) (hm : Bs w A3 p more) (hp : p ≤ 2000) (hc3 : A3 = none → c3 = 0) (ht : Bs w A4 (q + 16) box) (hq : q ≤ 2000) (hc4 : q + 16 ≤ c4) :
    Calls Tryz.prog 123 #[.slice A 32 c, .slice A2 12 c2, .slice A3 p c3, .slice A4 (q + 16) c4] w fun e w' =>
      (if boxTag key nonce more (box.take q) = box.drop q then ∃ A' c', e = .returned (.tuple #[.slice A' q c', .bool true]) ∧ Row w' w.heap.size (.slice A' q c') (streamL key 1 nonce (box.take q)) else e = .returned (.tuple #[.slice none 0 0, .bool false])) ∧ Below w.heap.size w w' := by
  obtain ⟨b, off, rfl, hb, _⟩ := ht.at_ (by omega)
  have h1 := ht.part_ 0 q (by omega)
  have h2 := ht.part_ q 16 (by omega)
  rw [Nat.add_zero, List.drop_zero] at h1
  rw [show (box.drop q).take 16 = box.drop q from List.take_of_length_le (by rw [List.length_drop, ht.len]; omega)] at h2
  have G0 := fun (W : World) (hW : Below w.heap.size w W) => l3Tag_any A c key A2 c2 nonce A3 p c3 more (some ⟨b, off, none⟩) q c4 (box.take q) W (hk.below hW) hc (hn.below hW) hc2 (hm.below hW) hp hc3 (h1.below hW) (by omega) (fun e => by cases e)
  have LT : Shut ((boxTag key nonce more (box.take q)).length = 16) := ⟨boxTag_len _ _ _ _⟩
  have HBT : Shut (By (boxTag key nonce more (box.take q))) := ⟨lowOf_byte _ _⟩
  clear ht
  generalize boxTag key nonce more (box.take q) = T at *
  generalize box.take q = X at *
  generalize box.drop q = Y at *
  have hst := fun (w1 : World) (hb1 : Below w.heap.size w w1) => l3Stream_any A c key 1 A2 c2 nonce (some ⟨b, off, none⟩) q c4 X w1 (hk.below hb1) hc (hn.below hb1) hc2 (h1.below hb1) (by omega) (by omega) (by omega)
  have hc4' : ¬ c4 = q := by omega
  have Hst := Shut.mk hst
  have G : Shut (∀ W : World, ((convert 22 9 (.slice (some ⟨b, off + q, none⟩) 16 (c4 - q))).run Tryz.prog W = .ok (.string (strOfNums Y)) W ∧ Below w.heap.size w W) →
      Calls Tryz.prog 173 #[.slice A 32 c, .slice A2 12 c2, .slice A3 p c3, .slice (some ⟨b, off, none⟩) q c4] W fun e w' => (∃ A' c', e = .returned (.slice A' 16 c') ∧ (convert 22 9 (.slice A' 16 c')).run Tryz.prog w' = .ok (.string (strOfNums T)) w') ∧ ((convert 22 9 (.slice (some ⟨b, off + q, none⟩) 16 (c4 - q))).run Tryz.prog w' = .ok (.string (strOfNums Y)) w' ∧ Below w.heap.size w w')) := ⟨fun W ⟨_, hW⟩ => (G0 W hW).mono (by
        rintro e w' ⟨⟨A', c', rfl, hr⟩, hb⟩
        exact ⟨⟨A', c', rfl, run_str (hr.ow' LT.out).bs c'⟩, run_str (h2.below (ac hW hb)) _, ac hW hb⟩)⟩
  have hs0 := run_str (h2.drewN 1) (c4 - q)
  rw [show w.drewN 1 = w.drew from rfl] at hs0
  have hb0 : Below w.heap.size w w.drew := (Below.refl _ _).drew
  have HB : Shut (By T ∧ By Y) := ⟨HBT.out, h2.byte⟩
  have hqn : decide ((q : Int) < 0) = false := by simp
  have hq0 : ¬ (q : Int) < 0 := by omega
  have hq1 : (0 : Int) ≤ (q : Int) := by omega
  have hq2 : (q : Int) ≤ (c4 : Int) := by omega
  have hq3 : (q : Int) ≤ (q : Int) + 16 := by omega
  by_cases hTY : T = Y
  · simp only [if_pos hTY]
    subst hTY
    clear hst G0 h1 h2 hm hn hk
    go_enter Tryz.func123, Tryz.ntmps123
    go_wp2_with fail
    go_region_held (fun W => (convert 22 9 (.slice (some ⟨b, off + q, none⟩) 16 (c4 - q))).run Tryz.prog W = .ok (.string (strOfNums T)) W ∧ Below w.heap.size w W)
      (first | (exact ⟨by assumption, by assumption⟩) | (exact ⟨hs0, hb0⟩) | go_keep)
      (first
        | (go_at_call 173; refine (G.out _ ?_).mono ?_; (first | assumption | (simp [*]; done)); rintro e w' ⟨⟨A6, c6, rfl, z2⟩, z0, z1⟩))
    all_goals
      go_wp2_with fail
      refine (Hst.out w' z1).mono ?_
      rintro e w9 ⟨⟨A9, c9, rfl, hr9⟩, hb9⟩
      go_wp2
      go_ret2
      exact ⟨⟨A9, c9, rfl, hr9.mono z1.size⟩, z1.trans (hb9.mono z1.size)⟩
  · simp only [if_neg hTY]
    have hne : ((strOfNums T).toList == (strOfNums Y).toList) = false := by rw [str_beq HB.out.1 HB.out.2]; exact decide_eq_false hTY
    clear hst G0 h1 h2 hm hn hk hTY Hst
    go_enter Tryz.func123, Tryz.ntmps123
    go_wp2_with fail
    go_region_held (fun W => (convert 22 9 (.slice (some ⟨b, off + q, none⟩) 16 (c4 - q))).run Tryz.prog W = .ok (.string (strOfNums Y)) W ∧ Below w.heap.size w W)
      (first | (exact ⟨by assumption, by assumption⟩) | (exact ⟨hs0, hb0⟩) | go_keep)
      (first
        | (go_at_call 173; refine (G.out _ ?_).mono ?_; (first | assumption | (simp [*]; done)); rintro e w' ⟨⟨A6, c6, rfl, z2⟩, z0, z1⟩))
    all_goals
      go_wp2
      go_ret2
      exact ⟨rfl, z1⟩

end Go.Proofs.YtabhcolfkkfonaaGreatDoor
