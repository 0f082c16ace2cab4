/- A quarter round, of the program. -/
import Derived.Test.YtpoiecdifhkegaaDoorChaC
import Derived.Test.YtpoiecdifhkegaaDoorBase
namespace Go.Proofs.YtpoiecdifhkegaaDoor
open Go.RowKit

set_option maxRecDepth 100000 in
set_option maxHeartbeats 4000000 in
/-- the word at b goes to that at a, which turns the one at d -/
theorem step_any (g : Nat) (V : List Int) (a b c d : Nat) (x y z u r : Int) (w : World) (q0 : Q4 w g V a b c d x y z u) (hr : 1 ≤ r ∧ r ≤ 31) (hx : a < 16) (hy : b < 16) (hd : d < 16) :
    Calls Tryd.prog 74 #[.pointer (some ⟨g, 0, none⟩), .int .i64 a, .int .i64 b, .int .i64 d, .int .i64 r] w fun e w' => e = .returned (.tuple #[]) ∧ Q4 w' g ((V.set a (addW x y)).set d (turn (xorW u (addW x y)) r)) a b c d (addW x y) y z (turn (xorW u (addW x y)) r) ∧ But g w.heap.size w w' := by
  have B0 : But g w.heap.size w w := But.refl _ _ _
  have ia : (a : Int) < 16 := by omega
  have ib : (b : Int) < 16 := by omega
  have id' : (d : Int) < 16 := by omega
  obtain ⟨r0, r1⟩ := hr
  obtain ⟨x1, hx1⟩ : ∃ x1, addW x y = x1 := ⟨_, rfl⟩
  rw [hx1]
  have hx2 : (x + y) % 4294967296 = x1 := hx1
  have HX := Shut.mk hx2
  clear hx1 hx2
  obtain ⟨t1, ht1⟩ : ∃ t1, turn (xorW u x1) r = t1 := ⟨_, rfl⟩
  rw [ht1]
  have HT := Shut.mk ht1
  clear ht1
  go_enter Tryd.func74, Tryd.ntmps74
  have c1 := q0.cell
  have c2 := q0.rot.cell
  have c3 := q0.fz
  go_wp2
  go_region
  go_wp2
  rw [HX.out]
  have q1 := q0.seta x1
  have B1 := (B0.setCell a (.int .u32 x1)).drewN 1
  rw [show ∀ x : World, x.drewN 1 = x.drew from fun _ => rfl] at B1
  clear c1 c2 c3 q0 B0
  generalize (w.setCell ⟨g, a, none⟩ (.int .u32 x1)).drew = w1 at *
  have c1 := q1.rot.rot.rot.cell
  have c2 := q1.cell
  have c3 := q1.rot.rot.rot.fz
  have q2 := q1.setd t1
  go_region_law (first | (go_simp; go_at_call 82; refine (turnLeft_any _ _ (by omega) (by omega) _).mono ?_; rintro e w' ⟨rfl, nd, rfl⟩))
  all_goals
    go_wp2
    rw [show turn (bits BinOp.xor IntKind.u32 u x1) r = t1 from HT.out]
    go_end0
    exact ⟨rfl, { q2 with k := (q1.k.drewN _).set_ d q1.ld t1 }, (B1.drewN _).setCell d _⟩

set_option maxRecDepth 100000 in
set_option maxHeartbeats 4000000 in
theorem quarter_any (g : Nat) (V : List Int) (a b c d : Nat) (w : World) (h : KOw .u32 w g V) (hV : V.length = 16)
    (ha : a < 16) (hb : b < 16) (hc : c < 16) (hd : d < 16) (hab : a ≠ b) (hac : a ≠ c) (had : a ≠ d) (hbc : b ≠ c) (hbd : b ≠ d) (hcd : c ≠ d) :
    Calls Tryd.prog 56 #[.pointer (some ⟨g, 0, none⟩), .agg #[.int .i64 a, .int .i64 b, .int .i64 c, .int .i64 d]] w fun e w' => e = .returned (.tuple #[]) ∧ KOw .u32 w' g (qr V a b c d) ∧ But g w.heap.size w w' := by
  have hgl := h.lt
  have q0 : Q4 (w.alloc (.cells #[.int .i64 a, .int .i64 b, .int .i64 c, .int .i64 d] 77)).drew g V a b c d _ _ _ _ := ⟨(h.below (ab (Below.refl _ w) (.cells #[.int .i64 a, .int .i64 b, .int .i64 c, .int .i64 d] 77)) h.lt).drew, by omega, by omega, by omega, by omega, hab, hac, had, hbc, hbd, hcd, rfl, rfl, rfl, rfl⟩
  have B0 : But g w.heap.size w (w.alloc (.cells #[.int .i64 a, .int .i64 b, .int .i64 c, .int .i64 d] 77)).drew := (But.of_below (ab (Below.refl _ w) (.cells #[.int .i64 a, .int .i64 b, .int .i64 c, .int .i64 d] 77))).drewN 1
  have HQ := Shut.mk (show qr V a b c d = put4 V a b c d (wholeQ (V.getD a 0) (V.getD b 0) (V.getD c 0) (V.getD d 0)) from rfl)
  have H8 := fun x1 u1 z1 y1 x2 u2 z2 y2 => Shut.mk (eight_sets V a b c d x1 u1 z1 y1 x2 u2 z2 y2 hbc hbd hcd)
  have z0 : w.heap.size < (w.alloc (.cells #[.int .i64 a, .int .i64 b, .int .i64 c, .int .i64 d] 77)).drew.heap.size := by simp
  generalize V.getD a 0 = va at *
  generalize V.getD b 0 = vb at *
  generalize V.getD c 0 = vc at *
  generalize V.getD d 0 = vd at *
  generalize qr V a b c d = VQ at *
  clear h hV hab hac had hbc hbd hcd hgl
  go_enter Tryd.func56, Tryd.ntmps56
  go_wp2
  go_region
  generalize (w.alloc (.cells #[.int .i64 a, .int .i64 b, .int .i64 c, .int .i64 d] 77)).drew = w0 at *
  go_wp2_with fail
  refine (step_any g V a b c d va vb vc vd 16 w0 q0 (by omega) ha hb hd).mono ?_
  rintro e w1 ⟨rfl, q1, b1⟩
  have B1 := B0.trans (b1.mono (Nat.le_of_lt z0))
  have z1 := Nat.lt_of_lt_of_le z0 b1.size
  clear q0 B0 b1 z0
  obtain ⟨x1, hx1⟩ : ∃ x, addW va vb = x := ⟨_, rfl⟩
  rw [hx1] at q1
  obtain ⟨u1, hu1⟩ : ∃ x, turn (xorW vd x1) 16 = x := ⟨_, rfl⟩
  rw [hu1] at q1
  have q1' := q1.rot.rot
  go_wp2_with fail
  refine (step_any g _ c d a b vc u1 x1 vb 12 w1 q1' (by omega) hc hd hb).mono ?_
  rintro e w2 ⟨rfl, q2, b2⟩
  have B2 := B1.trans (b2.mono (Nat.le_of_lt z1))
  have z2 := Nat.lt_of_lt_of_le z1 b2.size
  clear q1 q1' B1 b2 z1
  obtain ⟨y1, hy1⟩ : ∃ x, addW vc u1 = x := ⟨_, rfl⟩
  rw [hy1] at q2
  obtain ⟨v1, hv1⟩ : ∃ x, turn (xorW vb y1) 12 = x := ⟨_, rfl⟩
  rw [hv1] at q2
  have q2' := q2.rot.rot
  go_wp2_with fail
  refine (step_any g _ a b c d x1 v1 y1 u1 8 w2 q2' (by omega) ha hb hd).mono ?_
  rintro e w3 ⟨rfl, q3, b3⟩
  have B3 := B2.trans (b3.mono (Nat.le_of_lt z2))
  have z3 := Nat.lt_of_lt_of_le z2 b3.size
  clear q2 q2' B2 b3 z2
  obtain ⟨x2, hx2⟩ : ∃ x, addW x1 v1 = x := ⟨_, rfl⟩
  rw [hx2] at q3
  obtain ⟨u2, hu2⟩ : ∃ x, turn (xorW u1 x2) 8 = x := ⟨_, rfl⟩
  rw [hu2] at q3
  have q3' := q3.rot.rot
  go_wp2_with fail
  refine (step_any g _ c d a b y1 u2 x2 v1 7 w3 q3' (by omega) hc hd hb).mono ?_
  rintro e w4 ⟨rfl, q4, b4⟩
  have B4 := B3.trans (b4.mono (Nat.le_of_lt z3))
  obtain ⟨y2, hy2⟩ : ∃ x, addW y1 u2 = x := ⟨_, rfl⟩
  rw [hy2] at q4
  obtain ⟨v2, hv2⟩ : ∃ x, turn (xorW v1 y2) 7 = x := ⟨_, rfl⟩
  rw [hv2] at q4
  have k := q4.k
  rw [(H8 _ _ _ _ _ _ _ _).out] at k
  have hq : wholeQ va vb vc vd = (x2, v2, y2, u2) := by
    rw [← hv2, ← hy2, ← hu2, ← hx2, ← hv1, ← hy1, ← hu1, ← hx1]
    rfl
  rw [← hq, ← HQ.out] at k
  have K := Shut.mk k
  have B := Shut.mk B4
  clear k B4 b4 hq q3 q3' q4 hv2 hy2 hu2 hx2 hv1 hy1 hu1 hx1
  go_wp2
  go_end0
  exact ⟨rfl, K.out, B.out⟩
end Go.Proofs.YtpoiecdifhkegaaDoor
