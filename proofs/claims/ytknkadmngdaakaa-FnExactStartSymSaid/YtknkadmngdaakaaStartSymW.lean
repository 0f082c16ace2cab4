/- The walk of the exact law of StartSym. -/
import Derived.Test.YtknkadmngdaakaaStartP
namespace Go.Proofs.Ytknkadmngdaakaa
open Go.RowKit

set_option maxHeartbeats 4000000 in
theorem exactStartSym_all (w : World) :
    Calls Try.prog 4 #[] w fun e w' => e = .returned (.bool true) ∧ Below w.heap.size w w' := by
  have Gs := Shut.mk (fun W => spec_StartSym_any W)
  have Gi := Shut.mk (fun W => impl_StartSym_any W)
  generalize hNL : nameL = L at *
  have hLen : L.length = 32 := by rw [← hNL]; rfl
  replace hLen := Shut.mk hLen
  clear hNL
  go_enter Try.func4, Try.ntmps4
  go_wp2_with fail
  refine (Gs.out _).mono ?_
  rintro e w1 ⟨⟨A0, E0, rfl, G0⟩, b1⟩
  have B1 := ab b1 (.cells #[.int .i64 0, .slice A0 32 32, .slice E0 32 32, .slice none 0 0, .int .i64 0, .slice none 0 0] 32)
  have tG0 := G0.tops
  replace G0 := G0.alloc (.cells #[.int .i64 0, .slice A0 32 32, .slice E0 32 32, .slice none 0 0, .int .i64 0, .slice none 0 0] 32)
  have T0 := Stc.new w1 32 [.int .i64 0, .slice A0 32 32, .slice E0 32 32, .slice none 0 0, .int .i64 0, .slice none 0 0] _ rfl
  have z1 := b1.size
  clear b1
  go_wp2_with fail
  refine (Gi.out _).mono ?_
  rintro e w2 ⟨⟨A1, E1, rfl, G1⟩, b2⟩
  simp only [World.size_alloc] at G1
  have z2 := b2.size
  simp only [World.size_alloc] at z2
  replace G0 := G0.below b2 (Nat.le_refl _)
  replace T0 := T0.below b2 T0.lt
  have B2 := ab (ac B1 b2) (.cells #[.int .i64 0, .slice A1 32 32, .slice E1 32 32, .slice none 0 0, .int .i64 0, .slice none 0 0] 32)
  clear B1 b2
  have tG1 := G1.tops
  have bG1 := G1.bases
  replace G0 := G0.alloc (.cells #[.int .i64 0, .slice A1 32 32, .slice E1 32 32, .slice none 0 0, .int .i64 0, .slice none 0 0] 32)
  replace T0 := T0.alloc (.cells #[.int .i64 0, .slice A1 32 32, .slice E1 32 32, .slice none 0 0, .int .i64 0, .slice none 0 0] 32)
  replace G1 := G1.alloc (.cells #[.int .i64 0, .slice A1 32 32, .slice E1 32 32, .slice none 0 0, .int .i64 0, .slice none 0 0] 32)
  have T1 := Stc.new w2 32 [.int .i64 0, .slice A1 32 32, .slice E1 32 32, .slice none 0 0, .int .i64 0, .slice none 0 0] _ rfl
  have x0 := T1.cell (i := 0) rfl
  have x1 := T1.cell (i := 1) rfl
  have x2 := T1.cell (i := 2) rfl
  have x3 := T1.cell (i := 3) rfl
  have x4 := T1.cell (i := 4) rfl
  have x5 := T1.cell (i := 5) rfl
  have y0 := T0.cell (i := 0) rfl
  have y1 := T0.cell (i := 1) rfl
  have y2 := T0.cell (i := 2) rfl
  have y3 := T0.cell (i := 3) rfl
  have y4 := T0.cell (i := 4) rfl
  have y5 := T0.cell (i := 5) rfl
  go_wp2_with fail
  refine (eqSymResult_any _ _ _ _ _ _ _ _ _ _ _ _ _ _ _ _ _ _ _ _ _ _ _ _ _ _ _ G1.head.bs G1.rest.head.bs G1.rest.rest.head.bs G1.rest.rest.rest.head.bs G0.head.bs G0.rest.head.bs G0.rest.rest.head.bs G0.rest.rest.rest.head.bs (by omega) (by omega) (by omega) (by omega)).mono ?_
  rintro e w3 ⟨rfl, b3⟩
  clear x0 x1 x2 x3 x4 x5
  clear y0 y1 y2 y3 y4 y5
  have z3 := b3.size
  simp only [World.size_alloc] at z3
  replace G0 := G0.below b3 (Nat.le_refl _)
  replace T0 := T0.below b3 T0.lt
  replace G1 := G1.below b3 (Nat.le_refl _)
  replace T1 := T1.below b3 T1.lt
  have B3 := ac B2 b3
  clear B2 b3
  have x0 := T1.cell (i := 0) rfl
  have x1 := T1.cell (i := 1) rfl
  have x2 := T1.cell (i := 2) rfl
  have x3 := T1.cell (i := 3) rfl
  have x4 := T1.cell (i := 4) rfl
  have x5 := T1.cell (i := 5) rfl
  go_wp2_with fail
  refine (markSymResult_m _ _ _ _ _ _ _ _ _ _ _ _ _ _ _ _ _ _ _ _ _ G1 (by omega) (by omega) (by omega) (by omega) (by omega) (by omega)).mono ?_
  rintro e w4 ⟨rfl, GM, t4⟩
  clear x0 x1 x2 x3 x4 x5
  have z4 := t4.size
  have l1 := T0.lt
  have tb := t4.below (C := w1.heap.size + 1) (by omega) bG1
  replace T0 := T0.below tb (by omega)
  replace G0 := G0.under tb (fun y hy hn a ha => by have := tG0 y hy hn a ha; omega)
  replace T1 := T1.touch t4 (fun y hy h0 a ha => by have := tG1 y hy h0 a ha; omega)
  have B4 := B3.trans (tb.mono (by omega))
  clear B3 tb t4 l1 G1
  have x0 := T1.cell (i := 0) rfl
  have x1 := T1.cell (i := 1) rfl
  have x2 := T1.cell (i := 2) rfl
  have x3 := T1.cell (i := 3) rfl
  have x4 := T1.cell (i := 4) rfl
  have x5 := T1.cell (i := 5) rfl
  go_wp2_with fail
  refine (heldSymResult_any _ _ _ _ _ _ _ _ _ _ _ _ _ _ _ _ GM.head.bs GM.rest.head.bs GM.rest.rest.head.bs GM.rest.rest.rest.head.bs (by omega) (by omega) (by omega) (by omega) (by omega) (by omega)).mono ?_
  rintro e w5 ⟨rfl, b5⟩
  clear x0 x1 x2 x3 x4 x5
  replace G0 := G0.below b5 (Nat.le_refl _)
  replace T0 := T0.below b5 T0.lt
  replace GM := GM.below b5 (Nat.le_refl _)
  replace T1 := T1.below b5 T1.lt
  have B5 := ac B4 b5
  clear B4 b5
  go_wp2_with fail
  refine (Gi.out _).mono ?_
  rintro e w6 ⟨⟨A2, E2, rfl, G2⟩, b6⟩
  replace G0 := G0.below b6 (Nat.le_refl _)
  replace T0 := T0.below b6 T0.lt
  replace GM := GM.below b6 (Nat.le_refl _)
  replace T1 := T1.below b6 T1.lt
  have B6 := ab (ac B5 b6) (.cells #[.int .i64 0, .slice A2 32 32, .slice E2 32 32, .slice none 0 0, .int .i64 0, .slice none 0 0] 32)
  clear B5 b6
  replace G0 := G0.alloc (.cells #[.int .i64 0, .slice A2 32 32, .slice E2 32 32, .slice none 0 0, .int .i64 0, .slice none 0 0] 32)
  replace T0 := T0.alloc (.cells #[.int .i64 0, .slice A2 32 32, .slice E2 32 32, .slice none 0 0, .int .i64 0, .slice none 0 0] 32)
  replace GM := GM.alloc (.cells #[.int .i64 0, .slice A2 32 32, .slice E2 32 32, .slice none 0 0, .int .i64 0, .slice none 0 0] 32)
  replace T1 := T1.alloc (.cells #[.int .i64 0, .slice A2 32 32, .slice E2 32 32, .slice none 0 0, .int .i64 0, .slice none 0 0] 32)
  replace G2 := G2.alloc (.cells #[.int .i64 0, .slice A2 32 32, .slice E2 32 32, .slice none 0 0, .int .i64 0, .slice none 0 0] 32)
  have T2 := Stc.new w6 32 [.int .i64 0, .slice A2 32 32, .slice E2 32 32, .slice none 0 0, .int .i64 0, .slice none 0 0] _ rfl
  have x0 := T2.cell (i := 0) rfl
  have x1 := T2.cell (i := 1) rfl
  have x2 := T2.cell (i := 2) rfl
  have x3 := T2.cell (i := 3) rfl
  have x4 := T2.cell (i := 4) rfl
  have x5 := T2.cell (i := 5) rfl
  have y0 := T0.cell (i := 0) rfl
  have y1 := T0.cell (i := 1) rfl
  have y2 := T0.cell (i := 2) rfl
  have y3 := T0.cell (i := 3) rfl
  have y4 := T0.cell (i := 4) rfl
  have y5 := T0.cell (i := 5) rfl
  go_wp2_with fail
  refine (eqSymResult_any _ _ _ _ _ _ _ _ _ _ _ _ _ _ _ _ _ _ _ _ _ _ _ _ _ _ _ G2.head.bs G2.rest.head.bs G2.rest.rest.head.bs G2.rest.rest.rest.head.bs G0.head.bs G0.rest.head.bs G0.rest.rest.head.bs G0.rest.rest.rest.head.bs (by omega) (by omega) (by omega) (by omega)).mono ?_
  rintro e w7 ⟨rfl, b7⟩
  clear x0 x1 x2 x3 x4 x5
  clear y0 y1 y2 y3 y4 y5
  have z7 := b7.size
  replace GM := GM.below b7 (Nat.le_refl _)
  replace T1 := T1.below b7 T1.lt
  have B7 := ac B6 b7
  clear B6 b7
  have x0 := T1.cell (i := 0) rfl
  have x1 := T1.cell (i := 1) rfl
  have x2 := T1.cell (i := 2) rfl
  have x3 := T1.cell (i := 3) rfl
  have x4 := T1.cell (i := 4) rfl
  have x5 := T1.cell (i := 5) rfl
  go_wp2_with fail
  refine (heldSymResult_any _ _ _ _ _ _ _ _ _ _ _ _ _ _ _ _ GM.head.bs GM.rest.head.bs GM.rest.rest.head.bs GM.rest.rest.rest.head.bs (by omega) (by omega) (by omega) (by omega) (by omega) (by omega)).mono ?_
  rintro e w8 ⟨rfl, b8⟩
  clear x0 x1 x2 x3 x4 x5
  have B8 := ac B7 b8
  clear B7 b8
  go_wp2
  go_ret
  exact ⟨rfl, B8⟩
end Go.Proofs.Ytknkadmngdaakaa
