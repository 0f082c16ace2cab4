/- SHA-256, of the program: a round. -/
import Derived.Test.YtabhcolfkkfonaaDoorShaP
namespace Go.Proofs.YtabhcolfkkfonaaDoor
open Go.RowKit

theorem kow_new (w : World) (k : IntKind) (t : TypeId) (l : List Int) (cs : Array Value) (hcs : cs = (l.map (Value.int k)).toArray) : KOw k (w.alloc (.cells cs t)) w.heap.size l := (KB.new w l cs hcs).kow

/-- eight cells of a block, set one by one -/
theorem set8 {w : World} {g : Nat} {l : List Int} (hl : l.length = 8) (h : KOw .u32 w g l) (a0 a1 a2 a3 a4 a5 a6 a7 : Int) :
    KOw .u32 ((((((((w.setCell ⟨g, 0, none⟩ (.int .u32 a0)).setCell ⟨g, 1, none⟩ (.int .u32 a1)).setCell ⟨g, 2, none⟩ (.int .u32 a2)).setCell ⟨g, 3, none⟩ (.int .u32 a3)).setCell ⟨g, 4, none⟩ (.int .u32 a4)).setCell ⟨g, 5, none⟩ (.int .u32 a5)).setCell ⟨g, 6, none⟩ (.int .u32 a6)).setCell ⟨g, 7, none⟩ (.int .u32 a7)) g [a0, a1, a2, a3, a4, a5, a6, a7] := by
  match l, hl with
  | [x0, x1, x2, x3, x4, x5, x6, x7], _ =>
    have h0 := h.set_ 0 (by simp) a0
    have h1 := h0.set_ 1 (by simp) a1
    have h2 := h1.set_ 2 (by simp) a2
    have h3 := h2.set_ 3 (by simp) a3
    have h4 := h3.set_ 4 (by simp) a4
    have h5 := h4.set_ 5 (by simp) a5
    have h6 := h5.set_ 6 (by simp) a6
    have h7 := h6.set_ 7 (by simp) a7
    simp only [List.set_cons_succ, List.set_cons_zero] at h7
    exact h7
theorem below8 {w : World} {B g : Nat} {W : World} (h : Below B W w) (hB : B ≤ g) (v0 v1 v2 v3 v4 v5 v6 v7 : Value) :
    Below B W ((((((((w.setCell ⟨g, 0, none⟩ v0).setCell ⟨g, 1, none⟩ v1).setCell ⟨g, 2, none⟩ v2).setCell ⟨g, 3, none⟩ v3).setCell ⟨g, 4, none⟩ v4).setCell ⟨g, 5, none⟩ v5).setCell ⟨g, 6, none⟩ v6).setCell ⟨g, 7, none⟩ v7) := by
  have h0 := h.setCell (p := ⟨g, 0, none⟩) hB v0
  have h1 := h0.setCell (p := ⟨g, 1, none⟩) hB v1
  have h2 := h1.setCell (p := ⟨g, 2, none⟩) hB v2
  have h3 := h2.setCell (p := ⟨g, 3, none⟩) hB v3
  have h4 := h3.setCell (p := ⟨g, 4, none⟩) hB v4
  have h5 := h4.setCell (p := ⟨g, 5, none⟩) hB v5
  have h6 := h5.setCell (p := ⟨g, 6, none⟩) hB v6
  exact h6.setCell (p := ⟨g, 7, none⟩) hB v7

set_option maxHeartbeats 1000000 in
theorem round_any (V0 V1 V2 V3 V4 V5 V6 V7 kx : Int) (hV : Wd [V0, V1, V2, V3, V4, V5, V6, V7]) (w : World) :
    Calls Tryd.prog 62 #[.agg #[.int .u32 V0, .int .u32 V1, .int .u32 V2, .int .u32 V3, .int .u32 V4, .int .u32 V5, .int .u32 V6, .int .u32 V7], .int .u32 kx] w fun e w' =>
      e = .returned (.agg (((stepV [V0, V1, V2, V3, V4, V5, V6, V7] 0 kx).map (Value.int .u32)).toArray)) ∧ Below w.heap.size w w' := by
  have d0 := hV.get 0
  have d1 := hV.get 1
  have d2 := hV.get 2
  have d3 := hV.get 3
  have d4 := hV.get 4
  have d5 := hV.get 5
  have d6 := hV.get 6
  have d7 := hV.get 7
  simp only [List.getD_cons_zero, List.getD_cons_succ] at d0 d1 d2 d3 d4 d5 d6 d7
  obtain ⟨d00, d01⟩ := d0
  obtain ⟨d10, d11⟩ := d1
  obtain ⟨d20, d21⟩ := d2
  obtain ⟨d30, d31⟩ := d3
  obtain ⟨d40, d41⟩ := d4
  obtain ⟨d50, d51⟩ := d5
  obtain ⟨d60, d61⟩ := d6
  obtain ⟨d70, d71⟩ := d7
  have r4 := right3 V4 6 11 25 d40 d41 (by omega) (by omega)
  have r0 := right3 V0 2 13 22 d00 d01 (by omega) (by omega)
  have R4 := Lib.hid r4
  have R0 := Lib.hid r0
  clear r4 r0 hV
  go_enter Tryd.func62, Tryd.ntmps62
  go_wp2
  go_quiet (fail)
  generalize hW : World.drewN _ nq = W1
  have z1 : W1.heap.size = w.heap.size + 2 := by rw [← hW]; simp
  have b1 : Below w.heap.size w W1 := by rw [← hW]; exact ad (ab (ab (Below.refl _ _) _) _) _
  have k1 : KOw .u32 W1 (w.heap.size + 1) [0, 0, 0, 0, 0, 0, 0, 0] := by
    rw [← hW]
    have := (kow_new (w.alloc (.cells #[.int .u32 V0, .int .u32 V1, .int .u32 V2, .int .u32 V3, .int .u32 V4, .int .u32 V5, .int .u32 V6, .int .u32 V7] 72)) .u32 72 [0, 0, 0, 0, 0, 0, 0, 0] _ rfl).drewN nq
    rw [World.size_alloc] at this
    exact this
  have Z1 := Lib.hid z1
  clear hW z1
  go_wp2_with fail
  refine (turnedRight_any V4 d40 d41 W1.heap.size 3 3 [6, 11, 25] (W1.alloc (.cells #[.int .i64 6, .int .i64 11, .int .i64 25] 2)) (kow_new W1 .i64 _ [6, 11, 25] _ rfl) rfl (by omega) (by decide)).mono ?_
  rintro e w' ⟨rfl, q2, rfl⟩
  have b2 : Below w.heap.size w ((W1.alloc (.cells #[.int .i64 6, .int .i64 11, .int .i64 25] 2)).drewN q2) := ad (ab b1 _) q2
  have k2 := (k1.alloc (.cells #[.int .i64 6, .int .i64 11, .int .i64 25] 2)).drewN q2
  have z2 : w.heap.size + 2 ≤ ((W1.alloc (.cells #[.int .i64 6, .int .i64 11, .int .i64 25] 2)).drewN q2).heap.size := by
    show _ ≤ (W1.alloc _).heap.size
    rw [World.size_alloc, Z1.out]; omega
  generalize (W1.alloc (.cells #[.int .i64 6, .int .i64 11, .int .i64 25] 2)).drewN q2 = W2 at *
  rw [R4.out]
  go_wp2_with fail
  refine (turnedRight_any V0 d00 d01 W2.heap.size 3 3 [2, 13, 22] (W2.alloc (.cells #[.int .i64 2, .int .i64 13, .int .i64 22] 2)) (kow_new W2 .i64 _ [2, 13, 22] _ rfl) rfl (by omega) (by decide)).mono ?_
  rintro e w' ⟨rfl, q3, rfl⟩
  have b3 : Below w.heap.size w ((W2.alloc (.cells #[.int .i64 2, .int .i64 13, .int .i64 22] 2)).drewN q3) := ad (ab b2 _) q3
  have k3 := (k2.alloc (.cells #[.int .i64 2, .int .i64 13, .int .i64 22] 2)).drewN q3
  generalize (W2.alloc (.cells #[.int .i64 2, .int .i64 13, .int .i64 22] 2)).drewN q3 = W3 at *
  rw [R0.out]
  have c0 := k3.cell 0 (by decide)
  have c1 := k3.cell 1 (by decide)
  have c2 := k3.cell 2 (by decide)
  have c3 := k3.cell 3 (by decide)
  have c4 := k3.cell 4 (by decide)
  have c5 := k3.cell 5 (by decide)
  have c6 := k3.cell 6 (by decide)
  have c7 := k3.cell 7 (by decide)
  have f0 := k3.frozen 0
  have f1 := k3.frozen 1
  have f2 := k3.frozen 2
  have f3 := k3.frozen 3
  have f4 := k3.frozen 4
  have f5 := k3.frozen 5
  have f6 := k3.frozen 6
  have f7 := k3.frozen 7
  simp only [List.getD_cons_zero, List.getD_cons_succ] at c0 c1 c2 c3 c4 c5 c6 c7
  have K3 := Lib.hid k3
  have B3 := Lib.hid b3
  clear k1 k2 k3 b1 b2 b3 z2
  go_wp2
  clear c0 c1 c2 c3 c4 c5 c6 c7 f0 f1 f2 f3 f4 f5 f6 f7
  have Hs : Hid ([(V7 + xorW (xorW (rightW V4 6) (rightW V4 11)) (rightW V4 25) + bits BinOp.xor IntKind.u32 (bits BinOp.and IntKind.u32 V4 V5) (bits BinOp.and IntKind.u32 (bits BinOp.xor IntKind.u32 IntKind.u32.max V4) V6) + kx + (xorW (xorW (rightW V0 2) (rightW V0 13)) (rightW V0 22) + bits BinOp.xor IntKind.u32 (bits BinOp.xor IntKind.u32 (bits BinOp.and IntKind.u32 V0 V1) (bits BinOp.and IntKind.u32 V0 V2)) (bits BinOp.and IntKind.u32 V1 V2))) % 4294967296, V0, V1, V2,
      (V3 + (V7 + xorW (xorW (rightW V4 6) (rightW V4 11)) (rightW V4 25) + bits BinOp.xor IntKind.u32 (bits BinOp.and IntKind.u32 V4 V5) (bits BinOp.and IntKind.u32 (bits BinOp.xor IntKind.u32 IntKind.u32.max V4) V6) + kx)) % 4294967296, V4, V5, V6] = stepV [V0, V1, V2, V3, V4, V5, V6, V7] 0 kx) := by
    show _ = [addW (addW (addW (addW (addW V7 (bigE V4)) (chW V4 V5 V6)) 0) kx) (addW (bigA V0) (majW V0 V1 V2)), V0, V1, V2, addW V3 (addW (addW (addW (addW V7 (bigE V4)) (chW V4 V5 V6)) 0) kx), V4, V5, V6]
    show [(V7 + bigE V4 + chW V4 V5 V6 + kx + (bigA V0 + majW V0 V1 V2)) % 4294967296, V0, V1, V2, (V3 + (V7 + bigE V4 + chW V4 V5 V6 + kx)) % 4294967296, V4, V5, V6] = _
    generalize bigE V4 = x1
    generalize chW V4 V5 V6 = x2
    generalize bigA V0 = x3
    generalize majW V0 V1 V2 = x4
    unfold addW
    congr 1
    · omega
    · congr 4
      omega
  rw [← Hs.out]
  generalize (V7 + xorW (xorW (rightW V4 6) (rightW V4 11)) (rightW V4 25) + bits BinOp.xor IntKind.u32 (bits BinOp.and IntKind.u32 V4 V5) (bits BinOp.and IntKind.u32 (bits BinOp.xor IntKind.u32 IntKind.u32.max V4) V6) + kx + (xorW (xorW (rightW V0 2) (rightW V0 13)) (rightW V0 22) + bits BinOp.xor IntKind.u32 (bits BinOp.xor IntKind.u32 (bits BinOp.and IntKind.u32 V0 V1) (bits BinOp.and IntKind.u32 V0 V2)) (bits BinOp.and IntKind.u32 V1 V2))) % 4294967296 = Y0
  generalize (V3 + (V7 + xorW (xorW (rightW V4 6) (rightW V4 11)) (rightW V4 25) + bits BinOp.xor IntKind.u32 (bits BinOp.and IntKind.u32 V4 V5) (bits BinOp.and IntKind.u32 (bits BinOp.xor IntKind.u32 IntKind.u32.max V4) V6) + kx)) % 4294967296 = Y4
  have k4 := set8 rfl K3.out Y0 V0 V1 V2 Y4 V4 V5 V6
  have b4 := below8 B3.out (show w.heap.size ≤ w.heap.size + 1 by omega) (.int .u32 Y0) (.int .u32 V0) (.int .u32 V1) (.int .u32 V2) (.int .u32 Y4) (.int .u32 V4) (.int .u32 V5) (.int .u32 V6)
  generalize World.setCell _ ⟨w.heap.size + 1, 7, none⟩ _ = W4 at *
  have c0 := k4.cell 0 (by simp)
  have c1 := k4.cell 1 (by simp)
  have c2 := k4.cell 2 (by simp)
  have c3 := k4.cell 3 (by simp)
  have c4 := k4.cell 4 (by simp)
  have c5 := k4.cell 5 (by simp)
  have c6 := k4.cell 6 (by simp)
  have c7 := k4.cell 7 (by simp)
  simp only [List.getD_cons_zero, List.getD_cons_succ] at c0 c1 c2 c3 c4 c5 c6 c7
  exact bodyPost_ret (v := .agg #[.int .u32 Y0, .int .u32 V0, .int .u32 V1, .int .u32 V2, .int .u32 Y4, .int .u32 V4, .int .u32 V5, .int .u32 V6]) (by simp [results, Tryd.results62, go_sem, c0, c1, c2, c3, c4, c5, c6, c7]) rfl ⟨rfl, b4⟩
end Go.Proofs.YtabhcolfkkfonaaDoor
