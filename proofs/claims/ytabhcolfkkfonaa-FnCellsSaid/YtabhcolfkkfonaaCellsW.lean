/- The walk of FnCells. -/
import Derived.Test.YtabhcolfkkfonaaCelG
import Derived.Test.YtabhcolfkkfonaaCelH
import Derived.Test.YtabhcolfkkfonaaCelI
import Derived.Test.YtabhcolfkkfonaaCellS
import Derived.Test.YtabhcolfkkfonaaTurnsC
import Derived.Deep.RegionHeld3
import Derived.Deep.CutRange
namespace Go.Proofs.Ytabhcolfkkfonaa
open Go.RowKit
set_option linter.unusedVariables false

theorem fld_cr0 (x y a b c d : Int) (v : Bool) (A : Option Addr) (n f : Nat) (w : World) : (Instr.field 32 (.agg #[.int .i64 x, .int .i64 y, .int .i64 a, .int .i64 b, .int .i64 c, .int .i64 d, .bool v, .slice A n f]) 0).run Try.prog w = .ok (.int .i64 x) w := by kernel_rfl
theorem fld_cr2 (x y a b c d : Int) (v : Bool) (A : Option Addr) (n f : Nat) (w : World) : (Instr.field 32 (.agg #[.int .i64 x, .int .i64 y, .int .i64 a, .int .i64 b, .int .i64 c, .int .i64 d, .bool v, .slice A n f]) 2).run Try.prog w = .ok (.agg #[.int .i64 a, .int .i64 b, .int .i64 c, .int .i64 d, .bool v, .slice A n f]) w := by kernel_rfl
theorem fld_br1 (x : Int) (A : Option Addr) (n f : Nat) (w : World) : (Instr.field 28 (.agg #[.int .i64 x, .slice A n f]) 1).run Try.prog w = .ok (.slice A n f) w := by kernel_rfl
theorem sameC_self (a b c d : Int) (v : Bool) (l : List Int) : sameC a b c d v l a b c d v l = true := by simp [sameC]

/-- a text that is decoded is that of its cell -/
theorem dec_back {m : Nat} {p : List Int} (hp : p.length = m) (hby : By p) (h : decCode m p = 0) : m = 44 ∧ decD m p = true ∧ cellC (fK p) (fS p) (fA p) (fM p) (fL p) (fZ p).toNat = 0 ∧ cellL (fK p) (fS p) (fA p) (fM p) (fL p) (fB p (fZ p).toNat) = p := by
  unfold decCode at h
  split at h
  · rename_i hm
    split at h
    · rename_i ho
      have ho2 := ho
      unfold decOk at ho2
      rw [Bool.and_eq_true] at ho2
      obtain ⟨h1, h2⟩ := decB_of ho2.2
      exact ⟨hm, by simp [decD, hm, ho], h1, h2⟩
    · omega
  · omega

theorem dec_cellL {a b c d : Int} {v : Bool} {l : List Int} (h : cellC a b c d v l.length = 0) : decOk (cellL a b c d v l) = true := by
  unfold decOk
  have hz := fZ_cellL a b c d v l
  have hl := (cellC_lim h).2.2
  rw [hz, Int.toNat_natCast, decB_cellL h, Bool.and_true, decide_eq_true_eq]
  omega

set_option maxRecDepth 100000 in
set_option maxHeartbeats 16000000 in
theorem cells_walk (A : Option Addr) (n c : Nat) (l : List Int) (w : World) (h : Bs w A n l) (hn : n ≤ 1048576) :
    Calls Try.prog 3 #[.slice A n c] w fun e w' => e = .returned (.bool true) ∧ Below w.heap.size w w' := by
  have Hd : Shut (decide (1048576 < n) = false) := ⟨by simp; omega⟩
  go_enter Try.func3, Try.ntmps3
  go_wp2_with fail
  refine (lwBig_any _ _ _ _ (by omega)).mono ?_
  rintro e w0 ⟨rfl, rfl⟩
  rw [Hd.out]
  go_wp2_with fail
  refine (drawEncodeCell_any _ _ _ _ _ h hn).mono ?_
  rintro e w1 ⟨⟨a, b, cc, d, v, A3, c3, n3, r, rfl, row, hr, hn3⟩, B1⟩
  have TC := Stc.new w1 25 [.int .i64 a, .int .i64 b, .int .i64 cc, .int .i64 d, .bool v, .slice A3 n3 c3] _ rfl
  have q3 := (row.ow' hr).bs.alloc (.cells #[.int .i64 a, .int .i64 b, .int .i64 cc, .int .i64 d, .bool v, .slice A3 n3 c3] 25)
  have k3 := row.capX
  have hrl := hr
  have B2 := ab B1 (.cells #[.int .i64 a, .int .i64 b, .int .i64 cc, .int .i64 d, .bool v, .slice A3 n3 c3] 25)
  clear row hr B1
  have y0 := TC.cell (i := 0) rfl
  have y1 := TC.cell (i := 1) rfl
  have y2 := TC.cell (i := 2) rfl
  have y3 := TC.cell (i := 3) rfl
  have y4 := TC.cell (i := 4) rfl
  have y5 := TC.cell (i := 5) rfl
  have bC := TC.lt
  have HF : Shut (cellC a b cc d v n3 = 0 → cellC a b cc d v r.length = 0) := ⟨fun h0 => by rw [hrl]; exact h0⟩
  have HR := Shut.mk hrl
  go_wp2_with fail
  refine (implEncodeCell_any a b cc d v A3 n3 c3 r _ q3).mono ?_
  rintro e w3 ⟨⟨A4, c4, rfl, R4, k4, _⟩, b3⟩
  clear y0 y1 y2 y3 y4 y5 hrl
  have GE := Shut.mk (fun (W : World) (h3 : Bs W A3 n3 r) => specEncodeCell_any a b cc d v A3 n3 c3 r W h3 k3.2)
  have GF := fun (W : World) => implCellFault_any a b cc d v A3 n3 c3 W
  obtain ⟨EC, hEC⟩ : ∃ x, x = cellC a b cc d v n3 := ⟨_, rfl⟩
  obtain ⟨EL, hEL⟩ : ∃ x, x = cellL a b cc d v r := ⟨_, rfl⟩
  rw [← hEC] at GE GF HF R4 k4 ⊢
  rw [← hEL] at GE R4
  have HEL := Shut.mk hEL
  clear hEC hEL
  have z3 := b3.size
  simp only [World.size_alloc] at z3
  replace TC := (TC.below b3 TC.lt).alloc (.cells #[.int .i64 EC, .slice A4 (encN EC) c4] 28)
  replace q3 := (q3.below b3).alloc (.cells #[.int .i64 EC, .slice A4 (encN EC) c4] 28)
  replace R4 := R4.alloc (.cells #[.int .i64 EC, .slice A4 (encN EC) c4] 28)
  have TE := Stc.new w3 28 [.int .i64 EC, .slice A4 (encN EC) c4] _ rfl
  have B3 := ab (ac B2 b3) (.cells #[.int .i64 EC, .slice A4 (encN EC) c4] 28)
  have nzE : ¬ w3.heap.size = w1.heap.size := by omega
  clear b3 B2
  go_wp2_with fail
  refine (drawDecodeCell_any _ _ _ _ _ (h.below B3) hn).mono ?_
  rintro e w4 ⟨⟨g, m, c5, pl, rfl, q5, hm, hmc⟩, b4⟩
  replace TC := TC.below b4 TC.lt
  replace TE := TE.below b4 TE.lt
  replace q3 := q3.below b4
  replace R4 := R4.below b4 (Nat.le_refl _)
  have B4 := ac B3 b4
  have z4 := b4.size
  rw [World.size_alloc] at z4
  clear b4 B3
  have GD : Shut (∀ (W : World), Bs W (some ⟨g, 0, none⟩) m pl → Calls Try.prog 13 #[.slice (some ⟨g, 0, none⟩) m c5] W fun e w' => (∃ A f, e = .returned (.agg #[.int .i64 (decCode m pl), .int .i64 0, .int .i64 (selI (decD m pl) (fK pl)), .int .i64 (selI (decD m pl) (fS pl)), .int .i64 (selI (decD m pl) (fA pl)), .int .i64 (selI (decD m pl) (fM pl)), .bool (selB (decD m pl) (fL pl)), .slice A (selN (decD m pl) (fZ pl).toNat) f]) ∧ Rs w' W.heap.size [(A, selN (decD m pl) (fZ pl).toNat, selL (decD m pl) (fB pl (fZ pl).toNat))] ∧ selN (decD m pl) (fZ pl).toNat ≤ f ∧ (A = none → f = 0)) ∧ Below W.heap.size W w') := ⟨fun W h5 => specDecodeCell_any g m c5 pl W h5 hmc⟩
  go_wp2_with fail
  refine (implDecodeCell_any g m c5 pl _ q5 hmc).mono ?_
  rintro e w5 ⟨⟨A6, f6, rfl, R6, k6, _⟩, b5⟩
  have HB : Shut (decCode m pl = 0 → m = 44 ∧ cellC (selI (decD m pl) (fK pl)) (selI (decD m pl) (fS pl)) (selI (decD m pl) (fA pl)) (selI (decD m pl) (fM pl)) (selB (decD m pl) (fL pl)) (selN (decD m pl) (fZ pl).toNat) = 0 ∧ cellL (selI (decD m pl) (fK pl)) (selI (decD m pl) (fS pl)) (selI (decD m pl) (fA pl)) (selI (decD m pl) (fM pl)) (selB (decD m pl) (fL pl)) (selL (decD m pl) (fB pl (fZ pl).toNat)) = pl) := ⟨fun h0 => by
    obtain ⟨e1, e2, e3, e4⟩ := dec_back q5.len q5.byte h0
    rw [e2]
    simp only [selI, selB, selN, selL, if_true, Bool.true_and]
    exact ⟨e1, e3, e4⟩⟩
  generalize selI (decD m pl) (fK pl) = K at *
  generalize selI (decD m pl) (fS pl) = S at *
  generalize selI (decD m pl) (fA pl) = U at *
  generalize selI (decD m pl) (fM pl) = M at *
  generalize selB (decD m pl) (fL pl) = V at *
  generalize selN (decD m pl) (fZ pl).toNat = N6 at *
  generalize selL (decD m pl) (fB pl (fZ pl).toNat) = L6 at *
  generalize decCode m pl = C at *
  have z5 := b5.size
  replace TC := (TC.below b5 TC.lt).alloc (.cells #[.int .i64 C, .int .i64 0, .int .i64 K, .int .i64 S, .int .i64 U, .int .i64 M, .bool V, .slice A6 N6 f6] 32)
  replace TE := (TE.below b5 TE.lt).alloc (.cells #[.int .i64 C, .int .i64 0, .int .i64 K, .int .i64 S, .int .i64 U, .int .i64 M, .bool V, .slice A6 N6 f6] 32)
  replace q3 := (q3.below b5).alloc (.cells #[.int .i64 C, .int .i64 0, .int .i64 K, .int .i64 S, .int .i64 U, .int .i64 M, .bool V, .slice A6 N6 f6] 32)
  replace q5 := (q5.below b5).alloc (.cells #[.int .i64 C, .int .i64 0, .int .i64 K, .int .i64 S, .int .i64 U, .int .i64 M, .bool V, .slice A6 N6 f6] 32)
  replace R4 := (R4.below b5 (Nat.le_refl _)).alloc (.cells #[.int .i64 C, .int .i64 0, .int .i64 K, .int .i64 S, .int .i64 U, .int .i64 M, .bool V, .slice A6 N6 f6] 32)
  replace R6 := R6.alloc (.cells #[.int .i64 C, .int .i64 0, .int .i64 K, .int .i64 S, .int .i64 U, .int .i64 M, .bool V, .slice A6 N6 f6] 32)
  have TD := Stc.new w5 32 [.int .i64 C, .int .i64 0, .int .i64 K, .int .i64 S, .int .i64 U, .int .i64 M, .bool V, .slice A6 N6 f6] _ rfl
  have B5 := ab (ac B4 b5) (.cells #[.int .i64 C, .int .i64 0, .int .i64 K, .int .i64 S, .int .i64 U, .int .i64 M, .bool V, .slice A6 N6 f6] 32)
  have nzD : ¬ w5.heap.size = w1.heap.size ∧ ¬ w5.heap.size = w3.heap.size := by omega
  clear b5 B4
  go_wp2_with fail
  refine (drawSameCells_any _ _ _ _ _ (h.below B5) hn).mono ?_
  rintro e w6 ⟨⟨a1, b1, e1, d1, v1, A7, c7, n7, r7, a2, b2, e2, d2, v2, A8, c8, n8, r8, rfl, q7, q8, hm7, hm8⟩, b6⟩
  replace TC := TC.below b6 TC.lt
  replace TE := TE.below b6 TE.lt
  replace TD := TD.below b6 TD.lt
  replace q3 := q3.below b6
  replace q5 := q5.below b6
  replace R4 := R4.below b6 (Nat.le_refl _)
  replace R6 := R6.below b6 (Nat.le_refl _)
  have z6 := b6.size
  rw [World.size_alloc] at z6
  have B6 := ac B5 b6
  have q4 := R4.head.bs
  have q6 := R6.head.bs
  have hl6 := R6.head.len
  have o4 := R4.head.at_
  obtain ⟨W7, hW7⟩ : ∃ W, W = (w6.alloc (.cells #[.int .i64 a1, .int .i64 b1, .int .i64 e1, .int .i64 d1, .bool v1, .slice A7 n7 c7] 25)).alloc (.cells #[.int .i64 a2, .int .i64 b2, .int .i64 e2, .int .i64 d2, .bool v2, .slice A8 n8 c8] 25) := ⟨_, rfl⟩
  have b7 : Below w6.heap.size w6 W7 := by rw [hW7]; exact ab (ab (Below.refl _ _) _) _
  have TA : Stc W7 w6.heap.size [.int .i64 a1, .int .i64 b1, .int .i64 e1, .int .i64 d1, .bool v1, .slice A7 n7 c7] 25 := by rw [hW7]; exact (Stc.new w6 _ _ _ rfl).alloc _
  have TB : Stc W7 (w6.heap.size + 1) [.int .i64 a2, .int .i64 b2, .int .i64 e2, .int .i64 d2, .bool v2, .slice A8 n8 c8] 25 := by
    have t := Stc.new (w6.alloc (.cells #[.int .i64 a1, .int .i64 b1, .int .i64 e1, .int .i64 d1, .bool v1, .slice A7 n7 c7] 25)) 25 [.int .i64 a2, .int .i64 b2, .int .i64 e2, .int .i64 d2, .bool v2, .slice A8 n8 c8] _ rfl
    rw [World.size_alloc] at t
    rw [hW7]
    exact t
  replace TC := TC.below b7 TC.lt
  replace TE := TE.below b7 TE.lt
  replace TD := TD.below b7 TD.lt
  replace q3 := q3.below b7
  replace q4 := q4.below b7
  replace q5 := q5.below b7
  replace q6 := q6.below b7
  replace q7 := q7.below b7
  replace q8 := q8.below b7
  have B7 := ac B6 b7
  clear b6 b7 B5 B6 R4 R6 h
  go_wp2_with fail
  rw [← hW7]
  clear hW7
  have lt_TC := TC.lt
  have i0_0 := TC.cell (i := 0) rfl
  have i0_1 := TC.cell (i := 1) rfl
  have i0_2 := TC.cell (i := 2) rfl
  have i0_3 := TC.cell (i := 3) rfl
  have i0_4 := TC.cell (i := 4) rfl
  have i0_5 := TC.cell (i := 5) rfl
  have lt_TE := TE.lt
  have i1_0 := TE.cell (i := 0) rfl
  have i1_1 := TE.cell (i := 1) rfl
  have lt_TD := TD.lt
  have i2_0 := TD.cell (i := 0) rfl
  have i2_1 := TD.cell (i := 1) rfl
  have i2_2 := TD.cell (i := 2) rfl
  have i2_3 := TD.cell (i := 3) rfl
  have i2_4 := TD.cell (i := 4) rfl
  have i2_5 := TD.cell (i := 5) rfl
  have i2_6 := TD.cell (i := 6) rfl
  have i2_7 := TD.cell (i := 7) rfl
  have lt_TA := TA.lt
  have i3_0 := TA.cell (i := 0) rfl
  have i3_1 := TA.cell (i := 1) rfl
  have i3_2 := TA.cell (i := 2) rfl
  have i3_3 := TA.cell (i := 3) rfl
  have i3_4 := TA.cell (i := 4) rfl
  have i3_5 := TA.cell (i := 5) rfl
  have lt_TB := TB.lt
  have i4_0 := TB.cell (i := 0) rfl
  have i4_1 := TB.cell (i := 1) rfl
  have i4_2 := TB.cell (i := 2) rfl
  have i4_3 := TB.cell (i := 3) rfl
  have i4_4 := TB.cell (i := 4) rfl
  have i4_5 := TB.cell (i := 5) rfl
  have hWW := Below.refl W7.heap.size W7
  have XE : Shut (∀  (W : World), (W.cell? ⟨w1.heap.size, 0, none⟩ = some (.int .i64 a) ∧ W.cell? ⟨w1.heap.size, 1, none⟩ = some (.int .i64 b) ∧ W.cell? ⟨w1.heap.size, 2, none⟩ = some (.int .i64 cc) ∧ W.cell? ⟨w1.heap.size, 3, none⟩ = some (.int .i64 d) ∧ W.cell? ⟨w1.heap.size, 4, none⟩ = some (.bool v) ∧ W.cell? ⟨w1.heap.size, 5, none⟩ = some (.slice A3 n3 c3) ∧ W.cell? ⟨w3.heap.size, 0, none⟩ = some (.int .i64 EC) ∧ W.cell? ⟨w3.heap.size, 1, none⟩ = some (.slice A4 (encN EC) c4) ∧ W.cell? ⟨w5.heap.size, 0, none⟩ = some (.int .i64 C) ∧ W.cell? ⟨w5.heap.size, 1, none⟩ = some (.int .i64 0) ∧ W.cell? ⟨w5.heap.size, 2, none⟩ = some (.int .i64 K) ∧ W.cell? ⟨w5.heap.size, 3, none⟩ = some (.int .i64 S) ∧ W.cell? ⟨w5.heap.size, 4, none⟩ = some (.int .i64 U) ∧ W.cell? ⟨w5.heap.size, 5, none⟩ = some (.int .i64 M) ∧ W.cell? ⟨w5.heap.size, 6, none⟩ = some (.bool V) ∧ W.cell? ⟨w5.heap.size, 7, none⟩ = some (.slice A6 N6 f6) ∧ W.cell? ⟨w6.heap.size, 0, none⟩ = some (.int .i64 a1) ∧ W.cell? ⟨w6.heap.size, 1, none⟩ = some (.int .i64 b1) ∧ W.cell? ⟨w6.heap.size, 2, none⟩ = some (.int .i64 e1) ∧ W.cell? ⟨w6.heap.size, 3, none⟩ = some (.int .i64 d1) ∧ W.cell? ⟨w6.heap.size, 4, none⟩ = some (.bool v1) ∧ W.cell? ⟨w6.heap.size, 5, none⟩ = some (.slice A7 n7 c7) ∧ W.cell? ⟨(w6.heap.size + 1), 0, none⟩ = some (.int .i64 a2) ∧ W.cell? ⟨(w6.heap.size + 1), 1, none⟩ = some (.int .i64 b2) ∧ W.cell? ⟨(w6.heap.size + 1), 2, none⟩ = some (.int .i64 e2) ∧ W.cell? ⟨(w6.heap.size + 1), 3, none⟩ = some (.int .i64 d2) ∧ W.cell? ⟨(w6.heap.size + 1), 4, none⟩ = some (.bool v2) ∧ W.cell? ⟨(w6.heap.size + 1), 5, none⟩ = some (.slice A8 n8 c8) ∧ Below W7.heap.size W7 W) → Calls Try.prog 12 #[.agg #[.int .i64 a, .int .i64 b, .int .i64 cc, .int .i64 d, .bool v, .slice A3 n3 c3]] W fun e w' => (∃ (A' : Option Addr) (c' : Nat), e = .returned (.agg #[.int .i64 EC, .slice A' (encN EC) c']) ∧ Bs w' A' (encN EC) (encL EC EL)) ∧ (∀ (A : Option Addr) (m : Nat) (l : List Int), Bs W A m l → Bs w' A m l) ∧ w'.cell? ⟨w1.heap.size, 0, none⟩ = some (.int .i64 a) ∧ w'.cell? ⟨w1.heap.size, 1, none⟩ = some (.int .i64 b) ∧ w'.cell? ⟨w1.heap.size, 2, none⟩ = some (.int .i64 cc) ∧ w'.cell? ⟨w1.heap.size, 3, none⟩ = some (.int .i64 d) ∧ w'.cell? ⟨w1.heap.size, 4, none⟩ = some (.bool v) ∧ w'.cell? ⟨w1.heap.size, 5, none⟩ = some (.slice A3 n3 c3) ∧ w'.cell? ⟨w3.heap.size, 0, none⟩ = some (.int .i64 EC) ∧ w'.cell? ⟨w3.heap.size, 1, none⟩ = some (.slice A4 (encN EC) c4) ∧ w'.cell? ⟨w5.heap.size, 0, none⟩ = some (.int .i64 C) ∧ w'.cell? ⟨w5.heap.size, 1, none⟩ = some (.int .i64 0) ∧ w'.cell? ⟨w5.heap.size, 2, none⟩ = some (.int .i64 K) ∧ w'.cell? ⟨w5.heap.size, 3, none⟩ = some (.int .i64 S) ∧ w'.cell? ⟨w5.heap.size, 4, none⟩ = some (.int .i64 U) ∧ w'.cell? ⟨w5.heap.size, 5, none⟩ = some (.int .i64 M) ∧ w'.cell? ⟨w5.heap.size, 6, none⟩ = some (.bool V) ∧ w'.cell? ⟨w5.heap.size, 7, none⟩ = some (.slice A6 N6 f6) ∧ w'.cell? ⟨w6.heap.size, 0, none⟩ = some (.int .i64 a1) ∧ w'.cell? ⟨w6.heap.size, 1, none⟩ = some (.int .i64 b1) ∧ w'.cell? ⟨w6.heap.size, 2, none⟩ = some (.int .i64 e1) ∧ w'.cell? ⟨w6.heap.size, 3, none⟩ = some (.int .i64 d1) ∧ w'.cell? ⟨w6.heap.size, 4, none⟩ = some (.bool v1) ∧ w'.cell? ⟨w6.heap.size, 5, none⟩ = some (.slice A7 n7 c7) ∧ w'.cell? ⟨(w6.heap.size + 1), 0, none⟩ = some (.int .i64 a2) ∧ w'.cell? ⟨(w6.heap.size + 1), 1, none⟩ = some (.int .i64 b2) ∧ w'.cell? ⟨(w6.heap.size + 1), 2, none⟩ = some (.int .i64 e2) ∧ w'.cell? ⟨(w6.heap.size + 1), 3, none⟩ = some (.int .i64 d2) ∧ w'.cell? ⟨(w6.heap.size + 1), 4, none⟩ = some (.bool v2) ∧ w'.cell? ⟨(w6.heap.size + 1), 5, none⟩ = some (.slice A8 n8 c8) ∧ Below W7.heap.size W7 w') := by
    refine ⟨fun  W ⟨_, _, _, _, _, _, _, _, _, _, _, _, _, _, _, _, _, _, _, _, _, _, _, _, _, _, _, _, hW⟩  => (GE.out W (q3.below hW)).mono ?_⟩
    rintro e w' ⟨⟨A', c', rfl, Q, _⟩, hb⟩
    have hB := ac hW hb
    exact ⟨⟨A', c', rfl, Q.head.bs⟩, fun A m l hA => hA.below hb, (TC.below hB lt_TC).cell (i := 0) rfl, (TC.below hB lt_TC).cell (i := 1) rfl, (TC.below hB lt_TC).cell (i := 2) rfl, (TC.below hB lt_TC).cell (i := 3) rfl, (TC.below hB lt_TC).cell (i := 4) rfl, (TC.below hB lt_TC).cell (i := 5) rfl, (TE.below hB lt_TE).cell (i := 0) rfl, (TE.below hB lt_TE).cell (i := 1) rfl, (TD.below hB lt_TD).cell (i := 0) rfl, (TD.below hB lt_TD).cell (i := 1) rfl, (TD.below hB lt_TD).cell (i := 2) rfl, (TD.below hB lt_TD).cell (i := 3) rfl, (TD.below hB lt_TD).cell (i := 4) rfl, (TD.below hB lt_TD).cell (i := 5) rfl, (TD.below hB lt_TD).cell (i := 6) rfl, (TD.below hB lt_TD).cell (i := 7) rfl, (TA.below hB lt_TA).cell (i := 0) rfl, (TA.below hB lt_TA).cell (i := 1) rfl, (TA.below hB lt_TA).cell (i := 2) rfl, (TA.below hB lt_TA).cell (i := 3) rfl, (TA.below hB lt_TA).cell (i := 4) rfl, (TA.below hB lt_TA).cell (i := 5) rfl, (TB.below hB lt_TB).cell (i := 0) rfl, (TB.below hB lt_TB).cell (i := 1) rfl, (TB.below hB lt_TB).cell (i := 2) rfl, (TB.below hB lt_TB).cell (i := 3) rfl, (TB.below hB lt_TB).cell (i := 4) rfl, (TB.below hB lt_TB).cell (i := 5) rfl, hB⟩
  have XL : Shut (∀ (A' : Option Addr) (c' : Nat) (W : World), (W.cell? ⟨w1.heap.size, 0, none⟩ = some (.int .i64 a) ∧ W.cell? ⟨w1.heap.size, 1, none⟩ = some (.int .i64 b) ∧ W.cell? ⟨w1.heap.size, 2, none⟩ = some (.int .i64 cc) ∧ W.cell? ⟨w1.heap.size, 3, none⟩ = some (.int .i64 d) ∧ W.cell? ⟨w1.heap.size, 4, none⟩ = some (.bool v) ∧ W.cell? ⟨w1.heap.size, 5, none⟩ = some (.slice A3 n3 c3) ∧ W.cell? ⟨w3.heap.size, 0, none⟩ = some (.int .i64 EC) ∧ W.cell? ⟨w3.heap.size, 1, none⟩ = some (.slice A4 (encN EC) c4) ∧ W.cell? ⟨w5.heap.size, 0, none⟩ = some (.int .i64 C) ∧ W.cell? ⟨w5.heap.size, 1, none⟩ = some (.int .i64 0) ∧ W.cell? ⟨w5.heap.size, 2, none⟩ = some (.int .i64 K) ∧ W.cell? ⟨w5.heap.size, 3, none⟩ = some (.int .i64 S) ∧ W.cell? ⟨w5.heap.size, 4, none⟩ = some (.int .i64 U) ∧ W.cell? ⟨w5.heap.size, 5, none⟩ = some (.int .i64 M) ∧ W.cell? ⟨w5.heap.size, 6, none⟩ = some (.bool V) ∧ W.cell? ⟨w5.heap.size, 7, none⟩ = some (.slice A6 N6 f6) ∧ W.cell? ⟨w6.heap.size, 0, none⟩ = some (.int .i64 a1) ∧ W.cell? ⟨w6.heap.size, 1, none⟩ = some (.int .i64 b1) ∧ W.cell? ⟨w6.heap.size, 2, none⟩ = some (.int .i64 e1) ∧ W.cell? ⟨w6.heap.size, 3, none⟩ = some (.int .i64 d1) ∧ W.cell? ⟨w6.heap.size, 4, none⟩ = some (.bool v1) ∧ W.cell? ⟨w6.heap.size, 5, none⟩ = some (.slice A7 n7 c7) ∧ W.cell? ⟨(w6.heap.size + 1), 0, none⟩ = some (.int .i64 a2) ∧ W.cell? ⟨(w6.heap.size + 1), 1, none⟩ = some (.int .i64 b2) ∧ W.cell? ⟨(w6.heap.size + 1), 2, none⟩ = some (.int .i64 e2) ∧ W.cell? ⟨(w6.heap.size + 1), 3, none⟩ = some (.int .i64 d2) ∧ W.cell? ⟨(w6.heap.size + 1), 4, none⟩ = some (.bool v2) ∧ W.cell? ⟨(w6.heap.size + 1), 5, none⟩ = some (.slice A8 n8 c8) ∧ Below W7.heap.size W7 W) → Bs W A' (encN EC) (encL EC EL) → Calls Try.prog 11 #[.agg #[.int .i64 EC, .slice A4 (encN EC) c4], .agg #[.int .i64 EC, .slice A' (encN EC) c']] W fun e w' => (e = .returned (.bool true)) ∧ (∀ (A : Option Addr) (m : Nat) (l : List Int), Bs W A m l → Bs w' A m l) ∧ w'.cell? ⟨w1.heap.size, 0, none⟩ = some (.int .i64 a) ∧ w'.cell? ⟨w1.heap.size, 1, none⟩ = some (.int .i64 b) ∧ w'.cell? ⟨w1.heap.size, 2, none⟩ = some (.int .i64 cc) ∧ w'.cell? ⟨w1.heap.size, 3, none⟩ = some (.int .i64 d) ∧ w'.cell? ⟨w1.heap.size, 4, none⟩ = some (.bool v) ∧ w'.cell? ⟨w1.heap.size, 5, none⟩ = some (.slice A3 n3 c3) ∧ w'.cell? ⟨w3.heap.size, 0, none⟩ = some (.int .i64 EC) ∧ w'.cell? ⟨w3.heap.size, 1, none⟩ = some (.slice A4 (encN EC) c4) ∧ w'.cell? ⟨w5.heap.size, 0, none⟩ = some (.int .i64 C) ∧ w'.cell? ⟨w5.heap.size, 1, none⟩ = some (.int .i64 0) ∧ w'.cell? ⟨w5.heap.size, 2, none⟩ = some (.int .i64 K) ∧ w'.cell? ⟨w5.heap.size, 3, none⟩ = some (.int .i64 S) ∧ w'.cell? ⟨w5.heap.size, 4, none⟩ = some (.int .i64 U) ∧ w'.cell? ⟨w5.heap.size, 5, none⟩ = some (.int .i64 M) ∧ w'.cell? ⟨w5.heap.size, 6, none⟩ = some (.bool V) ∧ w'.cell? ⟨w5.heap.size, 7, none⟩ = some (.slice A6 N6 f6) ∧ w'.cell? ⟨w6.heap.size, 0, none⟩ = some (.int .i64 a1) ∧ w'.cell? ⟨w6.heap.size, 1, none⟩ = some (.int .i64 b1) ∧ w'.cell? ⟨w6.heap.size, 2, none⟩ = some (.int .i64 e1) ∧ w'.cell? ⟨w6.heap.size, 3, none⟩ = some (.int .i64 d1) ∧ w'.cell? ⟨w6.heap.size, 4, none⟩ = some (.bool v1) ∧ w'.cell? ⟨w6.heap.size, 5, none⟩ = some (.slice A7 n7 c7) ∧ w'.cell? ⟨(w6.heap.size + 1), 0, none⟩ = some (.int .i64 a2) ∧ w'.cell? ⟨(w6.heap.size + 1), 1, none⟩ = some (.int .i64 b2) ∧ w'.cell? ⟨(w6.heap.size + 1), 2, none⟩ = some (.int .i64 e2) ∧ w'.cell? ⟨(w6.heap.size + 1), 3, none⟩ = some (.int .i64 d2) ∧ w'.cell? ⟨(w6.heap.size + 1), 4, none⟩ = some (.bool v2) ∧ w'.cell? ⟨(w6.heap.size + 1), 5, none⟩ = some (.slice A8 n8 c8) ∧ Below W7.heap.size W7 w') := by
    refine ⟨fun A' c' W ⟨_, _, _, _, _, _, _, _, _, _, _, _, _, _, _, _, _, _, _, _, _, _, _, _, _, _, _, _, hW⟩ ha => (lwBytes_any EC EC A4 A' (encN EC) c4 (encN EC) c' _ _ W (q4.below hW) ha).mono ?_⟩
    rintro e w' ⟨rfl, hb⟩
    have hB := ac hW hb
    exact ⟨by simp, fun A m l hA => hA.below hb, (TC.below hB lt_TC).cell (i := 0) rfl, (TC.below hB lt_TC).cell (i := 1) rfl, (TC.below hB lt_TC).cell (i := 2) rfl, (TC.below hB lt_TC).cell (i := 3) rfl, (TC.below hB lt_TC).cell (i := 4) rfl, (TC.below hB lt_TC).cell (i := 5) rfl, (TE.below hB lt_TE).cell (i := 0) rfl, (TE.below hB lt_TE).cell (i := 1) rfl, (TD.below hB lt_TD).cell (i := 0) rfl, (TD.below hB lt_TD).cell (i := 1) rfl, (TD.below hB lt_TD).cell (i := 2) rfl, (TD.below hB lt_TD).cell (i := 3) rfl, (TD.below hB lt_TD).cell (i := 4) rfl, (TD.below hB lt_TD).cell (i := 5) rfl, (TD.below hB lt_TD).cell (i := 6) rfl, (TD.below hB lt_TD).cell (i := 7) rfl, (TA.below hB lt_TA).cell (i := 0) rfl, (TA.below hB lt_TA).cell (i := 1) rfl, (TA.below hB lt_TA).cell (i := 2) rfl, (TA.below hB lt_TA).cell (i := 3) rfl, (TA.below hB lt_TA).cell (i := 4) rfl, (TA.below hB lt_TA).cell (i := 5) rfl, (TB.below hB lt_TB).cell (i := 0) rfl, (TB.below hB lt_TB).cell (i := 1) rfl, (TB.below hB lt_TB).cell (i := 2) rfl, (TB.below hB lt_TB).cell (i := 3) rfl, (TB.below hB lt_TB).cell (i := 4) rfl, (TB.below hB lt_TB).cell (i := 5) rfl, hB⟩
  have XD : Shut (∀  (W : World), (W.cell? ⟨w1.heap.size, 0, none⟩ = some (.int .i64 a) ∧ W.cell? ⟨w1.heap.size, 1, none⟩ = some (.int .i64 b) ∧ W.cell? ⟨w1.heap.size, 2, none⟩ = some (.int .i64 cc) ∧ W.cell? ⟨w1.heap.size, 3, none⟩ = some (.int .i64 d) ∧ W.cell? ⟨w1.heap.size, 4, none⟩ = some (.bool v) ∧ W.cell? ⟨w1.heap.size, 5, none⟩ = some (.slice A3 n3 c3) ∧ W.cell? ⟨w3.heap.size, 0, none⟩ = some (.int .i64 EC) ∧ W.cell? ⟨w3.heap.size, 1, none⟩ = some (.slice A4 (encN EC) c4) ∧ W.cell? ⟨w5.heap.size, 0, none⟩ = some (.int .i64 C) ∧ W.cell? ⟨w5.heap.size, 1, none⟩ = some (.int .i64 0) ∧ W.cell? ⟨w5.heap.size, 2, none⟩ = some (.int .i64 K) ∧ W.cell? ⟨w5.heap.size, 3, none⟩ = some (.int .i64 S) ∧ W.cell? ⟨w5.heap.size, 4, none⟩ = some (.int .i64 U) ∧ W.cell? ⟨w5.heap.size, 5, none⟩ = some (.int .i64 M) ∧ W.cell? ⟨w5.heap.size, 6, none⟩ = some (.bool V) ∧ W.cell? ⟨w5.heap.size, 7, none⟩ = some (.slice A6 N6 f6) ∧ W.cell? ⟨w6.heap.size, 0, none⟩ = some (.int .i64 a1) ∧ W.cell? ⟨w6.heap.size, 1, none⟩ = some (.int .i64 b1) ∧ W.cell? ⟨w6.heap.size, 2, none⟩ = some (.int .i64 e1) ∧ W.cell? ⟨w6.heap.size, 3, none⟩ = some (.int .i64 d1) ∧ W.cell? ⟨w6.heap.size, 4, none⟩ = some (.bool v1) ∧ W.cell? ⟨w6.heap.size, 5, none⟩ = some (.slice A7 n7 c7) ∧ W.cell? ⟨(w6.heap.size + 1), 0, none⟩ = some (.int .i64 a2) ∧ W.cell? ⟨(w6.heap.size + 1), 1, none⟩ = some (.int .i64 b2) ∧ W.cell? ⟨(w6.heap.size + 1), 2, none⟩ = some (.int .i64 e2) ∧ W.cell? ⟨(w6.heap.size + 1), 3, none⟩ = some (.int .i64 d2) ∧ W.cell? ⟨(w6.heap.size + 1), 4, none⟩ = some (.bool v2) ∧ W.cell? ⟨(w6.heap.size + 1), 5, none⟩ = some (.slice A8 n8 c8) ∧ Below W7.heap.size W7 W) → Calls Try.prog 13 #[.slice (some ⟨g, 0, none⟩) m c5] W fun e w' => (∃ (A' : Option Addr) (f' : Nat), e = .returned (.agg #[.int .i64 C, .int .i64 0, .int .i64 K, .int .i64 S, .int .i64 U, .int .i64 M, .bool V, .slice A' N6 f']) ∧ Bs w' A' N6 L6) ∧ (∀ (A : Option Addr) (m : Nat) (l : List Int), Bs W A m l → Bs w' A m l) ∧ w'.cell? ⟨w1.heap.size, 0, none⟩ = some (.int .i64 a) ∧ w'.cell? ⟨w1.heap.size, 1, none⟩ = some (.int .i64 b) ∧ w'.cell? ⟨w1.heap.size, 2, none⟩ = some (.int .i64 cc) ∧ w'.cell? ⟨w1.heap.size, 3, none⟩ = some (.int .i64 d) ∧ w'.cell? ⟨w1.heap.size, 4, none⟩ = some (.bool v) ∧ w'.cell? ⟨w1.heap.size, 5, none⟩ = some (.slice A3 n3 c3) ∧ w'.cell? ⟨w3.heap.size, 0, none⟩ = some (.int .i64 EC) ∧ w'.cell? ⟨w3.heap.size, 1, none⟩ = some (.slice A4 (encN EC) c4) ∧ w'.cell? ⟨w5.heap.size, 0, none⟩ = some (.int .i64 C) ∧ w'.cell? ⟨w5.heap.size, 1, none⟩ = some (.int .i64 0) ∧ w'.cell? ⟨w5.heap.size, 2, none⟩ = some (.int .i64 K) ∧ w'.cell? ⟨w5.heap.size, 3, none⟩ = some (.int .i64 S) ∧ w'.cell? ⟨w5.heap.size, 4, none⟩ = some (.int .i64 U) ∧ w'.cell? ⟨w5.heap.size, 5, none⟩ = some (.int .i64 M) ∧ w'.cell? ⟨w5.heap.size, 6, none⟩ = some (.bool V) ∧ w'.cell? ⟨w5.heap.size, 7, none⟩ = some (.slice A6 N6 f6) ∧ w'.cell? ⟨w6.heap.size, 0, none⟩ = some (.int .i64 a1) ∧ w'.cell? ⟨w6.heap.size, 1, none⟩ = some (.int .i64 b1) ∧ w'.cell? ⟨w6.heap.size, 2, none⟩ = some (.int .i64 e1) ∧ w'.cell? ⟨w6.heap.size, 3, none⟩ = some (.int .i64 d1) ∧ w'.cell? ⟨w6.heap.size, 4, none⟩ = some (.bool v1) ∧ w'.cell? ⟨w6.heap.size, 5, none⟩ = some (.slice A7 n7 c7) ∧ w'.cell? ⟨(w6.heap.size + 1), 0, none⟩ = some (.int .i64 a2) ∧ w'.cell? ⟨(w6.heap.size + 1), 1, none⟩ = some (.int .i64 b2) ∧ w'.cell? ⟨(w6.heap.size + 1), 2, none⟩ = some (.int .i64 e2) ∧ w'.cell? ⟨(w6.heap.size + 1), 3, none⟩ = some (.int .i64 d2) ∧ w'.cell? ⟨(w6.heap.size + 1), 4, none⟩ = some (.bool v2) ∧ w'.cell? ⟨(w6.heap.size + 1), 5, none⟩ = some (.slice A8 n8 c8) ∧ Below W7.heap.size W7 w') := by
    refine ⟨fun  W ⟨_, _, _, _, _, _, _, _, _, _, _, _, _, _, _, _, _, _, _, _, _, _, _, _, _, _, _, _, hW⟩  => (GD.out W (q5.below hW)).mono ?_⟩
    rintro e w' ⟨⟨A', f', rfl, Q, _⟩, hb⟩
    have hB := ac hW hb
    exact ⟨⟨A', f', rfl, Q.head.bs⟩, fun A m l hA => hA.below hb, (TC.below hB lt_TC).cell (i := 0) rfl, (TC.below hB lt_TC).cell (i := 1) rfl, (TC.below hB lt_TC).cell (i := 2) rfl, (TC.below hB lt_TC).cell (i := 3) rfl, (TC.below hB lt_TC).cell (i := 4) rfl, (TC.below hB lt_TC).cell (i := 5) rfl, (TE.below hB lt_TE).cell (i := 0) rfl, (TE.below hB lt_TE).cell (i := 1) rfl, (TD.below hB lt_TD).cell (i := 0) rfl, (TD.below hB lt_TD).cell (i := 1) rfl, (TD.below hB lt_TD).cell (i := 2) rfl, (TD.below hB lt_TD).cell (i := 3) rfl, (TD.below hB lt_TD).cell (i := 4) rfl, (TD.below hB lt_TD).cell (i := 5) rfl, (TD.below hB lt_TD).cell (i := 6) rfl, (TD.below hB lt_TD).cell (i := 7) rfl, (TA.below hB lt_TA).cell (i := 0) rfl, (TA.below hB lt_TA).cell (i := 1) rfl, (TA.below hB lt_TA).cell (i := 2) rfl, (TA.below hB lt_TA).cell (i := 3) rfl, (TA.below hB lt_TA).cell (i := 4) rfl, (TA.below hB lt_TA).cell (i := 5) rfl, (TB.below hB lt_TB).cell (i := 0) rfl, (TB.below hB lt_TB).cell (i := 1) rfl, (TB.below hB lt_TB).cell (i := 2) rfl, (TB.below hB lt_TB).cell (i := 3) rfl, (TB.below hB lt_TB).cell (i := 4) rfl, (TB.below hB lt_TB).cell (i := 5) rfl, hB⟩
  have XS : Shut (∀ (A' : Option Addr) (f' : Nat) (W : World), (W.cell? ⟨w1.heap.size, 0, none⟩ = some (.int .i64 a) ∧ W.cell? ⟨w1.heap.size, 1, none⟩ = some (.int .i64 b) ∧ W.cell? ⟨w1.heap.size, 2, none⟩ = some (.int .i64 cc) ∧ W.cell? ⟨w1.heap.size, 3, none⟩ = some (.int .i64 d) ∧ W.cell? ⟨w1.heap.size, 4, none⟩ = some (.bool v) ∧ W.cell? ⟨w1.heap.size, 5, none⟩ = some (.slice A3 n3 c3) ∧ W.cell? ⟨w3.heap.size, 0, none⟩ = some (.int .i64 EC) ∧ W.cell? ⟨w3.heap.size, 1, none⟩ = some (.slice A4 (encN EC) c4) ∧ W.cell? ⟨w5.heap.size, 0, none⟩ = some (.int .i64 C) ∧ W.cell? ⟨w5.heap.size, 1, none⟩ = some (.int .i64 0) ∧ W.cell? ⟨w5.heap.size, 2, none⟩ = some (.int .i64 K) ∧ W.cell? ⟨w5.heap.size, 3, none⟩ = some (.int .i64 S) ∧ W.cell? ⟨w5.heap.size, 4, none⟩ = some (.int .i64 U) ∧ W.cell? ⟨w5.heap.size, 5, none⟩ = some (.int .i64 M) ∧ W.cell? ⟨w5.heap.size, 6, none⟩ = some (.bool V) ∧ W.cell? ⟨w5.heap.size, 7, none⟩ = some (.slice A6 N6 f6) ∧ W.cell? ⟨w6.heap.size, 0, none⟩ = some (.int .i64 a1) ∧ W.cell? ⟨w6.heap.size, 1, none⟩ = some (.int .i64 b1) ∧ W.cell? ⟨w6.heap.size, 2, none⟩ = some (.int .i64 e1) ∧ W.cell? ⟨w6.heap.size, 3, none⟩ = some (.int .i64 d1) ∧ W.cell? ⟨w6.heap.size, 4, none⟩ = some (.bool v1) ∧ W.cell? ⟨w6.heap.size, 5, none⟩ = some (.slice A7 n7 c7) ∧ W.cell? ⟨(w6.heap.size + 1), 0, none⟩ = some (.int .i64 a2) ∧ W.cell? ⟨(w6.heap.size + 1), 1, none⟩ = some (.int .i64 b2) ∧ W.cell? ⟨(w6.heap.size + 1), 2, none⟩ = some (.int .i64 e2) ∧ W.cell? ⟨(w6.heap.size + 1), 3, none⟩ = some (.int .i64 d2) ∧ W.cell? ⟨(w6.heap.size + 1), 4, none⟩ = some (.bool v2) ∧ W.cell? ⟨(w6.heap.size + 1), 5, none⟩ = some (.slice A8 n8 c8) ∧ Below W7.heap.size W7 W) → Bs W A' N6 L6 → Calls Try.prog 14 #[.agg #[.int .i64 K, .int .i64 S, .int .i64 U, .int .i64 M, .bool V, .slice A6 N6 f6], .agg #[.int .i64 K, .int .i64 S, .int .i64 U, .int .i64 M, .bool V, .slice A' N6 f']] W fun e w' => (e = .returned (.bool true)) ∧ (∀ (A : Option Addr) (m : Nat) (l : List Int), Bs W A m l → Bs w' A m l) ∧ w'.cell? ⟨w1.heap.size, 0, none⟩ = some (.int .i64 a) ∧ w'.cell? ⟨w1.heap.size, 1, none⟩ = some (.int .i64 b) ∧ w'.cell? ⟨w1.heap.size, 2, none⟩ = some (.int .i64 cc) ∧ w'.cell? ⟨w1.heap.size, 3, none⟩ = some (.int .i64 d) ∧ w'.cell? ⟨w1.heap.size, 4, none⟩ = some (.bool v) ∧ w'.cell? ⟨w1.heap.size, 5, none⟩ = some (.slice A3 n3 c3) ∧ w'.cell? ⟨w3.heap.size, 0, none⟩ = some (.int .i64 EC) ∧ w'.cell? ⟨w3.heap.size, 1, none⟩ = some (.slice A4 (encN EC) c4) ∧ w'.cell? ⟨w5.heap.size, 0, none⟩ = some (.int .i64 C) ∧ w'.cell? ⟨w5.heap.size, 1, none⟩ = some (.int .i64 0) ∧ w'.cell? ⟨w5.heap.size, 2, none⟩ = some (.int .i64 K) ∧ w'.cell? ⟨w5.heap.size, 3, none⟩ = some (.int .i64 S) ∧ w'.cell? ⟨w5.heap.size, 4, none⟩ = some (.int .i64 U) ∧ w'.cell? ⟨w5.heap.size, 5, none⟩ = some (.int .i64 M) ∧ w'.cell? ⟨w5.heap.size, 6, none⟩ = some (.bool V) ∧ w'.cell? ⟨w5.heap.size, 7, none⟩ = some (.slice A6 N6 f6) ∧ w'.cell? ⟨w6.heap.size, 0, none⟩ = some (.int .i64 a1) ∧ w'.cell? ⟨w6.heap.size, 1, none⟩ = some (.int .i64 b1) ∧ w'.cell? ⟨w6.heap.size, 2, none⟩ = some (.int .i64 e1) ∧ w'.cell? ⟨w6.heap.size, 3, none⟩ = some (.int .i64 d1) ∧ w'.cell? ⟨w6.heap.size, 4, none⟩ = some (.bool v1) ∧ w'.cell? ⟨w6.heap.size, 5, none⟩ = some (.slice A7 n7 c7) ∧ w'.cell? ⟨(w6.heap.size + 1), 0, none⟩ = some (.int .i64 a2) ∧ w'.cell? ⟨(w6.heap.size + 1), 1, none⟩ = some (.int .i64 b2) ∧ w'.cell? ⟨(w6.heap.size + 1), 2, none⟩ = some (.int .i64 e2) ∧ w'.cell? ⟨(w6.heap.size + 1), 3, none⟩ = some (.int .i64 d2) ∧ w'.cell? ⟨(w6.heap.size + 1), 4, none⟩ = some (.bool v2) ∧ w'.cell? ⟨(w6.heap.size + 1), 5, none⟩ = some (.slice A8 n8 c8) ∧ Below W7.heap.size W7 w') := by
    refine ⟨fun A' f' W ⟨_, _, _, _, _, _, _, _, _, _, _, _, _, _, _, _, _, _, _, _, _, _, _, _, _, _, _, _, hW⟩ ha => (implSameCells_any K S U M V K S U M V A6 A' N6 f6 N6 f' L6 L6 W (q6.below hW) ha).mono ?_⟩
    rintro e w' ⟨rfl, hb⟩
    have hB := ac hW hb
    exact ⟨by rw [sameC_self], fun A m l hA => hA.below hb, (TC.below hB lt_TC).cell (i := 0) rfl, (TC.below hB lt_TC).cell (i := 1) rfl, (TC.below hB lt_TC).cell (i := 2) rfl, (TC.below hB lt_TC).cell (i := 3) rfl, (TC.below hB lt_TC).cell (i := 4) rfl, (TC.below hB lt_TC).cell (i := 5) rfl, (TE.below hB lt_TE).cell (i := 0) rfl, (TE.below hB lt_TE).cell (i := 1) rfl, (TD.below hB lt_TD).cell (i := 0) rfl, (TD.below hB lt_TD).cell (i := 1) rfl, (TD.below hB lt_TD).cell (i := 2) rfl, (TD.below hB lt_TD).cell (i := 3) rfl, (TD.below hB lt_TD).cell (i := 4) rfl, (TD.below hB lt_TD).cell (i := 5) rfl, (TD.below hB lt_TD).cell (i := 6) rfl, (TD.below hB lt_TD).cell (i := 7) rfl, (TA.below hB lt_TA).cell (i := 0) rfl, (TA.below hB lt_TA).cell (i := 1) rfl, (TA.below hB lt_TA).cell (i := 2) rfl, (TA.below hB lt_TA).cell (i := 3) rfl, (TA.below hB lt_TA).cell (i := 4) rfl, (TA.below hB lt_TA).cell (i := 5) rfl, (TB.below hB lt_TB).cell (i := 0) rfl, (TB.below hB lt_TB).cell (i := 1) rfl, (TB.below hB lt_TB).cell (i := 2) rfl, (TB.below hB lt_TB).cell (i := 3) rfl, (TB.below hB lt_TB).cell (i := 4) rfl, (TB.below hB lt_TB).cell (i := 5) rfl, hB⟩
  have XA : Shut (∀  (W : World), (W.cell? ⟨w1.heap.size, 0, none⟩ = some (.int .i64 a) ∧ W.cell? ⟨w1.heap.size, 1, none⟩ = some (.int .i64 b) ∧ W.cell? ⟨w1.heap.size, 2, none⟩ = some (.int .i64 cc) ∧ W.cell? ⟨w1.heap.size, 3, none⟩ = some (.int .i64 d) ∧ W.cell? ⟨w1.heap.size, 4, none⟩ = some (.bool v) ∧ W.cell? ⟨w1.heap.size, 5, none⟩ = some (.slice A3 n3 c3) ∧ W.cell? ⟨w3.heap.size, 0, none⟩ = some (.int .i64 EC) ∧ W.cell? ⟨w3.heap.size, 1, none⟩ = some (.slice A4 (encN EC) c4) ∧ W.cell? ⟨w5.heap.size, 0, none⟩ = some (.int .i64 C) ∧ W.cell? ⟨w5.heap.size, 1, none⟩ = some (.int .i64 0) ∧ W.cell? ⟨w5.heap.size, 2, none⟩ = some (.int .i64 K) ∧ W.cell? ⟨w5.heap.size, 3, none⟩ = some (.int .i64 S) ∧ W.cell? ⟨w5.heap.size, 4, none⟩ = some (.int .i64 U) ∧ W.cell? ⟨w5.heap.size, 5, none⟩ = some (.int .i64 M) ∧ W.cell? ⟨w5.heap.size, 6, none⟩ = some (.bool V) ∧ W.cell? ⟨w5.heap.size, 7, none⟩ = some (.slice A6 N6 f6) ∧ W.cell? ⟨w6.heap.size, 0, none⟩ = some (.int .i64 a1) ∧ W.cell? ⟨w6.heap.size, 1, none⟩ = some (.int .i64 b1) ∧ W.cell? ⟨w6.heap.size, 2, none⟩ = some (.int .i64 e1) ∧ W.cell? ⟨w6.heap.size, 3, none⟩ = some (.int .i64 d1) ∧ W.cell? ⟨w6.heap.size, 4, none⟩ = some (.bool v1) ∧ W.cell? ⟨w6.heap.size, 5, none⟩ = some (.slice A7 n7 c7) ∧ W.cell? ⟨(w6.heap.size + 1), 0, none⟩ = some (.int .i64 a2) ∧ W.cell? ⟨(w6.heap.size + 1), 1, none⟩ = some (.int .i64 b2) ∧ W.cell? ⟨(w6.heap.size + 1), 2, none⟩ = some (.int .i64 e2) ∧ W.cell? ⟨(w6.heap.size + 1), 3, none⟩ = some (.int .i64 d2) ∧ W.cell? ⟨(w6.heap.size + 1), 4, none⟩ = some (.bool v2) ∧ W.cell? ⟨(w6.heap.size + 1), 5, none⟩ = some (.slice A8 n8 c8) ∧ Below W7.heap.size W7 W) → Calls Try.prog 14 #[.agg #[.int .i64 a1, .int .i64 b1, .int .i64 e1, .int .i64 d1, .bool v1, .slice A7 n7 c7], .agg #[.int .i64 a2, .int .i64 b2, .int .i64 e2, .int .i64 d2, .bool v2, .slice A8 n8 c8]] W fun e w' => (e = .returned (.bool (sameC a1 b1 e1 d1 v1 r7 a2 b2 e2 d2 v2 r8))) ∧ (∀ (A : Option Addr) (m : Nat) (l : List Int), Bs W A m l → Bs w' A m l) ∧ w'.cell? ⟨w1.heap.size, 0, none⟩ = some (.int .i64 a) ∧ w'.cell? ⟨w1.heap.size, 1, none⟩ = some (.int .i64 b) ∧ w'.cell? ⟨w1.heap.size, 2, none⟩ = some (.int .i64 cc) ∧ w'.cell? ⟨w1.heap.size, 3, none⟩ = some (.int .i64 d) ∧ w'.cell? ⟨w1.heap.size, 4, none⟩ = some (.bool v) ∧ w'.cell? ⟨w1.heap.size, 5, none⟩ = some (.slice A3 n3 c3) ∧ w'.cell? ⟨w3.heap.size, 0, none⟩ = some (.int .i64 EC) ∧ w'.cell? ⟨w3.heap.size, 1, none⟩ = some (.slice A4 (encN EC) c4) ∧ w'.cell? ⟨w5.heap.size, 0, none⟩ = some (.int .i64 C) ∧ w'.cell? ⟨w5.heap.size, 1, none⟩ = some (.int .i64 0) ∧ w'.cell? ⟨w5.heap.size, 2, none⟩ = some (.int .i64 K) ∧ w'.cell? ⟨w5.heap.size, 3, none⟩ = some (.int .i64 S) ∧ w'.cell? ⟨w5.heap.size, 4, none⟩ = some (.int .i64 U) ∧ w'.cell? ⟨w5.heap.size, 5, none⟩ = some (.int .i64 M) ∧ w'.cell? ⟨w5.heap.size, 6, none⟩ = some (.bool V) ∧ w'.cell? ⟨w5.heap.size, 7, none⟩ = some (.slice A6 N6 f6) ∧ w'.cell? ⟨w6.heap.size, 0, none⟩ = some (.int .i64 a1) ∧ w'.cell? ⟨w6.heap.size, 1, none⟩ = some (.int .i64 b1) ∧ w'.cell? ⟨w6.heap.size, 2, none⟩ = some (.int .i64 e1) ∧ w'.cell? ⟨w6.heap.size, 3, none⟩ = some (.int .i64 d1) ∧ w'.cell? ⟨w6.heap.size, 4, none⟩ = some (.bool v1) ∧ w'.cell? ⟨w6.heap.size, 5, none⟩ = some (.slice A7 n7 c7) ∧ w'.cell? ⟨(w6.heap.size + 1), 0, none⟩ = some (.int .i64 a2) ∧ w'.cell? ⟨(w6.heap.size + 1), 1, none⟩ = some (.int .i64 b2) ∧ w'.cell? ⟨(w6.heap.size + 1), 2, none⟩ = some (.int .i64 e2) ∧ w'.cell? ⟨(w6.heap.size + 1), 3, none⟩ = some (.int .i64 d2) ∧ w'.cell? ⟨(w6.heap.size + 1), 4, none⟩ = some (.bool v2) ∧ w'.cell? ⟨(w6.heap.size + 1), 5, none⟩ = some (.slice A8 n8 c8) ∧ Below W7.heap.size W7 w') := by
    refine ⟨fun  W ⟨_, _, _, _, _, _, _, _, _, _, _, _, _, _, _, _, _, _, _, _, _, _, _, _, _, _, _, _, hW⟩  => (implSameCells_any a1 b1 e1 d1 v1 a2 b2 e2 d2 v2 A7 A8 n7 c7 n8 c8 r7 r8 W (q7.below hW) (q8.below hW)).mono ?_⟩
    rintro e w' ⟨rfl, hb⟩
    have hB := ac hW hb
    exact ⟨rfl, fun A m l hA => hA.below hb, (TC.below hB lt_TC).cell (i := 0) rfl, (TC.below hB lt_TC).cell (i := 1) rfl, (TC.below hB lt_TC).cell (i := 2) rfl, (TC.below hB lt_TC).cell (i := 3) rfl, (TC.below hB lt_TC).cell (i := 4) rfl, (TC.below hB lt_TC).cell (i := 5) rfl, (TE.below hB lt_TE).cell (i := 0) rfl, (TE.below hB lt_TE).cell (i := 1) rfl, (TD.below hB lt_TD).cell (i := 0) rfl, (TD.below hB lt_TD).cell (i := 1) rfl, (TD.below hB lt_TD).cell (i := 2) rfl, (TD.below hB lt_TD).cell (i := 3) rfl, (TD.below hB lt_TD).cell (i := 4) rfl, (TD.below hB lt_TD).cell (i := 5) rfl, (TD.below hB lt_TD).cell (i := 6) rfl, (TD.below hB lt_TD).cell (i := 7) rfl, (TA.below hB lt_TA).cell (i := 0) rfl, (TA.below hB lt_TA).cell (i := 1) rfl, (TA.below hB lt_TA).cell (i := 2) rfl, (TA.below hB lt_TA).cell (i := 3) rfl, (TA.below hB lt_TA).cell (i := 4) rfl, (TA.below hB lt_TA).cell (i := 5) rfl, (TB.below hB lt_TB).cell (i := 0) rfl, (TB.below hB lt_TB).cell (i := 1) rfl, (TB.below hB lt_TB).cell (i := 2) rfl, (TB.below hB lt_TB).cell (i := 3) rfl, (TB.below hB lt_TB).cell (i := 4) rfl, (TB.below hB lt_TB).cell (i := 5) rfl, hB⟩
  have XB : Shut (∀  (W : World), (W.cell? ⟨w1.heap.size, 0, none⟩ = some (.int .i64 a) ∧ W.cell? ⟨w1.heap.size, 1, none⟩ = some (.int .i64 b) ∧ W.cell? ⟨w1.heap.size, 2, none⟩ = some (.int .i64 cc) ∧ W.cell? ⟨w1.heap.size, 3, none⟩ = some (.int .i64 d) ∧ W.cell? ⟨w1.heap.size, 4, none⟩ = some (.bool v) ∧ W.cell? ⟨w1.heap.size, 5, none⟩ = some (.slice A3 n3 c3) ∧ W.cell? ⟨w3.heap.size, 0, none⟩ = some (.int .i64 EC) ∧ W.cell? ⟨w3.heap.size, 1, none⟩ = some (.slice A4 (encN EC) c4) ∧ W.cell? ⟨w5.heap.size, 0, none⟩ = some (.int .i64 C) ∧ W.cell? ⟨w5.heap.size, 1, none⟩ = some (.int .i64 0) ∧ W.cell? ⟨w5.heap.size, 2, none⟩ = some (.int .i64 K) ∧ W.cell? ⟨w5.heap.size, 3, none⟩ = some (.int .i64 S) ∧ W.cell? ⟨w5.heap.size, 4, none⟩ = some (.int .i64 U) ∧ W.cell? ⟨w5.heap.size, 5, none⟩ = some (.int .i64 M) ∧ W.cell? ⟨w5.heap.size, 6, none⟩ = some (.bool V) ∧ W.cell? ⟨w5.heap.size, 7, none⟩ = some (.slice A6 N6 f6) ∧ W.cell? ⟨w6.heap.size, 0, none⟩ = some (.int .i64 a1) ∧ W.cell? ⟨w6.heap.size, 1, none⟩ = some (.int .i64 b1) ∧ W.cell? ⟨w6.heap.size, 2, none⟩ = some (.int .i64 e1) ∧ W.cell? ⟨w6.heap.size, 3, none⟩ = some (.int .i64 d1) ∧ W.cell? ⟨w6.heap.size, 4, none⟩ = some (.bool v1) ∧ W.cell? ⟨w6.heap.size, 5, none⟩ = some (.slice A7 n7 c7) ∧ W.cell? ⟨(w6.heap.size + 1), 0, none⟩ = some (.int .i64 a2) ∧ W.cell? ⟨(w6.heap.size + 1), 1, none⟩ = some (.int .i64 b2) ∧ W.cell? ⟨(w6.heap.size + 1), 2, none⟩ = some (.int .i64 e2) ∧ W.cell? ⟨(w6.heap.size + 1), 3, none⟩ = some (.int .i64 d2) ∧ W.cell? ⟨(w6.heap.size + 1), 4, none⟩ = some (.bool v2) ∧ W.cell? ⟨(w6.heap.size + 1), 5, none⟩ = some (.slice A8 n8 c8) ∧ Below W7.heap.size W7 W) → Calls Try.prog 15 #[.agg #[.int .i64 a1, .int .i64 b1, .int .i64 e1, .int .i64 d1, .bool v1, .slice A7 n7 c7], .agg #[.int .i64 a2, .int .i64 b2, .int .i64 e2, .int .i64 d2, .bool v2, .slice A8 n8 c8]] W fun e w' => (e = .returned (.bool (sameC a1 b1 e1 d1 v1 r7 a2 b2 e2 d2 v2 r8))) ∧ (∀ (A : Option Addr) (m : Nat) (l : List Int), Bs W A m l → Bs w' A m l) ∧ w'.cell? ⟨w1.heap.size, 0, none⟩ = some (.int .i64 a) ∧ w'.cell? ⟨w1.heap.size, 1, none⟩ = some (.int .i64 b) ∧ w'.cell? ⟨w1.heap.size, 2, none⟩ = some (.int .i64 cc) ∧ w'.cell? ⟨w1.heap.size, 3, none⟩ = some (.int .i64 d) ∧ w'.cell? ⟨w1.heap.size, 4, none⟩ = some (.bool v) ∧ w'.cell? ⟨w1.heap.size, 5, none⟩ = some (.slice A3 n3 c3) ∧ w'.cell? ⟨w3.heap.size, 0, none⟩ = some (.int .i64 EC) ∧ w'.cell? ⟨w3.heap.size, 1, none⟩ = some (.slice A4 (encN EC) c4) ∧ w'.cell? ⟨w5.heap.size, 0, none⟩ = some (.int .i64 C) ∧ w'.cell? ⟨w5.heap.size, 1, none⟩ = some (.int .i64 0) ∧ w'.cell? ⟨w5.heap.size, 2, none⟩ = some (.int .i64 K) ∧ w'.cell? ⟨w5.heap.size, 3, none⟩ = some (.int .i64 S) ∧ w'.cell? ⟨w5.heap.size, 4, none⟩ = some (.int .i64 U) ∧ w'.cell? ⟨w5.heap.size, 5, none⟩ = some (.int .i64 M) ∧ w'.cell? ⟨w5.heap.size, 6, none⟩ = some (.bool V) ∧ w'.cell? ⟨w5.heap.size, 7, none⟩ = some (.slice A6 N6 f6) ∧ w'.cell? ⟨w6.heap.size, 0, none⟩ = some (.int .i64 a1) ∧ w'.cell? ⟨w6.heap.size, 1, none⟩ = some (.int .i64 b1) ∧ w'.cell? ⟨w6.heap.size, 2, none⟩ = some (.int .i64 e1) ∧ w'.cell? ⟨w6.heap.size, 3, none⟩ = some (.int .i64 d1) ∧ w'.cell? ⟨w6.heap.size, 4, none⟩ = some (.bool v1) ∧ w'.cell? ⟨w6.heap.size, 5, none⟩ = some (.slice A7 n7 c7) ∧ w'.cell? ⟨(w6.heap.size + 1), 0, none⟩ = some (.int .i64 a2) ∧ w'.cell? ⟨(w6.heap.size + 1), 1, none⟩ = some (.int .i64 b2) ∧ w'.cell? ⟨(w6.heap.size + 1), 2, none⟩ = some (.int .i64 e2) ∧ w'.cell? ⟨(w6.heap.size + 1), 3, none⟩ = some (.int .i64 d2) ∧ w'.cell? ⟨(w6.heap.size + 1), 4, none⟩ = some (.bool v2) ∧ w'.cell? ⟨(w6.heap.size + 1), 5, none⟩ = some (.slice A8 n8 c8) ∧ Below W7.heap.size W7 w') := by
    refine ⟨fun  W ⟨_, _, _, _, _, _, _, _, _, _, _, _, _, _, _, _, _, _, _, _, _, _, _, _, _, _, _, _, hW⟩  => (specSameCells_any a1 b1 e1 d1 v1 a2 b2 e2 d2 v2 A7 A8 n7 c7 n8 c8 r7 r8 W (q7.below hW) (q8.below hW)).mono ?_⟩
    rintro e w' ⟨rfl, hb⟩
    have hB := ac hW hb
    exact ⟨rfl, fun A m l hA => hA.below hb, (TC.below hB lt_TC).cell (i := 0) rfl, (TC.below hB lt_TC).cell (i := 1) rfl, (TC.below hB lt_TC).cell (i := 2) rfl, (TC.below hB lt_TC).cell (i := 3) rfl, (TC.below hB lt_TC).cell (i := 4) rfl, (TC.below hB lt_TC).cell (i := 5) rfl, (TE.below hB lt_TE).cell (i := 0) rfl, (TE.below hB lt_TE).cell (i := 1) rfl, (TD.below hB lt_TD).cell (i := 0) rfl, (TD.below hB lt_TD).cell (i := 1) rfl, (TD.below hB lt_TD).cell (i := 2) rfl, (TD.below hB lt_TD).cell (i := 3) rfl, (TD.below hB lt_TD).cell (i := 4) rfl, (TD.below hB lt_TD).cell (i := 5) rfl, (TD.below hB lt_TD).cell (i := 6) rfl, (TD.below hB lt_TD).cell (i := 7) rfl, (TA.below hB lt_TA).cell (i := 0) rfl, (TA.below hB lt_TA).cell (i := 1) rfl, (TA.below hB lt_TA).cell (i := 2) rfl, (TA.below hB lt_TA).cell (i := 3) rfl, (TA.below hB lt_TA).cell (i := 4) rfl, (TA.below hB lt_TA).cell (i := 5) rfl, (TB.below hB lt_TB).cell (i := 0) rfl, (TB.below hB lt_TB).cell (i := 1) rfl, (TB.below hB lt_TB).cell (i := 2) rfl, (TB.below hB lt_TB).cell (i := 3) rfl, (TB.below hB lt_TB).cell (i := 4) rfl, (TB.below hB lt_TB).cell (i := 5) rfl, hB⟩
  have XF : Shut (∀  (W : World), (W.cell? ⟨w1.heap.size, 0, none⟩ = some (.int .i64 a) ∧ W.cell? ⟨w1.heap.size, 1, none⟩ = some (.int .i64 b) ∧ W.cell? ⟨w1.heap.size, 2, none⟩ = some (.int .i64 cc) ∧ W.cell? ⟨w1.heap.size, 3, none⟩ = some (.int .i64 d) ∧ W.cell? ⟨w1.heap.size, 4, none⟩ = some (.bool v) ∧ W.cell? ⟨w1.heap.size, 5, none⟩ = some (.slice A3 n3 c3) ∧ W.cell? ⟨w3.heap.size, 0, none⟩ = some (.int .i64 EC) ∧ W.cell? ⟨w3.heap.size, 1, none⟩ = some (.slice A4 (encN EC) c4) ∧ W.cell? ⟨w5.heap.size, 0, none⟩ = some (.int .i64 C) ∧ W.cell? ⟨w5.heap.size, 1, none⟩ = some (.int .i64 0) ∧ W.cell? ⟨w5.heap.size, 2, none⟩ = some (.int .i64 K) ∧ W.cell? ⟨w5.heap.size, 3, none⟩ = some (.int .i64 S) ∧ W.cell? ⟨w5.heap.size, 4, none⟩ = some (.int .i64 U) ∧ W.cell? ⟨w5.heap.size, 5, none⟩ = some (.int .i64 M) ∧ W.cell? ⟨w5.heap.size, 6, none⟩ = some (.bool V) ∧ W.cell? ⟨w5.heap.size, 7, none⟩ = some (.slice A6 N6 f6) ∧ W.cell? ⟨w6.heap.size, 0, none⟩ = some (.int .i64 a1) ∧ W.cell? ⟨w6.heap.size, 1, none⟩ = some (.int .i64 b1) ∧ W.cell? ⟨w6.heap.size, 2, none⟩ = some (.int .i64 e1) ∧ W.cell? ⟨w6.heap.size, 3, none⟩ = some (.int .i64 d1) ∧ W.cell? ⟨w6.heap.size, 4, none⟩ = some (.bool v1) ∧ W.cell? ⟨w6.heap.size, 5, none⟩ = some (.slice A7 n7 c7) ∧ W.cell? ⟨(w6.heap.size + 1), 0, none⟩ = some (.int .i64 a2) ∧ W.cell? ⟨(w6.heap.size + 1), 1, none⟩ = some (.int .i64 b2) ∧ W.cell? ⟨(w6.heap.size + 1), 2, none⟩ = some (.int .i64 e2) ∧ W.cell? ⟨(w6.heap.size + 1), 3, none⟩ = some (.int .i64 d2) ∧ W.cell? ⟨(w6.heap.size + 1), 4, none⟩ = some (.bool v2) ∧ W.cell? ⟨(w6.heap.size + 1), 5, none⟩ = some (.slice A8 n8 c8) ∧ Below W7.heap.size W7 W) → Calls Try.prog 16 #[.agg #[.int .i64 a, .int .i64 b, .int .i64 cc, .int .i64 d, .bool v, .slice A3 n3 c3]] W fun e w' => (e = .returned (.int .i64 EC)) ∧ (∀ (A : Option Addr) (m : Nat) (l : List Int), Bs W A m l → Bs w' A m l) ∧ w'.cell? ⟨w1.heap.size, 0, none⟩ = some (.int .i64 a) ∧ w'.cell? ⟨w1.heap.size, 1, none⟩ = some (.int .i64 b) ∧ w'.cell? ⟨w1.heap.size, 2, none⟩ = some (.int .i64 cc) ∧ w'.cell? ⟨w1.heap.size, 3, none⟩ = some (.int .i64 d) ∧ w'.cell? ⟨w1.heap.size, 4, none⟩ = some (.bool v) ∧ w'.cell? ⟨w1.heap.size, 5, none⟩ = some (.slice A3 n3 c3) ∧ w'.cell? ⟨w3.heap.size, 0, none⟩ = some (.int .i64 EC) ∧ w'.cell? ⟨w3.heap.size, 1, none⟩ = some (.slice A4 (encN EC) c4) ∧ w'.cell? ⟨w5.heap.size, 0, none⟩ = some (.int .i64 C) ∧ w'.cell? ⟨w5.heap.size, 1, none⟩ = some (.int .i64 0) ∧ w'.cell? ⟨w5.heap.size, 2, none⟩ = some (.int .i64 K) ∧ w'.cell? ⟨w5.heap.size, 3, none⟩ = some (.int .i64 S) ∧ w'.cell? ⟨w5.heap.size, 4, none⟩ = some (.int .i64 U) ∧ w'.cell? ⟨w5.heap.size, 5, none⟩ = some (.int .i64 M) ∧ w'.cell? ⟨w5.heap.size, 6, none⟩ = some (.bool V) ∧ w'.cell? ⟨w5.heap.size, 7, none⟩ = some (.slice A6 N6 f6) ∧ w'.cell? ⟨w6.heap.size, 0, none⟩ = some (.int .i64 a1) ∧ w'.cell? ⟨w6.heap.size, 1, none⟩ = some (.int .i64 b1) ∧ w'.cell? ⟨w6.heap.size, 2, none⟩ = some (.int .i64 e1) ∧ w'.cell? ⟨w6.heap.size, 3, none⟩ = some (.int .i64 d1) ∧ w'.cell? ⟨w6.heap.size, 4, none⟩ = some (.bool v1) ∧ w'.cell? ⟨w6.heap.size, 5, none⟩ = some (.slice A7 n7 c7) ∧ w'.cell? ⟨(w6.heap.size + 1), 0, none⟩ = some (.int .i64 a2) ∧ w'.cell? ⟨(w6.heap.size + 1), 1, none⟩ = some (.int .i64 b2) ∧ w'.cell? ⟨(w6.heap.size + 1), 2, none⟩ = some (.int .i64 e2) ∧ w'.cell? ⟨(w6.heap.size + 1), 3, none⟩ = some (.int .i64 d2) ∧ w'.cell? ⟨(w6.heap.size + 1), 4, none⟩ = some (.bool v2) ∧ w'.cell? ⟨(w6.heap.size + 1), 5, none⟩ = some (.slice A8 n8 c8) ∧ Below W7.heap.size W7 w') := by
    refine ⟨fun  W ⟨_, _, _, _, _, _, _, _, _, _, _, _, _, _, _, _, _, _, _, _, _, _, _, _, _, _, _, _, hW⟩  => (GF W).mono ?_⟩
    rintro e w' ⟨rfl, hb⟩
    have hB := ac hW hb
    exact ⟨rfl, fun A m l hA => hA.below hb, (TC.below hB lt_TC).cell (i := 0) rfl, (TC.below hB lt_TC).cell (i := 1) rfl, (TC.below hB lt_TC).cell (i := 2) rfl, (TC.below hB lt_TC).cell (i := 3) rfl, (TC.below hB lt_TC).cell (i := 4) rfl, (TC.below hB lt_TC).cell (i := 5) rfl, (TE.below hB lt_TE).cell (i := 0) rfl, (TE.below hB lt_TE).cell (i := 1) rfl, (TD.below hB lt_TD).cell (i := 0) rfl, (TD.below hB lt_TD).cell (i := 1) rfl, (TD.below hB lt_TD).cell (i := 2) rfl, (TD.below hB lt_TD).cell (i := 3) rfl, (TD.below hB lt_TD).cell (i := 4) rfl, (TD.below hB lt_TD).cell (i := 5) rfl, (TD.below hB lt_TD).cell (i := 6) rfl, (TD.below hB lt_TD).cell (i := 7) rfl, (TA.below hB lt_TA).cell (i := 0) rfl, (TA.below hB lt_TA).cell (i := 1) rfl, (TA.below hB lt_TA).cell (i := 2) rfl, (TA.below hB lt_TA).cell (i := 3) rfl, (TA.below hB lt_TA).cell (i := 4) rfl, (TA.below hB lt_TA).cell (i := 5) rfl, (TB.below hB lt_TB).cell (i := 0) rfl, (TB.below hB lt_TB).cell (i := 1) rfl, (TB.below hB lt_TB).cell (i := 2) rfl, (TB.below hB lt_TB).cell (i := 3) rfl, (TB.below hB lt_TB).cell (i := 4) rfl, (TB.below hB lt_TB).cell (i := 5) rfl, hB⟩
  have hf0 := fun (A : Option Addr) (f : Nat) (W : World) => fld_cr0 C 0 K S U M V A N6 f W
  have hf2 := fun (A : Option Addr) (f : Nat) (W : World) => fld_cr2 C 0 K S U M V A N6 f W
  go_region_held3 (fun W => W.cell? ⟨w1.heap.size, 0, none⟩ = some (.int .i64 a) ∧ W.cell? ⟨w1.heap.size, 1, none⟩ = some (.int .i64 b) ∧ W.cell? ⟨w1.heap.size, 2, none⟩ = some (.int .i64 cc) ∧ W.cell? ⟨w1.heap.size, 3, none⟩ = some (.int .i64 d) ∧ W.cell? ⟨w1.heap.size, 4, none⟩ = some (.bool v) ∧ W.cell? ⟨w1.heap.size, 5, none⟩ = some (.slice A3 n3 c3) ∧ W.cell? ⟨w3.heap.size, 0, none⟩ = some (.int .i64 EC) ∧ W.cell? ⟨w3.heap.size, 1, none⟩ = some (.slice A4 (encN EC) c4) ∧ W.cell? ⟨w5.heap.size, 0, none⟩ = some (.int .i64 C) ∧ W.cell? ⟨w5.heap.size, 1, none⟩ = some (.int .i64 0) ∧ W.cell? ⟨w5.heap.size, 2, none⟩ = some (.int .i64 K) ∧ W.cell? ⟨w5.heap.size, 3, none⟩ = some (.int .i64 S) ∧ W.cell? ⟨w5.heap.size, 4, none⟩ = some (.int .i64 U) ∧ W.cell? ⟨w5.heap.size, 5, none⟩ = some (.int .i64 M) ∧ W.cell? ⟨w5.heap.size, 6, none⟩ = some (.bool V) ∧ W.cell? ⟨w5.heap.size, 7, none⟩ = some (.slice A6 N6 f6) ∧ W.cell? ⟨w6.heap.size, 0, none⟩ = some (.int .i64 a1) ∧ W.cell? ⟨w6.heap.size, 1, none⟩ = some (.int .i64 b1) ∧ W.cell? ⟨w6.heap.size, 2, none⟩ = some (.int .i64 e1) ∧ W.cell? ⟨w6.heap.size, 3, none⟩ = some (.int .i64 d1) ∧ W.cell? ⟨w6.heap.size, 4, none⟩ = some (.bool v1) ∧ W.cell? ⟨w6.heap.size, 5, none⟩ = some (.slice A7 n7 c7) ∧ W.cell? ⟨(w6.heap.size + 1), 0, none⟩ = some (.int .i64 a2) ∧ W.cell? ⟨(w6.heap.size + 1), 1, none⟩ = some (.int .i64 b2) ∧ W.cell? ⟨(w6.heap.size + 1), 2, none⟩ = some (.int .i64 e2) ∧ W.cell? ⟨(w6.heap.size + 1), 3, none⟩ = some (.int .i64 d2) ∧ W.cell? ⟨(w6.heap.size + 1), 4, none⟩ = some (.bool v2) ∧ W.cell? ⟨(w6.heap.size + 1), 5, none⟩ = some (.slice A8 n8 c8) ∧ Below W7.heap.size W7 W)
    (first | (exact ⟨by with_reducible assumption, by with_reducible assumption, by with_reducible assumption, by with_reducible assumption, by with_reducible assumption, by with_reducible assumption, by with_reducible assumption, by with_reducible assumption, by with_reducible assumption, by with_reducible assumption, by with_reducible assumption, by with_reducible assumption, by with_reducible assumption, by with_reducible assumption, by with_reducible assumption, by with_reducible assumption, by with_reducible assumption, by with_reducible assumption, by with_reducible assumption, by with_reducible assumption, by with_reducible assumption, by with_reducible assumption, by with_reducible assumption, by with_reducible assumption, by with_reducible assumption, by with_reducible assumption, by with_reducible assumption, by with_reducible assumption, by with_reducible assumption⟩) | (exact ⟨i0_0, i0_1, i0_2, i0_3, i0_4, i0_5, i1_0, i1_1, i2_0, i2_1, i2_2, i2_3, i2_4, i2_5, i2_6, i2_7, i3_0, i3_1, i3_2, i3_3, i3_4, i3_5, i4_0, i4_1, i4_2, i4_3, i4_4, i4_5, hWW.drew⟩) | (exact ⟨i0_0, i0_1, i0_2, i0_3, i0_4, i0_5, i1_0, i1_1, i2_0, i2_1, i2_2, i2_3, i2_4, i2_5, i2_6, i2_7, i3_0, i3_1, i3_2, i3_3, i3_4, i3_5, i4_0, i4_1, i4_2, i4_3, i4_4, i4_5, hWW⟩) | go_keep)
    (first
      | (go_at_call 12; refine (XE.out _ ?_).mono ?_; (first | with_reducible assumption | (simp [*]; done)); (try clear z0 z1 z2 z3 z4 z5 z6 z7 z8 z9 z10 z11 z12 z13 z14 z15 z16 z17 z18 z19 z20 z21 z22 z23 z24 z25 z26 z27 z28); rintro e w' ⟨⟨A', c', rfl, u1⟩, hh, z0, z1, z2, z3, z4, z5, z6, z7, z8, z9, z10, z11, z12, z13, z14, z15, z16, z17, z18, z19, z20, z21, z22, z23, z24, z25, z26, z27, z28⟩)
      | (go_at_call 11; refine (XL.out _ _ _ ?_ ?_).mono ?_; (first | with_reducible assumption | (simp [*]; done)); exact u1; (try clear z0 z1 z2 z3 z4 z5 z6 z7 z8 z9 z10 z11 z12 z13 z14 z15 z16 z17 z18 z19 z20 z21 z22 z23 z24 z25 z26 z27 z28); rintro e w' ⟨rfl, hh, z0, z1, z2, z3, z4, z5, z6, z7, z8, z9, z10, z11, z12, z13, z14, z15, z16, z17, z18, z19, z20, z21, z22, z23, z24, z25, z26, z27, z28⟩)
      | (go_at_call 13; refine (XD.out _ ?_).mono ?_; (first | with_reducible assumption | (simp [*]; done)); (try clear z0 z1 z2 z3 z4 z5 z6 z7 z8 z9 z10 z11 z12 z13 z14 z15 z16 z17 z18 z19 z20 z21 z22 z23 z24 z25 z26 z27 z28); rintro e w' ⟨⟨A', f', rfl, u2⟩, hh, z0, z1, z2, z3, z4, z5, z6, z7, z8, z9, z10, z11, z12, z13, z14, z15, z16, z17, z18, z19, z20, z21, z22, z23, z24, z25, z26, z27, z28⟩)
      | (go_at_call_of 14 A6; refine (XS.out _ _ _ ?_ ?_).mono ?_; (first | with_reducible assumption | (simp [*]; done)); exact u2; (try clear z0 z1 z2 z3 z4 z5 z6 z7 z8 z9 z10 z11 z12 z13 z14 z15 z16 z17 z18 z19 z20 z21 z22 z23 z24 z25 z26 z27 z28); rintro e w' ⟨rfl, hh, z0, z1, z2, z3, z4, z5, z6, z7, z8, z9, z10, z11, z12, z13, z14, z15, z16, z17, z18, z19, z20, z21, z22, z23, z24, z25, z26, z27, z28⟩)
      | (go_at_call_of 14 A8; refine (XA.out _ ?_).mono ?_; (first | with_reducible assumption | (simp [*]; done)); (try clear z0 z1 z2 z3 z4 z5 z6 z7 z8 z9 z10 z11 z12 z13 z14 z15 z16 z17 z18 z19 z20 z21 z22 z23 z24 z25 z26 z27 z28); rintro e w' ⟨rfl, hh, z0, z1, z2, z3, z4, z5, z6, z7, z8, z9, z10, z11, z12, z13, z14, z15, z16, z17, z18, z19, z20, z21, z22, z23, z24, z25, z26, z27, z28⟩)
      | (go_at_call 15; refine (XB.out _ ?_).mono ?_; (first | with_reducible assumption | (simp [*]; done)); (try clear z0 z1 z2 z3 z4 z5 z6 z7 z8 z9 z10 z11 z12 z13 z14 z15 z16 z17 z18 z19 z20 z21 z22 z23 z24 z25 z26 z27 z28); rintro e w' ⟨rfl, hh, z0, z1, z2, z3, z4, z5, z6, z7, z8, z9, z10, z11, z12, z13, z14, z15, z16, z17, z18, z19, z20, z21, z22, z23, z24, z25, z26, z27, z28⟩)
      | (go_at_call 16; refine (XF.out _ ?_).mono ?_; (first | with_reducible assumption | (simp [*]; done)); (try clear z0 z1 z2 z3 z4 z5 z6 z7 z8 z9 z10 z11 z12 z13 z14 z15 z16 z17 z18 z19 z20 z21 z22 z23 z24 z25 z26 z27 z28); rintro e w' ⟨rfl, hh, z0, z1, z2, z3, z4, z5, z6, z7, z8, z9, z10, z11, z12, z13, z14, z15, z16, z17, z18, z19, z20, z21, z22, z23, z24, z25, z26, z27, z28⟩))
  replace TC := TC.below z28 lt_TC
  replace TE := TE.below z28 lt_TE
  replace TD := TD.below z28 lt_TD
  replace q3 := q3.below z28
  replace q4 := q4.below z28
  replace q5 := q5.below z28
  replace q6 := q6.below z28
  have B8 := ac B7 z28
  clear i0_0 i0_1 i0_2 i0_3 i0_4 i0_5 i1_0 i1_1 i2_0 i2_1 i2_2 i2_3 i2_4 i2_5 i2_6 i2_7 i3_0 i3_1 i3_2 i3_3 i3_4 i3_5 i4_0 i4_1 i4_2 i4_3 i4_4 i4_5 XE XL XD XS XA XB XF hWW lt_TC lt_TE lt_TD lt_TA lt_TB TA TB q7 q8 B7 GE GF GD
  obtain ⟨w8, rfl⟩ : ∃ x, x = w' := ⟨_, rfl⟩
  clear z0 z1 z2 z3 z4 z5 z6 z7 z8 z9 z10 z11 z12 z13 z14 z15 z16 z17 z18 z19 z20 z21 z22 z23 z24 z25 z26 z27 z28 hf0 hf2
  by_cases hC : C = 0
  · subst hC
    obtain ⟨rfl, g1, g2⟩ := HB.out rfl
    have x0 := TD.cell (i := 0) rfl
    go_wp2_with fail
    refine (show Calls Try.prog 7 #[.agg #[.int .i64 K, .int .i64 S, .int .i64 U, .int .i64 M, .bool V, .slice A6 N6 f6]] w8 (EncAns 0 pl w8) by have t := implEncodeCell_any K S U M V A6 N6 f6 L6 w8 q6; rw [g1, g2] at t; exact t).mono ?_
    rintro e w9 ⟨⟨A', c', rfl, Q, _⟩, b9⟩
    rw [show encN 0 = 44 from rfl, show encL 0 pl = pl from rfl] at Q
    rw [show encN 0 = 44 from rfl]
    have hf1 := fld_br1 0 A' 44 c' w9
    have B9 := ac B8 b9
    clear x0 g1 g2
    go_wp2_with fail
    refine (lwSame_any A' (some ⟨g, 0, none⟩) 44 c' 44 c5 pl pl w9 Q.head.bs (q5.below b9)).mono ?_
    rintro e w' ⟨rfl, hw⟩
    replace hw := hw.symm
    subst hw
    rw [show decide (pl = pl) = true by simp]
    replace TC := TC.below b9 TC.lt
    replace TE := TE.below b9 TE.lt
    replace q3 := q3.below b9
    replace q4 := q4.below b9
    clear TD q5 q6 HB B8 b9 hf1 Q
    by_cases hE : EC = 0
    rotate_left
    · have hE2 : (EC != 0) = true := by simpa using hE
      have x0 := TE.cell (i := 0) rfl
      have x1 := TE.cell (i := 1) rfl
      clear HF HEL HR o4 q3 q4
      go_wp2
      go_ret
      exact ⟨rfl, B9⟩
    subst hE
    have hr0 := HF.out rfl
    have hdk := dec_cellL hr0
    have hlm := cellC_lim hr0
    simp only [show encN 0 = 44 from rfl, show ∀ l, encL 0 l = l from fun _ => rfl] at TE q4 k4 o4
    obtain ⟨b4, rfl, _⟩ := o4 (by omega)
    have CD : Shut (∀ W : World, Bs W (some ⟨b4, 0, none⟩) 44 EL → Calls Try.prog 9 #[.slice (some ⟨b4, 0, none⟩) 44 c4] W fun e w' => (∃ A' f', e = .returned (.agg #[.int .i64 0, .int .i64 0, .int .i64 a, .int .i64 b, .int .i64 cc, .int .i64 d, .bool v, .slice A' n3 f']) ∧ Bs w' A' n3 r) ∧ Below W.heap.size W w') := ⟨fun W h4 => by
      have t := implDecodeCell_any b4 44 c4 EL W h4 k4
      have hEL := HEL.out
      have hrl := HR.out
      have e0 : decOk EL = true := by rw [hEL]; exact hdk
      have e1 : decCode 44 EL = 0 := by simp [decCode, e0]
      have e2 : decD 44 EL = true := by simp [decD, e0]
      rw [e1, e2] at t
      have f1 : fK EL = a := by rw [hEL]; exact fK_cellL a b cc d v r
      have f2 : fS EL = b := by rw [hEL]; exact fS_cellL a cc d v r hlm.1
      have f3 : fA EL = cc := by rw [hEL]; exact fA_cellL a b d v r hlm.2.1
      have f4 : fM EL = d := by rw [hEL]; exact fM_cellL a b cc d v r
      have f5 : fL EL = v := by rw [hEL]; exact fL_cellL a b cc d v r
      have f6 : (fZ EL).toNat = n3 := by rw [hEL, fZ_cellL, Int.toNat_natCast]; exact hrl
      have f7 : fB EL n3 = r := by rw [hEL, ← hrl]; exact fB_cellL a b cc d v r
      refine t.mono ?_
      rintro e w' ⟨⟨A', f', he, R, _⟩, hb⟩
      simp only [selI, selB, selN, selL, if_true, Bool.true_and] at he R
      rw [f1, f2, f3, f4, f5, f6] at he
      rw [f6, f7] at R
      exact ⟨⟨A', f', he, R.head.bs⟩, hb⟩⟩
    have x0 := TE.cell (i := 0) rfl
    have x1 := TE.cell (i := 1) rfl
    clear HF HEL hr0 hdk hlm
    go_wp2_with fail
    refine (CD.out _ q4).mono ?_
    rintro e w10 ⟨⟨A9, f9, rfl, q9⟩, b10⟩
    clear x0 x1
    have z10 := b10.size
    replace TC := (TC.below b10 TC.lt).alloc (.cells #[.int .i64 0, .int .i64 0, .int .i64 a, .int .i64 b, .int .i64 cc, .int .i64 d, .bool v, .slice A9 n3 f9] 32)
    replace TE := (TE.below b10 TE.lt).alloc (.cells #[.int .i64 0, .int .i64 0, .int .i64 a, .int .i64 b, .int .i64 cc, .int .i64 d, .bool v, .slice A9 n3 f9] 32)
    replace q3 := (q3.below b10).alloc (.cells #[.int .i64 0, .int .i64 0, .int .i64 a, .int .i64 b, .int .i64 cc, .int .i64 d, .bool v, .slice A9 n3 f9] 32)
    replace q9 := q9.alloc (.cells #[.int .i64 0, .int .i64 0, .int .i64 a, .int .i64 b, .int .i64 cc, .int .i64 d, .bool v, .slice A9 n3 f9] 32)
    have T9 := Stc.new w10 32 [.int .i64 0, .int .i64 0, .int .i64 a, .int .i64 b, .int .i64 cc, .int .i64 d, .bool v, .slice A9 n3 f9] _ rfl
    have BA := ab (ac B9 b10) (.cells #[.int .i64 0, .int .i64 0, .int .i64 a, .int .i64 b, .int .i64 cc, .int .i64 d, .bool v, .slice A9 n3 f9] 32)
    clear b10 CD q4
    go_upto_region 15 with (fail)
    generalize w10.alloc (.cells #[.int .i64 0, .int .i64 0, .int .i64 a, .int .i64 b, .int .i64 cc, .int .i64 d, .bool v, .slice A9 n3 f9] 32) = w11 at *
    have x0 := TC.cell (i := 0) rfl
    have x1 := TC.cell (i := 1) rfl
    have x2 := TC.cell (i := 2) rfl
    have x3 := TC.cell (i := 3) rfl
    have x4 := TC.cell (i := 4) rfl
    have x5 := TC.cell (i := 5) rfl
    have y0 := TE.cell (i := 0) rfl
    have y1 := TE.cell (i := 1) rfl
    have t0 := T9.cell (i := 0) rfl
    have t1 := T9.cell (i := 1) rfl
    have t2 := T9.cell (i := 2) rfl
    have t3 := T9.cell (i := 3) rfl
    have t4 := T9.cell (i := 4) rfl
    have t5 := T9.cell (i := 5) rfl
    have t6 := T9.cell (i := 6) rfl
    have t7 := T9.cell (i := 7) rfl
    go_wp2_with fail
    refine (implSameCells_any a b cc d v a b cc d v A9 A3 n3 f9 n3 c3 r r w11 q9 q3).mono ?_
    rintro e w12 ⟨rfl, b12⟩
    rw [sameC_self]
    clear x0 x1 x2 x3 x4 x5 y0 y1 t0 t1 t2 t3 t4 t5 t6 t7
    replace TC := TC.below b12 TC.lt
    replace TE := TE.below b12 TE.lt
    replace T9 := T9.below b12 T9.lt
    replace q3 := q3.below b12
    replace q9 := q9.below b12
    have BB := ac BA b12
    clear BA b12
    have x0 := TC.cell (i := 0) rfl
    have x1 := TC.cell (i := 1) rfl
    have x2 := TC.cell (i := 2) rfl
    have x3 := TC.cell (i := 3) rfl
    have x4 := TC.cell (i := 4) rfl
    have x5 := TC.cell (i := 5) rfl
    have y0 := TE.cell (i := 0) rfl
    have y1 := TE.cell (i := 1) rfl
    have t0 := T9.cell (i := 0) rfl
    have t1 := T9.cell (i := 1) rfl
    have t2 := T9.cell (i := 2) rfl
    have t3 := T9.cell (i := 3) rfl
    have t4 := T9.cell (i := 4) rfl
    have t5 := T9.cell (i := 5) rfl
    have t6 := T9.cell (i := 6) rfl
    have t7 := T9.cell (i := 7) rfl
    go_wp2_with fail
    refine (specSameCells_any a b cc d v a b cc d v A9 A3 n3 f9 n3 c3 r r w12 q9 q3).mono ?_
    rintro e w13 ⟨rfl, b13⟩
    rw [sameC_self]
    go_wp2
    go_ret
    exact ⟨rfl, ac BB b13⟩
  · have hC2 : (C == 0) = false := by simpa using hC
    have y0 := TD.cell (i := 0) rfl
    clear q5 q6 HB
    have B9 := B8
    obtain ⟨w9, rfl⟩ : ∃ x, x = w8 := ⟨_, rfl⟩
    clear TD
    by_cases hE : EC = 0
    rotate_left
    · have hE2 : (EC != 0) = true := by simpa using hE
      have x0 := TE.cell (i := 0) rfl
      have x1 := TE.cell (i := 1) rfl
      clear HF HEL HR o4 q3 q4
      go_wp2
      go_ret
      exact ⟨rfl, B9⟩
    subst hE
    have hr0 := HF.out rfl
    have hdk := dec_cellL hr0
    have hlm := cellC_lim hr0
    simp only [show encN 0 = 44 from rfl, show ∀ l, encL 0 l = l from fun _ => rfl] at TE q4 k4 o4
    obtain ⟨b4, rfl, _⟩ := o4 (by omega)
    have CD : Shut (∀ W : World, Bs W (some ⟨b4, 0, none⟩) 44 EL → Calls Try.prog 9 #[.slice (some ⟨b4, 0, none⟩) 44 c4] W fun e w' => (∃ A' f', e = .returned (.agg #[.int .i64 0, .int .i64 0, .int .i64 a, .int .i64 b, .int .i64 cc, .int .i64 d, .bool v, .slice A' n3 f']) ∧ Bs w' A' n3 r) ∧ Below W.heap.size W w') := ⟨fun W h4 => by
      have t := implDecodeCell_any b4 44 c4 EL W h4 k4
      have hEL := HEL.out
      have hrl := HR.out
      have e0 : decOk EL = true := by rw [hEL]; exact hdk
      have e1 : decCode 44 EL = 0 := by simp [decCode, e0]
      have e2 : decD 44 EL = true := by simp [decD, e0]
      rw [e1, e2] at t
      have f1 : fK EL = a := by rw [hEL]; exact fK_cellL a b cc d v r
      have f2 : fS EL = b := by rw [hEL]; exact fS_cellL a cc d v r hlm.1
      have f3 : fA EL = cc := by rw [hEL]; exact fA_cellL a b d v r hlm.2.1
      have f4 : fM EL = d := by rw [hEL]; exact fM_cellL a b cc d v r
      have f5 : fL EL = v := by rw [hEL]; exact fL_cellL a b cc d v r
      have f6 : (fZ EL).toNat = n3 := by rw [hEL, fZ_cellL, Int.toNat_natCast]; exact hrl
      have f7 : fB EL n3 = r := by rw [hEL, ← hrl]; exact fB_cellL a b cc d v r
      refine t.mono ?_
      rintro e w' ⟨⟨A', f', he, R, _⟩, hb⟩
      simp only [selI, selB, selN, selL, if_true, Bool.true_and] at he R
      rw [f1, f2, f3, f4, f5, f6] at he
      rw [f6, f7] at R
      exact ⟨⟨A', f', he, R.head.bs⟩, hb⟩⟩
    have x0 := TE.cell (i := 0) rfl
    have x1 := TE.cell (i := 1) rfl
    clear HF HEL hr0 hdk hlm
    go_wp2_with fail
    refine (CD.out _ q4).mono ?_
    rintro e w10 ⟨⟨A9, f9, rfl, q9⟩, b10⟩
    clear x0 x1
    have z10 := b10.size
    replace TC := (TC.below b10 TC.lt).alloc (.cells #[.int .i64 0, .int .i64 0, .int .i64 a, .int .i64 b, .int .i64 cc, .int .i64 d, .bool v, .slice A9 n3 f9] 32)
    replace TE := (TE.below b10 TE.lt).alloc (.cells #[.int .i64 0, .int .i64 0, .int .i64 a, .int .i64 b, .int .i64 cc, .int .i64 d, .bool v, .slice A9 n3 f9] 32)
    replace q3 := (q3.below b10).alloc (.cells #[.int .i64 0, .int .i64 0, .int .i64 a, .int .i64 b, .int .i64 cc, .int .i64 d, .bool v, .slice A9 n3 f9] 32)
    replace q9 := q9.alloc (.cells #[.int .i64 0, .int .i64 0, .int .i64 a, .int .i64 b, .int .i64 cc, .int .i64 d, .bool v, .slice A9 n3 f9] 32)
    have T9 := Stc.new w10 32 [.int .i64 0, .int .i64 0, .int .i64 a, .int .i64 b, .int .i64 cc, .int .i64 d, .bool v, .slice A9 n3 f9] _ rfl
    have BA := ab (ac B9 b10) (.cells #[.int .i64 0, .int .i64 0, .int .i64 a, .int .i64 b, .int .i64 cc, .int .i64 d, .bool v, .slice A9 n3 f9] 32)
    clear b10 CD q4
    go_upto_region 15 with (fail)
    generalize w10.alloc (.cells #[.int .i64 0, .int .i64 0, .int .i64 a, .int .i64 b, .int .i64 cc, .int .i64 d, .bool v, .slice A9 n3 f9] 32) = w11 at *
    have x0 := TC.cell (i := 0) rfl
    have x1 := TC.cell (i := 1) rfl
    have x2 := TC.cell (i := 2) rfl
    have x3 := TC.cell (i := 3) rfl
    have x4 := TC.cell (i := 4) rfl
    have x5 := TC.cell (i := 5) rfl
    have y0 := TE.cell (i := 0) rfl
    have y1 := TE.cell (i := 1) rfl
    have t0 := T9.cell (i := 0) rfl
    have t1 := T9.cell (i := 1) rfl
    have t2 := T9.cell (i := 2) rfl
    have t3 := T9.cell (i := 3) rfl
    have t4 := T9.cell (i := 4) rfl
    have t5 := T9.cell (i := 5) rfl
    have t6 := T9.cell (i := 6) rfl
    have t7 := T9.cell (i := 7) rfl
    go_wp2_with fail
    refine (implSameCells_any a b cc d v a b cc d v A9 A3 n3 f9 n3 c3 r r w11 q9 q3).mono ?_
    rintro e w12 ⟨rfl, b12⟩
    rw [sameC_self]
    clear x0 x1 x2 x3 x4 x5 y0 y1 t0 t1 t2 t3 t4 t5 t6 t7
    replace TC := TC.below b12 TC.lt
    replace TE := TE.below b12 TE.lt
    replace T9 := T9.below b12 T9.lt
    replace q3 := q3.below b12
    replace q9 := q9.below b12
    have BB := ac BA b12
    clear BA b12
    have x0 := TC.cell (i := 0) rfl
    have x1 := TC.cell (i := 1) rfl
    have x2 := TC.cell (i := 2) rfl
    have x3 := TC.cell (i := 3) rfl
    have x4 := TC.cell (i := 4) rfl
    have x5 := TC.cell (i := 5) rfl
    have y0 := TE.cell (i := 0) rfl
    have y1 := TE.cell (i := 1) rfl
    have t0 := T9.cell (i := 0) rfl
    have t1 := T9.cell (i := 1) rfl
    have t2 := T9.cell (i := 2) rfl
    have t3 := T9.cell (i := 3) rfl
    have t4 := T9.cell (i := 4) rfl
    have t5 := T9.cell (i := 5) rfl
    have t6 := T9.cell (i := 6) rfl
    have t7 := T9.cell (i := 7) rfl
    go_wp2_with fail
    refine (specSameCells_any a b cc d v a b cc d v A9 A3 n3 f9 n3 c3 r r w12 q9 q3).mono ?_
    rintro e w13 ⟨rfl, b13⟩
    rw [sameC_self]
    go_wp2
    go_ret
    exact ⟨rfl, ac BB b13⟩

theorem cells_all (A : Option Addr) (n c : Nat) (l : List Int) (w : World) (h : Bs w A n l) (hm : n ≤ 9223372036854775807) :
    Calls Try.prog 3 #[.slice A n c] w fun e w' => e = .returned (.bool true) ∧ Below w.heap.size w w' := by
  by_cases hl0 : n ≤ 1048576
  · exact cells_walk A n c l w h hl0
  · have Hd : Shut (decide (1048576 < n) = true) := ⟨by simp; omega⟩
    go_enter Try.func3, Try.ntmps3
    go_wp2_with fail
    refine (lwBig_any _ _ _ _ hm).mono ?_
    rintro e w1 ⟨rfl, rfl⟩
    rw [Hd.out]
    go_wp2
    go_ret
    exact ⟨rfl, Below.refl _ _⟩
end Go.Proofs.Ytabhcolfkkfonaa
