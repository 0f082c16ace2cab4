/- An end makes its next cell: the model's part that works on the end itself. -/
import Derived.Test.YtgmbofoneeagiaaCelS
import Derived.Test.YtgmbofoneeagiaaEndF
import Derived.Deep.CutRange
import Derived.BigRegion
namespace Go.Proofs.Ytgmbofoneeagiaa
open Go.RowKit

set_option linter.unusedVariables false in
set_option maxHeartbeats 4000000 in
theorem l9CellNone_any (g : Nat) (slot base : Int) (A0 : Option Addr) (n0 c0 : Nat) (els : List PartD) (next : Int) (A1 : Option Addr) (n1 c1 : Nat) (hs : List HeldD) (A2 : Option Addr) (n2 c2 : Nat) (A3 : Option Addr) (n3 c3 : Nat) (bad : Int) (np : Nat) (w : World)
    (hS : Stc w g [.int .i64 slot, .int .i64 base, .slice A0 n0 c0, .int .i64 next, .slice A1 n1 c1, .slice A2 n2 c2, .slice A3 n3 c3, .int .i64 bad] 119)
    (h0 : Lst PartD.cels 4 w A0 n0 els) (h1 : Lst HeldD.cels 3 w A1 n1 hs) (hn0 : n0 ≤ 1048576) (hn1 : n1 ≤ 1048576) (hp : ∀ e ∈ els, -1 ≤ e.f2 ∧ e.f2 ≤ 1000) (hs0 : 0 ≤ slot) (hs1 : slot ≤ 400) (ok : RecOk next hs np) (hz : choose slot 0 (-1) els < 0) :
    Calls Try.prog 168 #[.pointer (some ⟨g, 0, none⟩)] w fun x w' => x = .returned (.agg #[.int .i64 0, .int .i64 0, .int .i64 next, .int .i64 (maskE next hs : Int), .bool false, .slice none 0 0]) ∧ Stc w' g [.int .i64 (slot + 1), .int .i64 base, .slice A0 n0 c0, .int .i64 next, .slice A1 n1 c1, .slice A2 n2 c2, .slice A3 n3 c3, .int .i64 bad] 119 ∧ Tu (fun q => q = g) w w' := by
  have hch := fun W (hh : Below w.heap.size w W) => l8NextNoneAt_any g 1 _ _ base slot A0 n0 c0 els W (hS.below hh hS.lt) rfl rfl (h0.below hh) hn0 hp hs0 (by omega) hz
  have hak := fun W (hh : Below w.heap.size w W) => l8AckOfAt_any g 3 _ _ next A1 n1 c1 hs np W (hS.below hh hS.lt) rfl rfl (h1.below hh) hn1 ok
  have hg := hS.lt
  have wq : IntKind.i64.wrap (slot + 1) = slot + 1 := IntWalk.i64_in _ (by omega)
  have S0 := Stc.new w 67 [.int .i64 0, .int .i64 0, .int .i64 0, .int .i64 0, .bool false, .slice none 0 0] _ rfl
  have B0 := ab (Below.refl w.heap.size w) (.cells #[.int .i64 0, .int .i64 0, .int .i64 0, .int .i64 0, .bool false, .slice none 0 0] 67)
  go_enter Try.func168, Try.ntmps168
  go_upto_region 1 with fail
  go_cut [3] from 3 to 11 (fun b wx => ∃ bx, b = .pointer (some ⟨bx, 0, none⟩) ∧ w.heap.size + 1 ≤ bx ∧ Stc wx bx [.int .i64 0, .int .i64 0, .int .i64 0, .int .i64 0, .bool false, .slice none 0 0] 67 ∧ Stc wx w.heap.size [.int .i64 0, .int .i64 0, .int .i64 0, .int .i64 0, .bool false, .slice none 0 0] 67 ∧ Below w.heap.size w wx)
  case first =>
    generalize hW0 : w.alloc (.cells #[.int .i64 0, .int .i64 0, .int .i64 0, .int .i64 0, .bool false, .slice none 0 0] 67) = W0 at *
    have zW : W0.heap.size = w.heap.size + 1 := by rw [← hW0]; simp
    have lt0 : w.heap.size < W0.heap.size := by omega
    have lg0 : g < W0.heap.size := by omega
    have k0 := (B0.cell (p := ⟨g, 0, none⟩) hg).trans (hS.cell (i := 0) rfl)
    have SW : Stc W0 w.heap.size [.int .i64 0, .int .i64 0, .int .i64 0, .int .i64 0, .bool false, .slice none 0 0] 67 := by rw [← hW0] at S0 ⊢; exact S0
    have SW' : Stc W0.drew w.heap.size [.int .i64 0, .int .i64 0, .int .i64 0, .int .i64 0, .bool false, .slice none 0 0] 67 := SW
    have B0' : Below w.heap.size w W0.drew := B0.drew
    clear hW0 h0 h1 S0 SW hak hS
    replace zW := Shut.mk zW
    go_region_law (go_simp; go_wp2_with (go_at_call 126; refine (hch _ ?hb).mono ?_; (case hb => first | exact B0.drew | exact B0 | exact (B0.alloc (by omega) _).drew | exact (B0.drew).alloc (by simp; omega) _ | exact B0.alloc (by omega) _); rintro x w1 ⟨rfl, b1⟩; (try (have S9 : Stc w1 W0.heap.size [.int .i64 0, .int .i64 0, .int .i64 0, .int .i64 0, .bool false, .slice none 0 0] 67 := (Stc.new W0.drew 67 [.int .i64 0, .int .i64 0, .int .i64 0, .int .i64 0, .bool false, .slice none 0 0] _ rfl).below b1 (by simp); have e0 := S9.cell (i := 0) rfl; have e1 := S9.cell (i := 1) rfl; have e2 := S9.cell (i := 2) rfl; have e3 := S9.cell (i := 3) rfl; have e4 := S9.cell (i := 4) rfl; have e5 := S9.cell (i := 5) rfl; have ef := S9.frozen))))
    all_goals
      have z1 := b1.size
      have zz := zW.out
      simp only [World.size_alloc, World.size_drew] at z1
      go_wp2_with fail
      go_meet
      first
        | (have S8 := S9; exact ⟨W0.heap.size, rfl, by omega, ((((((S9.set_ (i := 0) _).set_ (i := 1) _).set_ (i := 2) _).set_ (i := 3) _).set_ (i := 4) _).set_ (i := 5) _), ((((((((SW'.alloc _).below b1 (by simp; omega)).far (p := ⟨W0.heap.size, 0, none⟩) (by show ¬ w.heap.size = W0.heap.size; omega) _).far (p := ⟨W0.heap.size, 1, none⟩) (by show ¬ w.heap.size = W0.heap.size; omega) _).far (p := ⟨W0.heap.size, 2, none⟩) (by show ¬ w.heap.size = W0.heap.size; omega) _).far (p := ⟨W0.heap.size, 3, none⟩) (by show ¬ w.heap.size = W0.heap.size; omega) _).far (p := ⟨W0.heap.size, 4, none⟩) (by show ¬ w.heap.size = W0.heap.size; omega) _).far (p := ⟨W0.heap.size, 5, none⟩) (by show ¬ w.heap.size = W0.heap.size; omega) _), ((((((((B0'.alloc (by simp; omega) _).trans (b1.mono (by simp; omega))).setCell (p := ⟨W0.heap.size, 0, none⟩) (by show w.heap.size ≤ W0.heap.size; omega) _).setCell (p := ⟨W0.heap.size, 1, none⟩) (by show w.heap.size ≤ W0.heap.size; omega) _).setCell (p := ⟨W0.heap.size, 2, none⟩) (by show w.heap.size ≤ W0.heap.size; omega) _).setCell (p := ⟨W0.heap.size, 3, none⟩) (by show w.heap.size ≤ W0.heap.size; omega) _).setCell (p := ⟨W0.heap.size, 4, none⟩) (by show w.heap.size ≤ W0.heap.size; omega) _).setCell (p := ⟨W0.heap.size, 5, none⟩) (by show w.heap.size ≤ W0.heap.size; omega) _)⟩)
        | exact ⟨w1.heap.size, rfl, by omega, Stc.new w1 _ _ _ rfl, (SW'.below b1 lt0).alloc _, (B0'.trans (b1.mono (by show w.heap.size ≤ W0.heap.size; omega))).alloc (by omega) _⟩
  case rest =>
    obtain ⟨bx, rfl, hbx, S1, S0, Bc⟩ := hcut
    have hgx : ¬ g = bx := by omega
    have hxg : ¬ bx = g := by omega
    have hzx : ¬ w.heap.size = bx := by omega
    have hxz : ¬ bx = w.heap.size := by omega
    have hgz : ¬ g = w.heap.size := by omega
    have hzg : ¬ w.heap.size = g := by omega
    clear hch h0 h1 B0
    go_wp2_with fail
    refine (hak _ Bc).mono ?_
    rintro x w2 ⟨rfl, b2⟩
    have B2 := ac Bc b2
    replace S1 := S1.below b2 S1.lt
    replace S0 := S0.below b2 S0.lt
    have SG := hS.below B2 hS.lt
    have T4 : Tu (fun q => q = g ∨ w.heap.size ≤ q) w w2 := Tu.ofBelow B2
    clear hak hS b2 Bc B2
    have v0 := S1.cell (i := 0) rfl
    have v1 := S1.cell (i := 1) rfl
    have v2 := S1.cell (i := 2) rfl
    have v3 := S1.cell (i := 3) rfl
    have v4 := S1.cell (i := 4) rfl
    have v5 := S1.cell (i := 5) rfl
    have vf := S1.frozen
    have y0 := S0.cell (i := 0) rfl
    have y1 := S0.cell (i := 1) rfl
    have y2 := S0.cell (i := 2) rfl
    have y3 := S0.cell (i := 3) rfl
    have y4 := S0.cell (i := 4) rfl
    have y5 := S0.cell (i := 5) rfl
    have yf := S0.frozen
    have x0 := SG.cell (i := 0) rfl
    have xf := SG.frozen
    have J := (((((((((S0.far (p := ⟨bx, 2, none⟩) hzx (.int .i64 next)).far (p := ⟨bx, 3, none⟩) hzx (.int .i64 (maskE next hs : Int))).far (p := ⟨g, 0, none⟩) hzg (.int .i64 (slot + 1))).set_ (i := 0) (.int .i64 0)).set_ (i := 1) (.int .i64 0)).set_ (i := 2) (.int .i64 next)).set_ (i := 3) (.int .i64 (maskE next hs : Int))).set_ (i := 4) (.bool false)).set_ (i := 5) (.slice none 0 0))
    have r0 := J.cell (i := 0) rfl
    have r1 := J.cell (i := 1) rfl
    have r2 := J.cell (i := 2) rfl
    have r3 := J.cell (i := 3) rfl
    have r4 := J.cell (i := 4) rfl
    have r5 := J.cell (i := 5) rfl
    go_wp2
    refine bodyPost_ret (v := .agg #[.int .i64 0, .int .i64 0, .int .i64 next, .int .i64 (maskE next hs : Int), .bool false, .slice none 0 0]) (by simp [results, Try.results168, go_sem, r0, r1, r2, r3, r4, r5]) rfl ?_
    have T3 := ((((((((((Tu.refl (fun q => q = g ∨ w.heap.size ≤ q) w2).set_ (p := ⟨bx, 2, none⟩) (.inr (by show w.heap.size ≤ bx; omega)) (.int .i64 next)).set_ (p := ⟨bx, 3, none⟩) (.inr (by show w.heap.size ≤ bx; omega)) (.int .i64 (maskE next hs : Int))).set_ (p := ⟨g, 0, none⟩) (.inl rfl) (.int .i64 (slot + 1))).set_ (p := ⟨w.heap.size, 0, none⟩) (.inr (Nat.le_refl _)) (.int .i64 0)).set_ (p := ⟨w.heap.size, 1, none⟩) (.inr (Nat.le_refl _)) (.int .i64 0)).set_ (p := ⟨w.heap.size, 2, none⟩) (.inr (Nat.le_refl _)) (.int .i64 next)).set_ (p := ⟨w.heap.size, 3, none⟩) (.inr (Nat.le_refl _)) (.int .i64 (maskE next hs : Int))).set_ (p := ⟨w.heap.size, 4, none⟩) (.inr (Nat.le_refl _)) (.bool false)).set_ (p := ⟨w.heap.size, 5, none⟩) (.inr (Nat.le_refl _)) (.slice none 0 0))
    refine ⟨rfl, (((((((((SG.far (p := ⟨bx, 2, none⟩) hgx (.int .i64 next)).far (p := ⟨bx, 3, none⟩) hgx (.int .i64 (maskE next hs : Int))).set_ (i := 0) (.int .i64 (slot + 1))).far (p := ⟨w.heap.size, 0, none⟩) hgz (.int .i64 0)).far (p := ⟨w.heap.size, 1, none⟩) hgz (.int .i64 0)).far (p := ⟨w.heap.size, 2, none⟩) hgz (.int .i64 next)).far (p := ⟨w.heap.size, 3, none⟩) hgz (.int .i64 (maskE next hs : Int))).far (p := ⟨w.heap.size, 4, none⟩) hgz (.bool false)).far (p := ⟨w.heap.size, 5, none⟩) hgz (.slice none 0 0)), ?_⟩
    exact ⟨T3.os.trans T4.os, T3.tape.trans T4.tape, T3.output.trans T4.output, Nat.le_trans T4.size T3.size, fun q hq hF => (T3.block q (Nat.lt_of_lt_of_le hq T4.size) (by omega)).trans (T4.block q hq (by omega))⟩
end Go.Proofs.Ytgmbofoneeagiaa
