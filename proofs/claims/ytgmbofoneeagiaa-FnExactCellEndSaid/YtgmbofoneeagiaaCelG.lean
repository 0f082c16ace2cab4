/- An end makes its next cell: the model's part that works on the end itself, where a part is due. -/
import Derived.Test.YtgmbofoneeagiaaCelE
namespace Go.Proofs.Ytgmbofoneeagiaa
open Go.RowKit

set_option linter.unusedVariables false in
set_option maxHeartbeats 4000000 in
theorem l9CellSome_any (g : Nat) (slot base : Int) (A0 : Option Addr) (n0 c0 : Nat) (els : List PartD) (next : Int) (A1 : Option Addr) (n1 c1 : Nat) (hs : List HeldD) (A2 : Option Addr) (n2 c2 : Nat) (A3 : Option Addr) (n3 c3 : Nat) (bad : Int) (np : Nat) (F F1 : Nat → Prop) (w : World)
    (hS : Stc w g [.int .i64 slot, .int .i64 base, .slice A0 n0 c0, .int .i64 next, .slice A1 n1 c1, .slice A2 n2 c2, .slice A3 n3 c3, .int .i64 bad] 119) (hFg : ¬ F g) (hFl : ∀ b, F b → b < w.heap.size)
    (h0 : Lo PartD.cels 4 w F A0 n0 els) (h1 : Lo HeldD.cels 3 w F1 A1 n1 hs) (hF1 : ∀ b, F1 b → ¬ F b ∧ b < w.heap.size) (hn0 : n0 ≤ 1048576) (hn1 : n1 ≤ 1048576) (hp : ∀ e ∈ els, -1 ≤ e.f2 ∧ e.f2 ≤ 1000) (hs0 : 0 ≤ slot) (hs1 : slot ≤ 400) (hb0 : 0 ≤ base) (hb1 : base ≤ 10000) (ok : RecOk next hs np) (k : Nat) (e : PartD) (he : els[k]? = some e) (hm : e.f0.length ≤ 1048576) (hz : choose slot 0 (-1) els = (k : Int)) :
    Calls Try.prog 168 #[.pointer (some ⟨g, 0, none⟩)] w fun x w' => (∃ A9 c9, x = .returned (.agg #[.int .i64 1, .int .i64 (base + (k : Int)), .int .i64 next, .int .i64 (maskE next hs : Int), .bool e.f1, .slice A9 e.f0.length c9]) ∧ Bo w' (rng w.heap.size w'.heap.size) A9 e.f0.length e.f0) ∧ Lo PartD.cels 4 w' F A0 n0 (els.set k (slotAt slot e)) ∧ Stc w' g [.int .i64 (slot + 1), .int .i64 base, .slice A0 n0 c0, .int .i64 next, .slice A1 n1 c1, .slice A2 n2 c2, .slice A3 n3 c3, .int .i64 bad] 119 ∧ Tu (fun q => q = g ∨ F q) w w' := by
  have hg := hS.lt
  have hch := fun W (hh : Below w.heap.size w W) => l8NextSomeAt_any g 1 _ _ base slot A0 n0 c0 els F W (hS.below hh hS.lt) rfl rfl hFg (fun b hb => Nat.lt_of_lt_of_le (hFl b hb) hh.size) (h0.below hh (Nat.le_refl _)) hn0 hp hs0 (by omega) hb0 hb1 k e he hm hz
  have hak := fun W (T : Tu (fun q => F q ∨ w.heap.size ≤ q) w W) => l8AckOfAt_any g 3 _ _ next A1 n1 c1 hs np W (hS.tu T (fun h => h.elim hFg (by omega))) rfl rfl (h1.tu T (fun b hb h => h.elim (hF1 b hb).1 (by have := (hF1 b hb).2; omega))).rows hn1 ok
  have wq : IntKind.i64.wrap (slot + 1) = slot + 1 := IntWalk.i64_in _ (by omega)
  have nz : ¬ F w.heap.size := fun h => by have := hFl _ h; omega
  have S0 := Stc.new w 67 [.int .i64 0, .int .i64 0, .int .i64 0, .int .i64 0, .bool false, .slice none 0 0] _ rfl
  have B0 := ab (Below.refl w.heap.size w) (.cells #[.int .i64 0, .int .i64 0, .int .i64 0, .int .i64 0, .bool false, .slice none 0 0] 67)
  clear hz he hp h0 h1 ok
  go_enter Try.func168, Try.ntmps168
  go_upto_region 1 with fail
  go_cut [3] from 3 to 11 (fun b wx => ∃ bx A9 c9, b = .pointer (some ⟨bx, 0, none⟩) ∧ w.heap.size + 1 ≤ bx ∧ Stc wx bx [.int .i64 1, .int .i64 (base + (k : Int)), .int .i64 0, .int .i64 0, .bool e.f1, .slice A9 e.f0.length c9] 67 ∧ Stc wx w.heap.size [.int .i64 0, .int .i64 0, .int .i64 0, .int .i64 0, .bool false, .slice none 0 0] 67 ∧ Bo wx (fun b => w.heap.size + 1 ≤ b ∧ b ≠ bx) A9 e.f0.length e.f0 ∧ Lo PartD.cels 4 wx F A0 n0 (els.set k (slotAt slot e)) ∧ Tu (fun q => F q ∨ w.heap.size ≤ q) w wx)
  case first =>
    generalize hW0 : w.alloc (.cells #[.int .i64 0, .int .i64 0, .int .i64 0, .int .i64 0, .bool false, .slice none 0 0] 67) = W0 at *
    have zW : W0.heap.size = w.heap.size + 1 := by rw [← hW0]; simp
    have lt0 : w.heap.size < W0.heap.size := by omega
    have lg0 : g < W0.heap.size := by omega
    have nW : ¬ F W0.heap.size := fun h => by have := hFl _ h; omega
    have k0 := (B0.cell (p := ⟨g, 0, none⟩) hg).trans (hS.cell (i := 0) rfl)
    have SW : Stc W0 w.heap.size [.int .i64 0, .int .i64 0, .int .i64 0, .int .i64 0, .bool false, .slice none 0 0] 67 := by rw [← hW0] at S0 ⊢; exact S0
    have SW' : Stc W0.drew w.heap.size [.int .i64 0, .int .i64 0, .int .i64 0, .int .i64 0, .bool false, .slice none 0 0] 67 := SW
    have B0' : Below w.heap.size w W0.drew := B0.drew
    clear hW0 S0 SW hak hS
    replace zW := Shut.mk zW
    go_region_law (go_simp; go_wp2_with (go_at_call 126; refine (hch _ ?hb).mono ?_; (case hb => first | exact B0.drew | exact B0 | exact (B0.alloc (by omega) _).drew | exact (B0.drew).alloc (by simp; omega) _ | exact B0.alloc (by omega) _); rintro x w1 ⟨⟨A9, c9, rfl, ho⟩, hL, hT⟩; (try (have S9 : Stc w1 W0.heap.size [.int .i64 0, .int .i64 0, .int .i64 0, .int .i64 0, .bool false, .slice none 0 0] 67 := (Stc.new W0.drew 67 [.int .i64 0, .int .i64 0, .int .i64 0, .int .i64 0, .bool false, .slice none 0 0] _ rfl).tu hT nW; have e0 := S9.cell (i := 0) rfl; have e1 := S9.cell (i := 1) rfl; have e2 := S9.cell (i := 2) rfl; have e3 := S9.cell (i := 3) rfl; have e4 := S9.cell (i := 4) rfl; have e5 := S9.cell (i := 5) rfl; have ef := S9.frozen))))
    all_goals
      have z1 := hT.size
      have zz := zW.out
      simp only [World.size_alloc, World.size_drew] at z1
      go_wp2_with fail
      go_meet
      first
        | (have S8 := S9
           have TA := (((((((Tu.refl (fun q => q = W0.heap.size) w1).set_ (p := ⟨W0.heap.size, 0, none⟩) rfl (.int .i64 1)).set_ (p := ⟨W0.heap.size, 1, none⟩) rfl (.int .i64 (base + (k : Int)))).set_ (p := ⟨W0.heap.size, 2, none⟩) rfl (.int .i64 0)).set_ (p := ⟨W0.heap.size, 3, none⟩) rfl (.int .i64 0)).set_ (p := ⟨W0.heap.size, 4, none⟩) rfl (.bool e.f1)).set_ (p := ⟨W0.heap.size, 5, none⟩) rfl (.slice A9 e.f0.length c9))
           exact ⟨W0.heap.size, A9, c9, rfl, by omega, ((((((S9.set_ (i := 0) (.int .i64 1)).set_ (i := 1) (.int .i64 (base + (k : Int)))).set_ (i := 2) (.int .i64 0)).set_ (i := 3) (.int .i64 0)).set_ (i := 4) (.bool e.f1)).set_ (i := 5) (.slice A9 e.f0.length c9)), ((((((((SW'.alloc _).tu hT nz).far (p := ⟨W0.heap.size, 0, none⟩) (by show ¬ w.heap.size = W0.heap.size; omega) (.int .i64 1)).far (p := ⟨W0.heap.size, 1, none⟩) (by show ¬ w.heap.size = W0.heap.size; omega) (.int .i64 (base + (k : Int)))).far (p := ⟨W0.heap.size, 2, none⟩) (by show ¬ w.heap.size = W0.heap.size; omega) (.int .i64 0)).far (p := ⟨W0.heap.size, 3, none⟩) (by show ¬ w.heap.size = W0.heap.size; omega) (.int .i64 0)).far (p := ⟨W0.heap.size, 4, none⟩) (by show ¬ w.heap.size = W0.heap.size; omega) (.bool e.f1)).far (p := ⟨W0.heap.size, 5, none⟩) (by show ¬ w.heap.size = W0.heap.size; omega) (.slice A9 e.f0.length c9)), (ho.wider (G := fun b => w.heap.size + 1 ≤ b ∧ b ≠ W0.heap.size) (fun b hb => by have h3 : W0.heap.size + 1 ≤ b := (by simpa using hb.1); exact ⟨by omega, by omega⟩)).tu TA (fun b hb h => hb.2 h), hL.tu TA (fun b hb h => by have h3 : b = W0.heap.size := h; have := hFl b hb; omega), (((((((((Tu.ofBelow (B0'.alloc (by simp; omega) _) : Tu (fun q => F q ∨ w.heap.size ≤ q) w _).trans (hT.wider fun b h => Or.inl h))).set_ (p := ⟨W0.heap.size, 0, none⟩) (Or.inr (by show w.heap.size ≤ W0.heap.size; omega)) (.int .i64 1)).set_ (p := ⟨W0.heap.size, 1, none⟩) (Or.inr (by show w.heap.size ≤ W0.heap.size; omega)) (.int .i64 (base + (k : Int)))).set_ (p := ⟨W0.heap.size, 2, none⟩) (Or.inr (by show w.heap.size ≤ W0.heap.size; omega)) (.int .i64 0)).set_ (p := ⟨W0.heap.size, 3, none⟩) (Or.inr (by show w.heap.size ≤ W0.heap.size; omega)) (.int .i64 0)).set_ (p := ⟨W0.heap.size, 4, none⟩) (Or.inr (by show w.heap.size ≤ W0.heap.size; omega)) (.bool e.f1)).set_ (p := ⟨W0.heap.size, 5, none⟩) (Or.inr (by show w.heap.size ≤ W0.heap.size; omega)) (.slice A9 e.f0.length c9))⟩)
        | exact ⟨w1.heap.size, A9, c9, rfl, by omega, Stc.new w1 _ _ _ rfl, (SW'.tu hT nz).alloc _, (ho.wider (G := fun b => w.heap.size + 1 ≤ b ∧ b ≠ w1.heap.size) (fun b hb => by have h3 : W0.heap.size ≤ b := hb.1; have h4 : b < w1.heap.size := hb.2; exact ⟨by omega, by omega⟩)).below (ab (Below.refl _ w1) _) (Nat.le_refl _), hL.below (ab (Below.refl _ w1) _) (Nat.le_refl _), ((Tu.ofBelow B0' : Tu (fun q => F q ∨ w.heap.size ≤ q) w _).trans (hT.wider fun b h => Or.inl h)).trans (Tu.ofBelow (ab (Below.refl _ w1) _))⟩
  case rest =>
    obtain ⟨bx, A9, c9, rfl, hbx, S1, S0, hO, hL, Tc⟩ := hcut
    have hgx : ¬ g = bx := by omega
    have hxg : ¬ bx = g := by omega
    have hzx : ¬ w.heap.size = bx := by omega
    have hxz : ¬ bx = w.heap.size := by omega
    have hgz : ¬ g = w.heap.size := by omega
    have hzg : ¬ w.heap.size = g := by omega
    clear hch B0
    go_wp2_with fail
    refine (hak _ Tc).mono ?_
    rintro x w2 ⟨rfl, b2⟩
    have T4 : Tu (fun q => F q ∨ w.heap.size ≤ q) w w2 := Tc.trans (Tu.ofBelow b2)
    replace S1 := S1.below b2 S1.lt
    replace S0 := S0.below b2 S0.lt
    replace hO := hO.below b2 (Nat.le_refl _)
    replace hL := hL.below b2 (Nat.le_refl _)
    have SG := hS.tu T4 (fun h => h.elim hFg (by omega))
    clear hak hS b2 Tc
    have v0 := S1.cell (i := 0) rfl
    have v1 := S1.cell (i := 1) rfl
    have v2 := S1.cell (i := 2) rfl
    have v3 := S1.cell (i := 3) rfl
    have v4 := S1.cell (i := 4) rfl
    have v5 := S1.cell (i := 5) rfl
    have vf := S1.frozen
    have y0 := S0.cell (i := 0) rfl
    have y1 := S0.cell (i := 1) rfl
    have y2 := S0.cell (i := 2) rfl
    have y3 := S0.cell (i := 3) rfl
    have y4 := S0.cell (i := 4) rfl
    have y5 := S0.cell (i := 5) rfl
    have yf := S0.frozen
    have x0 := SG.cell (i := 0) rfl
    have xf := SG.frozen
    have J := (((((((((S0.far (p := ⟨bx, 2, none⟩) hzx (.int .i64 next)).far (p := ⟨bx, 3, none⟩) hzx (.int .i64 (maskE next hs : Int))).far (p := ⟨g, 0, none⟩) hzg (.int .i64 (slot + 1))).set_ (i := 0) (.int .i64 1)).set_ (i := 1) (.int .i64 (base + (k : Int)))).set_ (i := 2) (.int .i64 next)).set_ (i := 3) (.int .i64 (maskE next hs : Int))).set_ (i := 4) (.bool e.f1)).set_ (i := 5) (.slice A9 e.f0.length c9))
    have r0 := J.cell (i := 0) rfl
    have r1 := J.cell (i := 1) rfl
    have r2 := J.cell (i := 2) rfl
    have r3 := J.cell (i := 3) rfl
    have r4 := J.cell (i := 4) rfl
    have r5 := J.cell (i := 5) rfl
    go_wp2
    refine bodyPost_ret (v := .agg #[.int .i64 1, .int .i64 (base + (k : Int)), .int .i64 next, .int .i64 (maskE next hs : Int), .bool e.f1, .slice A9 e.f0.length c9]) (by simp [results, Try.results168, go_sem, r0, r1, r2, r3, r4, r5]) rfl ?_
    have T3 := ((((((((((Tu.refl (fun q => q = bx ∨ q = g ∨ q = w.heap.size) w2).set_ (p := ⟨bx, 2, none⟩) (.inl rfl) (.int .i64 next)).set_ (p := ⟨bx, 3, none⟩) (.inl rfl) (.int .i64 (maskE next hs : Int))).set_ (p := ⟨g, 0, none⟩) (.inr (.inl rfl)) (.int .i64 (slot + 1))).set_ (p := ⟨w.heap.size, 0, none⟩) (.inr (.inr rfl)) (.int .i64 1)).set_ (p := ⟨w.heap.size, 1, none⟩) (.inr (.inr rfl)) (.int .i64 (base + (k : Int)))).set_ (p := ⟨w.heap.size, 2, none⟩) (.inr (.inr rfl)) (.int .i64 next)).set_ (p := ⟨w.heap.size, 3, none⟩) (.inr (.inr rfl)) (.int .i64 (maskE next hs : Int))).set_ (p := ⟨w.heap.size, 4, none⟩) (.inr (.inr rfl)) (.bool e.f1)).set_ (p := ⟨w.heap.size, 5, none⟩) (.inr (.inr rfl)) (.slice A9 e.f0.length c9))
    refine ⟨⟨A9, c9, rfl, Bo.ofOw ((hO.tu T3 (fun b hb h => by have h3 : b = bx ∨ b = g ∨ b = w.heap.size := h; have := hb.1; have := hb.2; omega)).ow (B := w.heap.size + 1) (fun b hb => hb.1)) (fun q _ _ hB hlt => ⟨by omega, hlt⟩)⟩, hL.tu T3 (fun b hb h => by have h3 : b = bx ∨ b = g ∨ b = w.heap.size := h; have h4 := hFl b hb; rcases h3 with rfl | rfl | h3 <;> first | omega | exact hFg hb), (((((((((SG.far (p := ⟨bx, 2, none⟩) hgx (.int .i64 next)).far (p := ⟨bx, 3, none⟩) hgx (.int .i64 (maskE next hs : Int))).set_ (i := 0) (.int .i64 (slot + 1))).far (p := ⟨w.heap.size, 0, none⟩) hgz (.int .i64 1)).far (p := ⟨w.heap.size, 1, none⟩) hgz (.int .i64 (base + (k : Int)))).far (p := ⟨w.heap.size, 2, none⟩) hgz (.int .i64 next)).far (p := ⟨w.heap.size, 3, none⟩) hgz (.int .i64 (maskE next hs : Int))).far (p := ⟨w.heap.size, 4, none⟩) hgz (.bool e.f1)).far (p := ⟨w.heap.size, 5, none⟩) hgz (.slice A9 e.f0.length c9)), ?_⟩
    exact ⟨T3.os.trans T4.os, T3.tape.trans T4.tape, T3.output.trans T4.output, Nat.le_trans T4.size T3.size, fun q hq hF => (T3.block q (Nat.lt_of_lt_of_le hq T4.size) (fun h => by have h3 : q = bx ∨ q = g ∨ q = w.heap.size := h; rcases h3 with h3 | h3 | h3 <;> first | omega | exact hF (.inl h3))).trans (T4.block q hq (fun h => h.elim (fun h => hF (.inr h)) (by omega)))⟩
end Go.Proofs.Ytgmbofoneeagiaa
