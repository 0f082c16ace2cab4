/- The draws of chapter 3. -/
import Derived.Test.YtcanmhlhnihijaaDoorCipDraw
namespace Go.Proofs.YtcanmhlhnihijaaDoor
open Go.RowKit

/-- a drawn slice of bytes: a row of its own, from block B on -/
def Drawn (w : World) (B : Nat) (A : Option Addr) (n c : Nat) (r : List Int) : Prop := Row w B (.slice A n c) r ∧ r.length = n
theorem Drawn.past {w w' : World} {B p n c C : Nat} {A : Option Addr} {r : List Int} (h : Drawn w B A n c r) (hb : But p C w w') (hC : w.heap.size ≤ C) (hp : p < B) : Drawn w' B A n c r :=
  ⟨h.1.keep (fun g h1 h2 => hb.block g (by omega) (by omega)), h.2⟩
theorem Drawn.mono {w : World} {B C n c : Nat} {A : Option Addr} {r : List Int} (h : Drawn w B A n c r) (hC : C ≤ B) : Drawn w C A n c r := ⟨h.1.mono hC, h.2⟩

theorem drawPolyTag_any (A : Option Addr) (n c : Nat) (l : List Int) (w : World) (h : Bs w A n l) (hn : n ≤ 1048576) :
    Calls Tryd.prog 22 #[.slice A n c] w fun e w' => (∃ A1 c1 n1 r1 A2 c2 n2 r2, e = .returned (.tuple #[.slice A1 n1 c1, .slice A2 n2 c2]) ∧ Drawn w' w.heap.size A1 n1 c1 r1 ∧ Drawn w' w.heap.size A2 n2 c2 r2 ∧ n1 ≤ 33 ∧ n2 ≤ 1001) ∧ Below w.heap.size w w' := by
  go_enter Tryd.func22, Tryd.ntmps22
  go_wp2_with fail
  refine (source_any _ _ _ _ _ h).mono ?_
  rintro e w1 ⟨rfl, s1, b1, z1⟩
  have z1' : w.heap.size < w1.heap.size := by omega
  clear z1
  go_wp2_with fail
  refine (l3Key_any w.heap.size n c A 0 _ (by omega) l hn s1).mono ?_
  rintro e w2 ⟨⟨A2, c2, m2, r2, rfl, row2, hr2, hm2⟩, ⟨q2, s2, hq2⟩, b2⟩
  have d2 : Drawn w2 w1.heap.size A2 m2 c2 r2 := ⟨row2, hr2⟩
  have z2 := b2.size
  have B2 : Below w.heap.size w w2 := b1.trans (b2.below (by omega) (Nat.le_refl _))
  clear row2 hr2 b1 s1
  go_wp2_with fail
  refine (l3Data_any w.heap.size n c A q2 _ (by omega) l hn s2).mono ?_
  rintro e w3 ⟨⟨A3, c3, m3, r3, rfl, row3, hr3, hm3⟩, ⟨q3, s3, hq3⟩, b3⟩
  have d3 : Drawn w3 w2.heap.size A3 m3 c3 r3 := ⟨row3, hr3⟩
  have d23 := d2.past b3 (Nat.le_refl _) z1'
  have B3 : Below w.heap.size w w3 := B2.trans (b3.below (by omega) (Nat.le_refl _))
  have z3 := b3.size
  clear row3 hr3 b3 s3 s2 d2 b2
  have Fin := Shut.mk d3
  have Fin2 := Shut.mk d23
  clear d3 d23
  go_wp2
  go_ret2
  exact ⟨⟨A2, c2, m2, r2, A3, c3, m3, r3, rfl, Fin2.out.mono (by omega), Fin.out.mono (by omega), hm2, hm3⟩, B3⟩

def blockPick : List Int := [0, 1, 1000000, 1000001, -1, 7, 9]
theorem blockPick_bd : ∀ x ∈ blockPick, -1 ≤ x ∧ x ≤ 1000001 := by decide

theorem drawStreamBlock_any (A : Option Addr) (n c : Nat) (l : List Int) (w : World) (h : Bs w A n l) (hn : n ≤ 1048576) :
    Calls Tryd.prog 12 #[.slice A n c] w fun e w' => (∃ A1 c1 n1 r1 k A2 c2 n2 r2, e = .returned (.tuple #[.slice A1 n1 c1, .int .i64 k, .slice A2 n2 c2]) ∧ Drawn w' w.heap.size A1 n1 c1 r1 ∧ Drawn w' w.heap.size A2 n2 c2 r2 ∧ n1 ≤ 33 ∧ n2 ≤ 13 ∧ -1 ≤ k ∧ k ≤ 1000001) ∧ Below w.heap.size w w' := by
  go_enter Tryd.func12, Tryd.ntmps12
  go_wp2_with fail
  refine (source_any _ _ _ _ _ h).mono ?_
  rintro e w1 ⟨rfl, s1, b1, z1⟩
  have z1' : w.heap.size < w1.heap.size := by omega
  clear z1
  go_wp2_with fail
  refine (l3Key_any w.heap.size n c A 0 _ (by omega) l hn s1).mono ?_
  rintro e w2 ⟨⟨A2, c2, m2, r2, rfl, row2, hr2, hm2⟩, ⟨q2, s2, hq2⟩, b2⟩
  have d2 : Drawn w2 w1.heap.size A2 m2 c2 r2 := ⟨row2, hr2⟩
  have z2 := b2.size
  have B2 : Below w.heap.size w w2 := b1.trans (b2.below (by omega) (Nat.le_refl _))
  clear row2 hr2 b1 s1
  go_wp2_with fail
  refine (pick_any w.heap.size n c A q2 w2.heap.size 7 7 blockPick _ (by omega) (by omega) (by omega) l hn (s2.but (ab (Below.refl _ _) _) (Nat.le_refl _)) rfl (by omega) (ints_cells w2 blockPick _ _ rfl)).mono ?_
  rintro e w3 ⟨⟨y, hy, rfl⟩, s3, b3, z3⟩
  have z3' : w2.heap.size < w3.heap.size := by rw [z3]; simp
  have B23 : But w.heap.size w2.heap.size w2 w3 := (But.of_below (ab (Below.refl _ w2) _)).trans (b3 w2.heap.size)
  have d23 := d2.past B23 (Nat.le_refl _) z1'
  have B3 : Below w.heap.size w w3 := B2.trans (B23.below (by omega) (Nat.le_refl _))
  have hyb := blockPick_bd y hy
  clear z3 hy b3 B23 d2 s2 b2 B2
  go_wp2_with fail
  refine (l3Nonce_any w.heap.size n c A (q2 + 1) _ (by omega) l hn s3).mono ?_
  rintro e w4 ⟨⟨A4, c4, m4, r4, rfl, row4, hr4, hm4⟩, ⟨q4, s4, hq4⟩, b4⟩
  have d4 : Drawn w4 w3.heap.size A4 m4 c4 r4 := ⟨row4, hr4⟩
  have d24 := d23.past b4 (Nat.le_refl _) z1'
  have B4 : Below w.heap.size w w4 := B3.trans (b4.below (by omega) (Nat.le_refl _))
  have z4 := b4.size
  clear row4 hr4 b4 s4 s3 d23
  have Fin := Shut.mk d4
  have Fin2 := Shut.mk d24
  clear d4 d24
  go_wp2
  go_ret3
  exact ⟨⟨A2, c2, m2, r2, y, A4, c4, m4, r4, rfl, Fin2.out.mono (by omega), Fin.out.mono (by omega), hm2, hm4, hyb⟩, B4⟩
end Go.Proofs.YtcanmhlhnihijaaDoor
