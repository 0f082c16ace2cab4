/- The draws of chapter 3 that have four results. -/
import Derived.Test.YtcanmhlhnihijaaDoorCipDrawE
import Derived.Test.YtcanmhlhnihijaaDoorSealC
namespace Go.Proofs.YtcanmhlhnihijaaDoor
open Go.RowKit

def xorPick : List Int := [0, 1, 1000000, 1000001, 5, 6]
theorem xorPick_bd : ∀ x ∈ xorPick, -1 ≤ x ∧ x ≤ 1000001 := by decide

theorem drawStreamXor_any (A : Option Addr) (n c : Nat) (l : List Int) (w : World) (h : Bs w A n l) (hn : n ≤ 1048576) :
    Calls Tryd.prog 10 #[.slice A n c] w fun e w' => (∃ A1 c1 n1 r1 k A2 c2 n2 r2 A3 c3 n3 r3, e = .returned (.tuple #[.slice A1 n1 c1, .int .i64 k, .slice A2 n2 c2, .slice A3 n3 c3]) ∧ Drawn w' w.heap.size A1 n1 c1 r1 ∧ Drawn w' w.heap.size A2 n2 c2 r2 ∧ Drawn w' w.heap.size A3 n3 c3 r3 ∧ n1 ≤ 33 ∧ n2 ≤ 13 ∧ n3 ≤ 1001 ∧ -1 ≤ k ∧ k ≤ 1000001) ∧ Below w.heap.size w w' := by
  go_enter Tryd.func10, Tryd.ntmps10
  go_wp2_with fail
  refine (source_any _ _ _ _ _ h).mono ?_
  rintro e w1 ⟨rfl, s1, b1, z1⟩
  have z1' : w.heap.size < w1.heap.size := by omega
  clear z1
  go_wp2_with fail
  refine (l3Key_any w.heap.size n c A 0 _ (by omega) l hn s1).mono ?_
  rintro e w2 ⟨⟨A2, c2, m2, r2, rfl, row2, hr2, hm2⟩, ⟨q2, s2, hq2⟩, b2⟩
  have d2 : Drawn w2 w1.heap.size A2 m2 c2 r2 := ⟨row2, hr2⟩
  have z2 := b2.size
  have B2 : Below w.heap.size w w2 := b1.trans (b2.below (by omega) (Nat.le_refl _))
  clear row2 hr2 b1 s1
  go_wp2_with fail
  refine (l3Nonce_any w.heap.size n c A q2 _ (by omega) l hn s2).mono ?_
  rintro e w3 ⟨⟨A3, c3, m3, r3, rfl, row3, hr3, hm3⟩, ⟨q3, s3, hq3⟩, b3⟩
  have d3 : Drawn w3 w2.heap.size A3 m3 c3 r3 := ⟨row3, hr3⟩
  have d23 := d2.past b3 (Nat.le_refl _) z1'
  have B3 : Below w.heap.size w w3 := B2.trans (b3.below (by omega) (Nat.le_refl _))
  have z3 := b3.size
  clear row3 hr3 b3 s2 d2 b2 B2
  go_wp2_with fail
  refine (pick_any w.heap.size n c A q3 w3.heap.size 6 6 xorPick _ (by omega) (by omega) (by omega) l hn (s3.but (ab (Below.refl _ _) _) (Nat.le_refl _)) rfl (by omega) (ints_cells w3 xorPick _ _ rfl)).mono ?_
  rintro e w4 ⟨⟨y, hy, rfl⟩, s4, b4, z4⟩
  have z4' : w3.heap.size < w4.heap.size := by rw [z4]; simp
  have B34 : But w.heap.size w3.heap.size w3 w4 := (But.of_below (ab (Below.refl _ w3) _)).trans (b4 w3.heap.size)
  have d24 := d23.past B34 (Nat.le_refl _) z1'
  have d34 := d3.past B34 (Nat.le_refl _) (by omega)
  have B4 : Below w.heap.size w w4 := B3.trans (B34.below (by omega) (Nat.le_refl _))
  have hyb := xorPick_bd y hy
  clear z4 hy b4 B34 d23 d3 s3 B3
  go_wp2_with fail
  refine (l3Data_any w.heap.size n c A (q3 + 1) _ (by omega) l hn s4).mono ?_
  rintro e w5 ⟨⟨A5, c5, m5, r5, rfl, row5, hr5, hm5⟩, ⟨q5, s5, hq5⟩, b5⟩
  have d5 : Drawn w5 w4.heap.size A5 m5 c5 r5 := ⟨row5, hr5⟩
  have d25 := d24.past b5 (Nat.le_refl _) z1'
  have d35 := d34.past b5 (Nat.le_refl _) (by omega)
  have B5 : Below w.heap.size w w5 := B4.trans (b5.below (by omega) (Nat.le_refl _))
  have z5 := b5.size
  clear row5 hr5 b5 s5 s4 d24 d34 B4
  have Fin := Shut.mk d5
  have Fin2 := Shut.mk d25
  have Fin3 := Shut.mk d35
  clear d5 d25 d35
  go_wp2
  refine bodyPost_ret (v := .tuple #[.slice A2 m2 c2, .int .i64 y, .slice A3 m3 c3, .slice A5 m5 c5]) (by simp [results, Tryd.results10, go_sem]) rfl ?_
  exact ⟨⟨A2, c2, m2, r2, y, A3, c3, m3, r3, A5, c5, m5, r5, rfl, Fin2.out.mono (by omega), Fin3.out.mono (by omega), Fin.out.mono (by omega), hm2, hm3, hm5, hyb⟩, B5⟩

theorem drawSealBox_any (A : Option Addr) (n c : Nat) (l : List Int) (w : World) (h : Bs w A n l) (hn : n ≤ 1048576) :
    Calls Tryd.prog 18 #[.slice A n c] w fun e w' => (∃ A1 c1 n1 r1 A2 c2 n2 r2 A3 c3 n3 r3 A4 c4 n4 r4, e = .returned (.tuple #[.slice A1 n1 c1, .slice A2 n2 c2, .slice A3 n3 c3, .slice A4 n4 c4]) ∧ Drawn w' w.heap.size A1 n1 c1 r1 ∧ Drawn w' w.heap.size A2 n2 c2 r2 ∧ Drawn w' w.heap.size A3 n3 c3 r3 ∧ Drawn w' w.heap.size A4 n4 c4 r4 ∧ n1 ≤ 33 ∧ n2 ≤ 13 ∧ n3 ≤ 1001 ∧ n4 ≤ 1001) ∧ Below w.heap.size w w' := by
  go_enter Tryd.func18, Tryd.ntmps18
  go_wp2_with fail
  refine (source_any _ _ _ _ _ h).mono ?_
  rintro e w1 ⟨rfl, s1, b1, z1⟩
  have z1' : w.heap.size < w1.heap.size := by omega
  clear z1
  go_wp2_with fail
  refine (l3Key_any w.heap.size n c A 0 _ (by omega) l hn s1).mono ?_
  rintro e w2 ⟨⟨A2, c2, m2, r2, rfl, row2, hr2, hm2⟩, ⟨q2, s2, hq2⟩, b2⟩
  have d2 : Drawn w2 w1.heap.size A2 m2 c2 r2 := ⟨row2, hr2⟩
  have z2 := b2.size
  have B2 : Below w.heap.size w w2 := b1.trans (b2.below (by omega) (Nat.le_refl _))
  clear row2 hr2 b1 s1
  go_wp2_with fail
  refine (l3Nonce_any w.heap.size n c A q2 _ (by omega) l hn s2).mono ?_
  rintro e w3 ⟨⟨A3, c3, m3, r3, rfl, row3, hr3, hm3⟩, ⟨q3, s3, hq3⟩, b3⟩
  have d3 : Drawn w3 w2.heap.size A3 m3 c3 r3 := ⟨row3, hr3⟩
  have d23 := d2.past b3 (Nat.le_refl _) z1'
  have B3 : Below w.heap.size w w3 := B2.trans (b3.below (by omega) (Nat.le_refl _))
  have z3 := b3.size
  clear row3 hr3 b3 s2 d2 b2 B2
  go_wp2_with fail
  refine (l3Data_any w.heap.size n c A q3 _ (by omega) l hn s3).mono ?_
  rintro e w4 ⟨⟨A4, c4, m4, r4, rfl, row4, hr4, hm4⟩, ⟨q4, s4, hq4⟩, b4⟩
  have d4 : Drawn w4 w3.heap.size A4 m4 c4 r4 := ⟨row4, hr4⟩
  have d24 := d23.past b4 (Nat.le_refl _) z1'
  have d34 := d3.past b4 (Nat.le_refl _) (by omega)
  have B4 : Below w.heap.size w w4 := B3.trans (b4.below (by omega) (Nat.le_refl _))
  have z4 := b4.size
  clear row4 hr4 b4 s3 d23 d3 B3
  go_wp2_with fail
  refine (l3Data_any w.heap.size n c A q4 _ (by omega) l hn s4).mono ?_
  rintro e w5 ⟨⟨A5, c5, m5, r5, rfl, row5, hr5, hm5⟩, ⟨q5, s5, hq5⟩, b5⟩
  have d5 : Drawn w5 w4.heap.size A5 m5 c5 r5 := ⟨row5, hr5⟩
  have d25 := d24.past b5 (Nat.le_refl _) z1'
  have d35 := d34.past b5 (Nat.le_refl _) (by omega)
  have d45 := d4.past b5 (Nat.le_refl _) (by omega)
  have B5 : Below w.heap.size w w5 := B4.trans (b5.below (by omega) (Nat.le_refl _))
  have z5 := b5.size
  clear row5 hr5 b5 s5 s4 d24 d34 d4 B4
  have Fin := Shut.mk d5
  have Fin2 := Shut.mk d25
  have Fin3 := Shut.mk d35
  have Fin4 := Shut.mk d45
  clear d5 d25 d35 d45
  go_wp2
  refine bodyPost_ret (v := .tuple #[.slice A2 m2 c2, .slice A3 m3 c3, .slice A4 m4 c4, .slice A5 m5 c5]) (by simp [results, Tryd.results18, go_sem]) rfl ?_
  exact ⟨⟨A2, c2, m2, r2, A3, c3, m3, r3, A4, c4, m4, r4, A5, c5, m5, r5, rfl, Fin2.out.mono (by omega), Fin3.out.mono (by omega), Fin4.out.mono (by omega), Fin.out.mono (by omega), hm2, hm3, hm4, hm5⟩, B5⟩
end Go.Proofs.YtcanmhlhnihijaaDoor
