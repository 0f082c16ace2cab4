/- The sixteen words that a block of the stream starts from, of the program (gen_beg.py). -/
import Derived.Test.YtabhcolfkkfonaaGreatDoorSeqX
namespace Go.Proofs.YtabhcolfkkfonaaGreatDoor
open Go.RowKit

theorem start_laid (K N : List Int) (n : Int) (hK : K.length = 8) (hN : N.length = 3) : laidOver ((laidOver [1634760805, 857760878, 2036477234, 1797285236, 0, 0, 0, 0, 0, 0, 0, 0, 0, 0, 0, 0] 4 K).set 12 n) 13 N = sigmaW ++ K ++ [n] ++ N := by
  match K, hK with
  | [k0, k1, k2, k3, k4, k5, k6, k7], _ =>
    match N, hN with
    | [n0, n1, n2], _ => rfl

set_option maxRecDepth 100000 in
set_option maxHeartbeats 4000000 in
theorem streamStart_any (b off c b2 off2 c2 : Nat) (key nonce : List Int) (n : Int) (w : World) (hk : Bs w (some ⟨b, off, none⟩) 32 key) (hc : 32 ≤ c) (hn : Bs w (some ⟨b2, off2, none⟩) 12 nonce) (hc2 : 12 ≤ c2) (h0 : 0 ≤ n ∧ n < 4294967296) :
    Calls Tryz.prog 216 #[.slice (some ⟨b, off, none⟩) 32 c, .int .u32 n, .slice (some ⟨b2, off2, none⟩) 12 c2] w fun e w' => e = .returned (.agg ((startW key n nonce).map (Value.int .u32)).toArray) ∧ Below w.heap.size w w' := by
  have hst : startW key n nonce = laidOver ((laidOver [1634760805, 857760878, 2036477234, 1797285236, 0, 0, 0, 0, 0, 0, 0, 0, 0, 0, 0, 0] 4 (wordsLow key 8)).set 12 n) 13 (wordsLow nonce 3) := by
    rw [start_laid _ _ _ (wordsLow_len _ _) (wordsLow_len _ _)]
    unfold startW
    rw [Int.emod_eq_of_lt h0.1 h0.2]
  have hl1 := laidOver_len [1634760805, 857760878, 2036477234, 1797285236, 0, 0, 0, 0, 0, 0, 0, 0, 0, 0, 0, 0] (wordsLow key 8) 4 (by rw [wordsLow_len]; simp)
  have hl2 : (startW key n nonce).length = 16 := startW_len _ _ _
  have HK := Shut.mk (wordsLow_len key 8)
  have HN := Shut.mk (wordsLow_len nonce 3)
  have G1 := Shut.mk (fun W (hW : Bs W (some ⟨b, off, none⟩) 32 key) => wordsLow_any b off 32 c 8 key W hW rfl (by omega) hc)
  have G2 := Shut.mk (fun W (hW : Bs W (some ⟨b2, off2, none⟩) 12 nonce) => wordsLow_any b2 off2 12 c2 3 nonce W hW rfl (by omega) hc2)
  generalize startW key n nonce = ST at *
  have HST := Shut.mk hst
  have HL1 := Shut.mk hl1
  have HL2 := Shut.mk hl2
  generalize wordsLow key 8 = K at *
  generalize wordsLow nonce 3 = N at *
  clear hst hl1 hl2
  have k1 : KB .u32 206 ((w.alloc (.cells #[.int .u32 0, .int .u32 0, .int .u32 0, .int .u32 0, .int .u32 0, .int .u32 0, .int .u32 0, .int .u32 0, .int .u32 0, .int .u32 0, .int .u32 0, .int .u32 0, .int .u32 0, .int .u32 0, .int .u32 0, .int .u32 0] 206)).alloc (.cells #[.int .u32 1634760805, .int .u32 857760878, .int .u32 2036477234, .int .u32 1797285236, .int .u32 0, .int .u32 0, .int .u32 0, .int .u32 0, .int .u32 0, .int .u32 0, .int .u32 0, .int .u32 0, .int .u32 0, .int .u32 0, .int .u32 0, .int .u32 0] 206)) (w.heap.size + 1) [1634760805, 857760878, 2036477234, 1797285236, 0, 0, 0, 0, 0, 0, 0, 0, 0, 0, 0, 0] := by
    have := KB.new (k := .u32) (t := 206) (w.alloc (.cells #[.int .u32 0, .int .u32 0, .int .u32 0, .int .u32 0, .int .u32 0, .int .u32 0, .int .u32 0, .int .u32 0, .int .u32 0, .int .u32 0, .int .u32 0, .int .u32 0, .int .u32 0, .int .u32 0, .int .u32 0, .int .u32 0] 206)) [1634760805, 857760878, 2036477234, 1797285236, 0, 0, 0, 0, 0, 0, 0, 0, 0, 0, 0, 0] _ rfl
    rwa [World.size_alloc] at this
  have r0 : KB .u32 206 (w.alloc (.cells #[.int .u32 0, .int .u32 0, .int .u32 0, .int .u32 0, .int .u32 0, .int .u32 0, .int .u32 0, .int .u32 0, .int .u32 0, .int .u32 0, .int .u32 0, .int .u32 0, .int .u32 0, .int .u32 0, .int .u32 0, .int .u32 0] 206)) w.heap.size (List.replicate 16 0) := KB.new (t := 206) w (List.replicate 16 0) _ rfl
  have r1 := r0.below (ab (Below.refl _ (w.alloc (.cells #[.int .u32 0, .int .u32 0, .int .u32 0, .int .u32 0, .int .u32 0, .int .u32 0, .int .u32 0, .int .u32 0, .int .u32 0, .int .u32 0, .int .u32 0, .int .u32 0, .int .u32 0, .int .u32 0, .int .u32 0, .int .u32 0] 206))) (.cells #[.int .u32 1634760805, .int .u32 857760878, .int .u32 2036477234, .int .u32 1797285236, .int .u32 0, .int .u32 0, .int .u32 0, .int .u32 0, .int .u32 0, .int .u32 0, .int .u32 0, .int .u32 0, .int .u32 0, .int .u32 0, .int .u32 0, .int .u32 0] 206)) (by simp)
  have B1 := ab (ab (Below.refl _ w) (.cells #[.int .u32 0, .int .u32 0, .int .u32 0, .int .u32 0, .int .u32 0, .int .u32 0, .int .u32 0, .int .u32 0, .int .u32 0, .int .u32 0, .int .u32 0, .int .u32 0, .int .u32 0, .int .u32 0, .int .u32 0, .int .u32 0] 206)) (.cells #[.int .u32 1634760805, .int .u32 857760878, .int .u32 2036477234, .int .u32 1797285236, .int .u32 0, .int .u32 0, .int .u32 0, .int .u32 0, .int .u32 0, .int .u32 0, .int .u32 0, .int .u32 0, .int .u32 0, .int .u32 0, .int .u32 0, .int .u32 0] 206)
  have p1 := hk.below B1
  have p2 := hn.below B1
  have z1 : ((w.alloc (.cells #[.int .u32 0, .int .u32 0, .int .u32 0, .int .u32 0, .int .u32 0, .int .u32 0, .int .u32 0, .int .u32 0, .int .u32 0, .int .u32 0, .int .u32 0, .int .u32 0, .int .u32 0, .int .u32 0, .int .u32 0, .int .u32 0] 206)).alloc (.cells #[.int .u32 1634760805, .int .u32 857760878, .int .u32 2036477234, .int .u32 1797285236, .int .u32 0, .int .u32 0, .int .u32 0, .int .u32 0, .int .u32 0, .int .u32 0, .int .u32 0, .int .u32 0, .int .u32 0, .int .u32 0, .int .u32 0, .int .u32 0] 206)).heap.size = w.heap.size + 2 := by simp
  obtain ⟨i12, n12⟩ : (12 : Int) < 16 ∧ (12 : Int).toNat = 12 := by omega
  go_enter Tryz.func216, Tryz.ntmps216
  go_wp2
  generalize (w.alloc (.cells #[.int .u32 0, .int .u32 0, .int .u32 0, .int .u32 0, .int .u32 0, .int .u32 0, .int .u32 0, .int .u32 0, .int .u32 0, .int .u32 0, .int .u32 0, .int .u32 0, .int .u32 0, .int .u32 0, .int .u32 0, .int .u32 0] 206)).alloc (.cells #[.int .u32 1634760805, .int .u32 857760878, .int .u32 2036477234, .int .u32 1797285236, .int .u32 0, .int .u32 0, .int .u32 0, .int .u32 0, .int .u32 0, .int .u32 0, .int .u32 0, .int .u32 0, .int .u32 0, .int .u32 0, .int .u32 0, .int .u32 0] 206) = w1 at *
  have B1d : Below w.heap.size w w1.drew := B1.drew
  have zd : w1.drew.heap.size = w.heap.size + 2 := z1
  have zd1 : w.heap.size + 1 < w1.drew.heap.size := by omega
  have zd2 : w.heap.size + 1 ≤ w1.drew.heap.size := by omega
  have p1d := p1.below (Below.refl w1.heap.size w1).drew
  have p2d := p2.below (Below.refl w1.heap.size w1).drew
  have Hfit : Shut (8 ≤ 8 ∧ 4 + 8 ≤ ([1634760805, 857760878, 2036477234, 1797285236, 0, 0, 0, 0, 0, 0, 0, 0, 0, 0, 0, 0]).length ∧ w.heap.size + 1 ≤ w.heap.size + 1) := ⟨by simp⟩
  go_region_law (first | (refine step_copyw rfl _ _ rfl _ 206 (w.heap.size + 1) 4 8 12 gk 8 ck _ K rfl rfl (k1.drew.below b3 zd1) hko HK.out Hfit.out.1 Hfit.out.2.1 (w.heap.size + 1) w1.drew (b3.mono zd2) Hfit.out.2.2 ?_; intro w4 k4 b4) | (go_simp; go_wp2_with (go_at_call 238; refine (G1.out _ p1d).mono ?_; rintro e w3 ⟨⟨v, rfl, hkr⟩, b3⟩; obtain ⟨gk, ck, rfl, hgk, hko⟩ := hkr.kow HK.out (by omega))))
  have r4 := r1.drew.below b4 (by omega)
  have B4 := B1d.trans (b4.mono (Nat.le_succ _))
  have h12 := k4.cell (i := 12) (by rw [HL1.out]; simp)
  have f12 := k4.frozen 12
  go_wp2
  have k5 := k4.set_ 12 n
  have r5 := r4.far (p := ⟨w.heap.size + 1, 12, none⟩) (by simp) (.int .u32 n)
  have B5 := B4.setCell (p := ⟨w.heap.size + 1, 12, none⟩) (by simp) (.int .u32 n)
  have p5 := hn.below B5
  have z5 : w.heap.size + 1 < (w4.setCell ⟨w.heap.size + 1, 12, none⟩ (.int .u32 n)).heap.size := by
    have := k5.lt
    exact this
  clear k4 r4 B4 h12 f12 b4 k1 r0 r1 B1 B1d p1 p2 p1d p2d z1 zd zd1 zd2 hkr hko b3
  generalize w4.setCell ⟨w.heap.size + 1, 12, none⟩ (.int .u32 n) = w5 at *
  have p5d := p5.below (Below.refl w5.heap.size w5).drew
  have zd1 : w.heap.size + 1 < w5.drew.heap.size := z5
  have zd2 : w.heap.size + 1 ≤ w5.drew.heap.size := Nat.le_of_lt zd1
  have Hfit2 : Shut (3 ≤ 3 ∧ 13 + 3 ≤ ((laidOver [1634760805, 857760878, 2036477234, 1797285236, 0, 0, 0, 0, 0, 0, 0, 0, 0, 0, 0, 0] 4 K).set 12 n).length ∧ w.heap.size + 1 ≤ w.heap.size + 1) := ⟨by rw [List.length_set, HL1.out]; simp⟩
  go_region_law (first | (refine step_copyw rfl _ _ rfl _ 206 (w.heap.size + 1) 13 3 3 gk2 3 ck2 _ N rfl rfl (k5.drew.below b6 zd1) hko2 HN.out Hfit2.out.1 Hfit2.out.2.1 (w.heap.size + 1) w5.drew (b6.mono zd2) Hfit2.out.2.2 ?_; intro w7 k7 b7) | (go_simp; go_wp2_with (go_at_call 238; refine (G2.out _ p5d).mono ?_; rintro e w6 ⟨⟨v2, rfl, hkr2⟩, b6⟩; obtain ⟨gk2, ck2, rfl, hgk2, hko2⟩ := hkr2.kow HN.out (by omega))))
  have r7 := (r5.drew.below b7 (by omega)).kow
  have B7 := B5.drew.trans (b7.mono (Nat.le_succ _))
  rw [← HST.out] at k7
  have k8 := k7.kow
  clear k7 k5 r5 b7 B5 p5 p5d hkr2 hko2 b6 HST
  obtain ⟨a0, a1, a2, a3, a4, a5, a6, a7, a8, a9, a10, a11, a12, a13, a14, a15, rfl⟩ := list16 ST HL2.out
  have F := k8.full16
  have E := KOw.full16 (show KOw .u32 w7 w.heap.size [0, 0, 0, 0, 0, 0, 0, 0, 0, 0, 0, 0, 0, 0, 0, 0] from r7)
  obtain ⟨c0, c1, c2, c3, c4, c5, c6, c7, c8, c9, c10, c11, c12, c13, c14, c15, f0, f1, f2, f3, f4, f5, f6, f7, f8, f9, f10, f11, f12, f13, f14, f15⟩ := F
  obtain ⟨d0, d1, d2, d3, d4, d5, d6, d7, d8, d9, d10, d11, d12, d13, d14, d15, g0, g1, g2, g3, g4, g5, g6, g7, g8, g9, g10, g11, g12, g13, g14, g15⟩ := E
  go_wp2
  have s16 := set16 rfl (show KOw .u32 w7 w.heap.size [0, 0, 0, 0, 0, 0, 0, 0, 0, 0, 0, 0, 0, 0, 0, 0] from r7) a0 a1 a2 a3 a4 a5 a6 a7 a8 a9 a10 a11 a12 a13 a14 a15
  have b16 := below16 B7 (Nat.le_refl w.heap.size) (.int .u32 a0) (.int .u32 a1) (.int .u32 a2) (.int .u32 a3) (.int .u32 a4) (.int .u32 a5) (.int .u32 a6) (.int .u32 a7) (.int .u32 a8) (.int .u32 a9) (.int .u32 a10) (.int .u32 a11) (.int .u32 a12) (.int .u32 a13) (.int .u32 a14) (.int .u32 a15)
  clear c0 c1 c2 c3 c4 c5 c6 c7 c8 c9 c10 c11 c12 c13 c14 c15 f0 f1 f2 f3 f4 f5 f6 f7 f8 f9 f10 f11 f12 f13 f14 f15 d0 d1 d2 d3 d4 d5 d6 d7 d8 d9 d10 d11 d12 d13 d14 d15 g0 g1 g2 g3 g4 g5 g6 g7 g8 g9 g10 g11 g12 g13 g14 g15
  generalize World.setCell _ ⟨w.heap.size, 15, none⟩ _ = W9 at *
  obtain ⟨c0, c1, c2, c3, c4, c5, c6, c7, c8, c9, c10, c11, c12, c13, c14, c15, f0, f1, f2, f3, f4, f5, f6, f7, f8, f9, f10, f11, f12, f13, f14, f15⟩ := s16.full16
  exact bodyPost_ret (v := .agg #[.int .u32 a0, .int .u32 a1, .int .u32 a2, .int .u32 a3, .int .u32 a4, .int .u32 a5, .int .u32 a6, .int .u32 a7, .int .u32 a8, .int .u32 a9, .int .u32 a10, .int .u32 a11, .int .u32 a12, .int .u32 a13, .int .u32 a14, .int .u32 a15]) (by simp [results, Tryz.results216, go_sem, c0, c1, c2, c3, c4, c5, c6, c7, c8, c9, c10, c11, c12, c13, c14, c15]) rfl ⟨rfl, b16⟩
end Go.Proofs.YtabhcolfkkfonaaGreatDoor
