/- The tag of a key and data, of the model. -/
import Derived.Test.YtpoiecdifhkegaaDoorPolyN
import Derived.Test.YtpoiecdifhkegaaDoorBase
namespace Go.Proofs.YtpoiecdifhkegaaDoor
open Go.RowKit

theorem l1Min_any (a b : Int) (w : World) : Calls Tryd.prog 69 #[.int .i64 a, .int .i64 b] w fun e w' => e = .returned (.int .i64 (if a < b then a else b)) ∧ w' = w := by
  by_cases h : a < b
  · rw [if_pos h]
    go_enter Tryd.func69, Tryd.ntmps69
    go_wp2
    go_ret
    exact ⟨rfl, rfl⟩
  · rw [if_neg h]
    go_enter Tryd.func69, Tryd.ntmps69
    go_wp2
    go_ret
    exact ⟨rfl, rfl⟩
/-- the bytes of block t of data of m bytes -/
def blkLen (m t : Nat) : Nat := if 16 * t + 16 < m then 16 else m - 16 * t
theorem min_blk (m t : Nat) (h : 16 * t < m) (w : World) : Calls Tryd.prog 69 #[.int .i64 (16 * (t : Int) + 16), .int .i64 (m : Int)] w fun e w' => e = .returned (.int .i64 (16 * (t : Int) + (blkLen m t : Int))) ∧ w' = w := by
  have := l1Min_any (16 * (t : Int) + 16) (m : Int) w
  rwa [show (if 16 * (t : Int) + 16 < (m : Int) then 16 * (t : Int) + 16 else (m : Int)) = 16 * (t : Int) + (blkLen m t : Int) from by
    unfold blkLen
    split <;> split <;> omega] at this
theorem blk_part (data : List Int) (m t : Nat) (h : data.length = m) : (data.drop (16 * t)).take (blkLen m t) = (data.drop (16 * t)).take 16 := by
  unfold blkLen
  split
  · rfl
  · rw [List.take_of_length_le (by rw [List.length_drop, h]; exact Nat.le_refl _), List.take_of_length_le (by rw [List.length_drop, h]; omega)]

set_option maxRecDepth 100000 in
set_option maxHeartbeats 4000000 in
theorem l3Poly_any (A : Option Addr) (c : Nat) (key : List Int) (A2 : Option Addr) (m c2 : Nat) (data : List Int) (w : World) (hk : Bs w A 32 key) (hc : 32 ≤ c) (hd : Bs w A2 m data) (hm : m ≤ 100000) (hc2 : m ≤ c2) :
    Calls Tryd.prog 53 #[.slice A 32 c, .slice A2 m c2] w fun e w' => (∃ A' c', e = .returned (.slice A' 16 c') ∧ Row w' w.heap.size (.slice A' 16 c') (polyTag key data)) ∧ Below w.heap.size w w' := by
  have Hd := Shut.mk hd.len
  have HT : Shut (polyTag key data = lowOf (polyAcc (lo (clampL (key.take 16))) data ((m + 15) / 16) + lo (key.drop 16)) 16) := ⟨by unfold polyTag; rw [hd.len]⟩
  have hcl := l3Clamp_any A 32 c key w hk (by omega) hc
  generalize polyTag key data = TG at *
  generalize hCL : clampL (key.take 16) = CL at *
  obtain ⟨bk, ok, rfl, hbk, _⟩ := hk.at_ (by omega)
  have hkd := hk.part_ 16 16 (by omega)
  rw [show (key.drop 16).take 16 = key.drop 16 from List.take_of_length_le (by rw [List.length_drop, hk.len]; omega)] at hkd
  generalize key.drop 16 = KD at *
  have hr : 0 ≤ lo CL ∧ lo CL < 1361129467683753853853498429727072845824 := by
    have h1 : By CL ∧ CL.length = 16 := by
      rw [← hCL]
      exact ⟨clampB_byte _ (fun x hx => hk.byte x (List.mem_of_mem_take hx)) 3, by unfold clampL; rw [clampB_len, List.length_take, hk.len]; rfl⟩
    have h2 := lo_bd CL h1.1
    rw [h1.2] at h2
    have : (256 : Int) ^ 16 = 340282366920938463463374607431768211456 := by decide
    omega
  clear hk hCL
  have Hacc : Shut (∀ t, polyAcc (lo CL) data (t + 1) = (polyAcc (lo CL) data t + polyBlk data t) * lo CL % pp) := ⟨fun _ => rfl⟩
  have Hbd : Shut (∀ t, 0 ≤ polyBlk data t ∧ polyBlk data t < 1361129467683753853853498429727072845824) := ⟨polyBlk_bd data hd.byte⟩
  have Hblk : Shut (∀ t, polyBlk data t = lo ((data.drop (16 * t)).take 16 ++ [1])) := ⟨fun _ => rfl⟩
  have Hp0 : Pre (limbs 0) (polyAcc (lo CL) data 0) := pre_zero
  generalize hR : lo CL = R at *
  go_enter Tryd.func53, Tryd.ntmps53
  go_wp2_with fail
  refine hcl.mono ?_
  clear hcl
  rintro e w1 ⟨⟨g1, c1, rfl, hg1, how1⟩, hb1⟩
  have hs1 := hb1.size
  go_wp2_with fail
  refine (l3Limbs_any _ 16 _ CL w1 how1.bs (by omega) (by omega)).mono ?_
  rintro e w2 ⟨⟨gr, cr, rfl, hgr, kr⟩, hb2⟩
  rw [hR] at kr
  have hs2 := hb2.size
  clear how1
  have hmk := run_make_five w2
  have hkb := five_kb w2
  have B2 := (ac hb1 hb2)
  have hgl := kr.lt
  have hs12 : w.heap.size ≤ w2.heap.size := by omega
  clear hb1 hb2 hs1
  go_wp2
  go_loopw [6, 7] (fun h i wr => ∃ (t g ch : Nat) (H : List Int), 16 * t < m + 16 ∧ i = .int .i64 (16 * (t : Int)) ∧ h = .slice (some ⟨g, 0, none⟩) 5 ch ∧ w2.heap.size ≤ g ∧ KOw .u64 wr g H ∧ Pre H (polyAcc R data t) ∧ Below w2.heap.size w2 wr) (fun _ i _ => m + 16 - (intOf i).toNat)
  case atStart => exact ⟨0, _, _, _, by omega, rfl, rfl, Nat.le_refl _, hkb.kow, Hp0, ab (Below.refl _ _) _⟩
  case round =>
    clear hkb hmk Hp0
    obtain ⟨t, g, ch, H, ht, rfl, rfl, hg, hv, hpre, hbel⟩ := hrel
    have hsz := hbel.size
    have Bw := B2.trans (hbel.mono (by omega))
    have hkr := kr.below hbel hgl
    by_cases hlt : 16 * t < m
    · obtain ⟨b2, o2, rfl, hb2l, _⟩ := hd.at_ (by omega)
      have hpart := (hd.below Bw).part_ (16 * t) (blkLen m t) (by unfold blkLen; split <;> omega)
      rw [blk_part data m t Hd.out] at hpart
      have hmin := min_blk m t hlt wr
      have hL : 0 < blkLen m t ∧ blkLen m t ≤ 16 ∧ 16 * t + blkLen m t ≤ m := by unfold blkLen; split <;> omega
      have HL := Shut.mk hpart.len
      have hacc := Hacc.out t
      have hbd := Hbd.out t
      have hblk := Hblk.out t
      rw [hblk] at hacc hbd
      generalize (data.drop (16 * t)).take 16 = D at *
      generalize blkLen m t = L at *
      have Ha := Shut.mk hacc
      obtain ⟨wh, rfl⟩ : ∃ x, x = wr := ⟨_, rfl⟩
      clear hacc hblk Hacc Hbd Hblk
      go_wp2_with fail
      refine hmin.mono ?_
      rintro e w3 ⟨rfl, rfl⟩
      clear hmin
      go_wp2_with fail
      refine (copyb_any _ L _ D w3 hpart (fun e => by cases e) (by omega)).mono ?_
      rintro e w4 ⟨⟨A4, c4, rfl, hr4⟩, hb4⟩
      have hs4 := hb4.size
      go_wp2_with (at_builtin; refine wpList_row_append rfl _ _ rfl _ w3.heap.size (.slice A4 L c4) _ rfl (hr4.alloc _) (by simp; omega) ⟨w4.heap.size, 0, none⟩ 1 1 rfl (cell_one _ _ _) (by omega) (by omega) (by rw [HL.out]; omega) ?_; intro v5 w5 hr5 hb5 hs5; obtain ⟨A5, c5, rfl, how5⟩ := hr5.ow (n := L + 1) (by rw [List.length_append, HL.out]; rfl))
      have hs5' : w4.heap.size < w5.heap.size := by rw [World.size_alloc] at hs5; omega
      have B5 : Below w3.heap.size w3 w5 := (ab hb4 _).trans hb5
      clear hr4 hb4 hb5 hr5 hs5
      refine (l3Limbs_any A5 (L + 1) c5 (D ++ [1]) w5 how5.bs (by omega) (fun e => by
        have e16 : L = 16 := by omega
        rw [List.getD, List.getElem?_append_right (by rw [HL.out]; omega), HL.out, e16]
        decide)).mono ?_
      rintro e w6 ⟨⟨gn, cn, rfl, hgn, kn⟩, hb6⟩
      have hs6 := hb6.size
      have B6 : Below w3.heap.size w3 w6 := ac B5 hb6
      have hv6 := hv.below B6 hv.lt
      have hkr6 := hkr.below B6 hkr.lt
      have hgl3 := hv.lt
      have hus : Shut (∀ k, k ≤ 5 → (addTo H (limbs (lo (D ++ [1]))) k).length = 5 ∧ ∀ i, 0 ≤ (addTo H (limbs (lo (D ++ [1]))) k).getD i 0 ∧ (addTo H (limbs (lo (D ++ [1]))) k).getD i 0 ≤ 268435456) := ⟨fun k hk => add_upto H _ _ hpre hbd.1 hbd.2 k hk⟩
      have hps := poly_step H _ _ R hpre hbd.1 hbd.2 hr.1 hr.2
      rw [← Ha.out] at hps
      have hMu := limbs_upto _ hbd.1 hbd.2
      have hRu := limbs_upto _ hr.1 hr.2
      have Hadd : Shut (∀ k, addTo H (limbs (lo (D ++ [1]))) (k + 1) = (addTo H (limbs (lo (D ++ [1]))) k).set k ((addTo H (limbs (lo (D ++ [1]))) k).getD k 0 + (limbs (lo (D ++ [1]))).getD k 0)) := ⟨fun _ => rfl⟩
      have hv0 : KOw .u64 w6 g (addTo H (limbs (lo (D ++ [1]))) 0) := hv6
      obtain ⟨m0, hm0⟩ : ∃ M, limbs (lo (D ++ [1])) = M := ⟨_, rfl⟩
      rw [hm0] at hps hMu kn hv0
      rw [hm0] at hus Hadd
      clear hm0 hv6 how5 hbd hpre B5 hv hkr Ha
      go_wp2
      go_loopw [10] (fun i wq => ∃ k : Nat, k ≤ 5 ∧ i = .int .i64 (k : Int) ∧ KOw .u64 wq g (addTo H m0 k) ∧ But g w6.heap.size w6 wq) (fun i _ => 5 - (intOf i).toNat)
      case atStart => exact ⟨0, by omega, rfl, hv0, But.refl _ _ _⟩
      case round =>
        clear hv0
        obtain ⟨k, hk5, rfl, hv, hbut⟩ := hrel
        have hkn := kn.keep (hbut.block gn kn.lt (by omega)) hbut.size
        by_cases hlk : k < 5
        · have hs := Hadd.out k
          have hu := hus.out k (by omega)
          have q0 := hv.cell k (by rw [hu.1]; omega)
          have f0 := hv.frozen k
          have q1 := hkn.cell k (by rw [hMu.len]; omega)
          have hb0 := hu.2 k
          have hb1 := hMu.bd k
          have hset := fun x => hv.set_ k (by rw [hu.1]; omega) x
          have hk6 : (k : Int) < 5 := by omega
          clear hu
          generalize (addTo H m0 k).getD k 0 = X at *
          generalize m0.getD k 0 = Y at *
          have Hs := Shut.mk hs
          clear hs hps Hadd hus
          go_wp2
          go_region
          all_goals
            go_wp2
            exact ⟨⟨k + 1, by omega, by go_num, KOw.of_eq Hs.out (hset _).drew, (hbut.setCell _ _).drewN 1⟩, by simp [intOf]; omega⟩
        · obtain rfl : k = 5 := by omega
          have hu := hus.out 5 (by omega)
          have hkr7 := hkr6.keep (hbut.block gr hkr6.lt (by omega)) hbut.size
          have hsq := hbut.size
          have Bq : Below w2.heap.size w2 wr := (hbel.trans (B6.mono hsz)).trans (hbut.below (by omega) hg)
          have hmul := l3Mul_any g ch gr cr (addTo H m0 5) (limbs R) wr hv hkr7 ⟨hu.1, hu.2⟩ hRu hps.1
          have hnext := hps.2
          generalize carL (carL (mulTo (addTo H m0 5) (limbs R) 5)) = F at *
          obtain ⟨wi, rfl⟩ : ∃ x, x = wr := ⟨_, rfl⟩
          clear hv hbut hkn hkr7 hu hus Hadd hps kn hkr6 B6 hbel
          go_wp2_with fail
          refine hmul.mono ?_
          rintro e w8 ⟨⟨g8, c8, rfl, hg8, k8⟩, hb8⟩
          clear hmul
          go_wp2
          exact ⟨⟨t + 1, g8, c8, F, by omega, by go_num, rfl, by omega, k8, hnext, Bq.trans (hb8.mono (by omega))⟩, by simp [intOf]; omega⟩
    · have hT : (m + 15) / 16 = t := by omega
      rw [hT] at HT
      have hnm := pre_norm H _ hpre
      have hlst := l3Least_any g ch H _ wr.drew hv.drew (pre_five H _ hpre) rfl hnm.1
      rw [hnm.2] at hlst
      have hab := polyAcc_bd R data t
      generalize polyAcc R data t = N at *
      have hN1 : N < 1361129467683753853853498429727072845824 := by have := hab.2; unfold pp at this; omega
      have hkd2 := hkd.below Bw
      have hgl3 := hv.lt
      have hbkg : bk ≠ g := by omega
      have hbkw : bk < wr.heap.size := by omega
      have hwr : w.heap.size ≤ wr.heap.size := by omega
      have hwg : w.heap.size ≤ g := by omega
      have hkd3 : Bs wr.drew (some ⟨bk, ok + 16, none⟩) 16 KD := hkd2.drewN 1
      have Bd : Below w.heap.size w wr.drew := Bw.drew
      have hc16 : ¬ c = 16 := by omega
      clear hv hpre hkr hnm Hacc Hbd Hblk
      go_wp2
      go_region_law (first
        | (go_simp; go_at_call 72; refine hlst.mono ?_; rintro e w8 ⟨⟨g8, c8, rfl, hg8, k8⟩, hb8⟩; have hs8 : wr.heap.size ≤ w8.heap.size := hb8.size; have hkd8 := hkd3.block (hb8.block bk hbkw hbkg) hs8; have B8 : Below w.heap.size w w8 := Bd.trans (hb8.below hwr hwg))
        | (go_simp; go_at_call 71; refine (l3Out_any g8 c8 N (some ⟨bk, ok + 16, none⟩) (c - 16) KD w8 k8 hab.1 hN1 hkd8).mono ?_; rintro e w9 ⟨⟨A9, c9, rfl, hr9⟩, hb9⟩))
      all_goals
        rw [← HT.out] at hr9
        go_wp2
        go_ret
        exact ⟨⟨A9, c9, rfl, hr9.mono B8.size⟩, B8.trans (hb9.mono B8.size)⟩
end Go.Proofs.YtpoiecdifhkegaaDoor
