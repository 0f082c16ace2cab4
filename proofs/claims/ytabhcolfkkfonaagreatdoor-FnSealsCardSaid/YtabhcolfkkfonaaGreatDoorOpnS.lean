/- OpenCell of the model. -/
import Derived.Test.YtabhcolfkkfonaaGreatDoorOpnC
import Derived.Deep.RegionHeld3
import Derived.Deep.CutRange
namespace Go.Proofs.YtabhcolfkkfonaaGreatDoor
open Go.RowKit

/-- a wire of the right size, in two parts -/
theorem wire_parts {w : World} {b off : Nat} {wire : List Int} (h : Bs w (some ⟨b, off, none⟩) 64 wire) : Bs w (some ⟨b, off, none⟩) 4 (wire.take 4) ∧ Bs w (some ⟨b, off + 4, none⟩) 60 (opBox wire) := by
  have h1 := h.part_ 0 4 (by omega)
  have h2 := h.part_ 4 60 (by omega)
  rw [Nat.add_zero, List.drop_zero] at h1
  rw [show (wire.drop 4).take 60 = wire.drop 4 from List.take_of_length_le (by rw [List.length_drop, h.len]; omega)] at h2
  exact ⟨h1, h2⟩
theorem opText_len {w : World} {A : Option Addr} {wire : List Int} (key : List Int) (s : Int) (h : Bs w A 64 wire) : (opText key wire s).length = 44 := by
  unfold opText opBox
  rw [streamL_len, List.length_take, List.length_drop, h.len]
  rfl

set_option maxRecDepth 100000 in
set_option maxHeartbeats 4000000 in
theorem specOpen_sum (K : Option Addr) (kc : Nat) (key : List Int) (b off mc : Nat) (wire : List Int) (s : Int) (p : List Int) (w : World) (hk : Bs w K 32 key) (hkc : 32 ≤ kc) (hA : Bs w (some ⟨b, off, none⟩) 64 wire) (hm : 64 ≤ mc) (h0 : slotC 64 wire = 0) (h1 : slotV 64 wire = s) (hs : 0 ≤ s ∧ s ≤ 400) (ht : ¬ opTag key wire s) :
    Calls Tryz.prog 45 #[.slice K 32 kc, .slice (some ⟨b, off, none⟩) 64 mc] w (OpnAns 6 false s p w) := by
  have cs := Shut.mk (fun (W : World) (hW : Below w.heap.size w W) => specSlotOf_any (some ⟨b, off, none⟩) 64 mc wire W (hA.below hW) hm)
  rw [h0, h1] at cs
  obtain ⟨p1, p2⟩ := wire_parts hA
  have HL := Shut.mk (opText_len key s hA)
  have CO := Shut.mk (fun (A2 : Option Addr) (c2 : Nat) (W : World) (hW : Below w.heap.size w W) (h2 : Bs W A2 12 (nonceL s)) (k2 : 12 ≤ c2) => l3Open_any K kc key A2 c2 (nonceL s) (some ⟨b, off, none⟩) 4 mc (wire.take 4) (some ⟨b, off + 4, none⟩) 44 (mc - 4) (opBox wire) W (hk.below hW) hkc h2 k2 (p1.below hW) (by omega) (fun e => by cases e) (p2.below hW) (by omega) (by omega))
  have ht' : ¬ (boxTag key (nonceL s) (wire.take 4) ((opBox wire).take 44) = (opBox wire).drop 44) := ht
  simp only [if_neg ht'] at CO
  have hbo := hA.at_
  have c0 : ¬ mc = 0 := by omega
  have c1 : (4 : Int) ≤ (mc : Int) := by omega
  have c2 : ¬ mc = 4 := by omega
  have c3 : (64 : Int) ≤ (mc : Int) := by omega
  have T0 := Stc.new w 60 [.int .i64 0, .int .i64 0, .int .i64 0, .int .i64 0, .int .i64 0, .int .i64 0, .bool false, .slice none 0 0] _ rfl
  have B0 := ab (Below.refl _ w) (.cells #[.int .i64 0, .int .i64 0, .int .i64 0, .int .i64 0, .int .i64 0, .int .i64 0, .bool false, .slice none 0 0] 60)
  have hs0 := hs.1
  have hs1 := hs.2
  clear ht' ht hA hk p1 p2 h0 h1 hbo hs
  generalize opText key wire s = X at *
  go_enter Tryz.func45, Tryz.ntmps45
  go_wp2_with fail
  refine (cs.out _ B0).mono ?_
  rintro e w1 ⟨rfl, b1⟩
  have B1 := ac B0 b1
  replace T0 := T0.below b1 T0.lt
  clear B0 b1 cs
  go_upto_region 4 with (fail)
  generalize hq : (w1.alloc (.cells #[.int .i64 0, .int .i64 s] 49)) = w2 at *
  have D2 : Stc w2 w1.heap.size [.int .i64 0, .int .i64 s] 49 := by rw [← hq]; exact Stc.new w1 _ _ _ rfl
  have T2 : Stc w2 w.heap.size [.int .i64 0, .int .i64 0, .int .i64 0, .int .i64 0, .int .i64 0, .int .i64 0, .bool false, .slice none 0 0] 60 := by rw [← hq]; exact T0.alloc _
  have B2 : Below w.heap.size w w2 := by rw [← hq]; exact ab B1 _
  have zl : w.heap.size < w1.heap.size := T0.lt
  clear hq T0 B1
  have d0 := D2.cell (i := 0) rfl
  have d1 := D2.cell (i := 1) rfl
  have lD := D2.lt
  have hWW := Below.refl w2.heap.size w2
  have XN : Shut (∀ W : World, (W.cell? ⟨w1.heap.size, 1, none⟩ = some (.int .i64 s) ∧ Below w2.heap.size w2 W) → Calls Tryz.prog 124 #[.int .i64 s] W fun e w' => (∃ A' c', e = .returned (.slice A' 12 c') ∧ Bs w' A' 12 (nonceL s) ∧ 12 ≤ c') ∧ w'.cell? ⟨w1.heap.size, 1, none⟩ = some (.int .i64 s) ∧ Below w2.heap.size w2 w') := by
    refine ⟨fun W ⟨_, hW⟩ => (l5Nonce_any s W hs0 (by omega)).mono ?_⟩
    rintro e w' ⟨⟨A', c', rfl, o, k, _⟩, hb⟩
    exact ⟨⟨A', c', rfl, o.bs, k⟩, (D2.below (ac hW hb) lD).cell (i := 1) rfl, ac hW hb⟩
  have XO : Shut (∀ (A2 : Option Addr) (c2 : Nat) (W : World), (W.cell? ⟨w1.heap.size, 1, none⟩ = some (.int .i64 s) ∧ Below w2.heap.size w2 W) → Bs W A2 12 (nonceL s) → 12 ≤ c2 → Calls Tryz.prog 123 #[.slice K 32 kc, .slice A2 12 c2, .slice (some ⟨b, off, none⟩) 4 mc, .slice (some ⟨b, off + 4, none⟩) 60 (mc - 4)] W fun e w' => (e = .returned (.tuple #[.slice none 0 0, .bool false])) ∧ w2.heap.size ≤ W.heap.size ∧ w'.cell? ⟨w1.heap.size, 1, none⟩ = some (.int .i64 s) ∧ Below w2.heap.size w2 w') := by
    refine ⟨fun A2 c2 W ⟨_, hW⟩ h2 k2 => (CO.out A2 c2 W (ac B2 hW) h2 k2).mono ?_⟩
    rintro e w' ⟨r, hb⟩
    exact ⟨r, hW.size, (D2.below (ac hW hb) lD).cell (i := 1) rfl, ac hW hb⟩
  clear CO
  go_wp2_with fail
  go_region_held3 (fun W => W.cell? ⟨w1.heap.size, 1, none⟩ = some (.int .i64 s) ∧ Below w2.heap.size w2 W)
    (first | (exact ⟨by with_reducible assumption, by with_reducible assumption⟩) | (exact ⟨d1, hWW.drew⟩) | (exact ⟨d1, hWW⟩) | go_keep)
    (first
      | (go_at_call 124; refine (XN.out _ ?_).mono ?_; (first | with_reducible assumption | (simp [*]; done)); rintro e w3 ⟨⟨A3, c3, rfl, o3, k3⟩, z0, z1⟩)
      | (go_at_call 123; refine (XO.out _ _ _ ?_ ?_ ?_).mono ?_; (first | with_reducible assumption | (simp [*]; done)); exact o3; exact k3; rintro e w4 ⟨rfl, hsz, y0, y1⟩))
  replace T2 := T2.below y1 T2.lt
  have B4 := ac B2 y1
  clear XN XO z0 z1 y0 d0 d1 D2 o3 k3 hWW
  have t0 := T2.cell (i := 0) rfl
  have t1 := T2.cell (i := 1) rfl
  have t2 := T2.cell (i := 2) rfl
  have t3 := T2.cell (i := 3) rfl
  have t4 := T2.cell (i := 4) rfl
  have t5 := T2.cell (i := 5) rfl
  have t6 := T2.cell (i := 6) rfl
  have t7 := T2.cell (i := 7) rfl
  have tf := T2.frozen
  go_wp2
  refine bodyPost_ret (v := .agg #[.int .i64 6, .int .i64 0, .int .i64 0, .int .i64 0, .int .i64 0, .int .i64 0, .bool false, .slice none 0 0]) (by simp [results, Tryz.results45, go_sem, t0, t1, t2, t3, t4, t5, t6, t7]) rfl ?_
  exact OpnAns.no rfl ((((((((B4.setCell (by simp) _).setCell (by simp) _).setCell (by simp) _).setCell (by simp) _).setCell (by simp) _).setCell (by simp) _).setCell (by simp) _).setCell (by simp) _)

set_option maxRecDepth 100000 in
set_option maxHeartbeats 4000000 in
theorem specOpen_box (K : Option Addr) (kc : Nat) (key : List Int) (b off mc : Nat) (wire : List Int) (s : Int) (w : World) (hk : Bs w K 32 key) (hkc : 32 ≤ kc) (hA : Bs w (some ⟨b, off, none⟩) 64 wire) (hm : 64 ≤ mc) (h0 : slotC 64 wire = 0) (h1 : slotV 64 wire = s) (hs : 0 ≤ s ∧ s ≤ 400) (ht : opTag key wire s) :
    Calls Tryz.prog 45 #[.slice K 32 kc, .slice (some ⟨b, off, none⟩) 64 mc] w (OpnAns (decCode 44 (opText key wire s)) (decOk (opText key wire s)) s (opText key wire s) w) := by
  have cs := Shut.mk (fun (W : World) (hW : Below w.heap.size w W) => specSlotOf_any (some ⟨b, off, none⟩) 64 mc wire W (hA.below hW) hm)
  rw [h0, h1] at cs
  obtain ⟨p1, p2⟩ := wire_parts hA
  have HL := Shut.mk (opText_len key s hA)
  have CO := Shut.mk (fun (A2 : Option Addr) (c2 : Nat) (W : World) (hW : Below w.heap.size w W) (h2 : Bs W A2 12 (nonceL s)) (k2 : 12 ≤ c2) => l3Open_any K kc key A2 c2 (nonceL s) (some ⟨b, off, none⟩) 4 mc (wire.take 4) (some ⟨b, off + 4, none⟩) 44 (mc - 4) (opBox wire) W (hk.below hW) hkc h2 k2 (p1.below hW) (by omega) (fun e => by cases e) (p2.below hW) (by omega) (by omega))
  have ht' : boxTag key (nonceL s) (wire.take 4) ((opBox wire).take 44) = (opBox wire).drop 44 := ht
  simp only [if_pos ht'] at CO
  rw [show streamL key 1 (nonceL s) ((opBox wire).take 44) = opText key wire s from rfl] at CO
  have hbo := hA.at_
  have c0 : ¬ mc = 0 := by omega
  have c1 : (4 : Int) ≤ (mc : Int) := by omega
  have c2 : ¬ mc = 4 := by omega
  have c3 : (64 : Int) ≤ (mc : Int) := by omega
  have T0 := Stc.new w 60 [.int .i64 0, .int .i64 0, .int .i64 0, .int .i64 0, .int .i64 0, .int .i64 0, .bool false, .slice none 0 0] _ rfl
  have B0 := ab (Below.refl _ w) (.cells #[.int .i64 0, .int .i64 0, .int .i64 0, .int .i64 0, .int .i64 0, .int .i64 0, .bool false, .slice none 0 0] 60)
  have hs0 := hs.1
  have hs1 := hs.2
  clear ht' ht hA hk p1 p2 h0 h1 hbo hs
  generalize opText key wire s = X at *
  go_enter Tryz.func45, Tryz.ntmps45
  go_wp2_with fail
  refine (cs.out _ B0).mono ?_
  rintro e w1 ⟨rfl, b1⟩
  have B1 := ac B0 b1
  replace T0 := T0.below b1 T0.lt
  clear B0 b1 cs
  go_upto_region 4 with (fail)
  generalize hq : (w1.alloc (.cells #[.int .i64 0, .int .i64 s] 49)) = w2 at *
  have D2 : Stc w2 w1.heap.size [.int .i64 0, .int .i64 s] 49 := by rw [← hq]; exact Stc.new w1 _ _ _ rfl
  have T2 : Stc w2 w.heap.size [.int .i64 0, .int .i64 0, .int .i64 0, .int .i64 0, .int .i64 0, .int .i64 0, .bool false, .slice none 0 0] 60 := by rw [← hq]; exact T0.alloc _
  have B2 : Below w.heap.size w w2 := by rw [← hq]; exact ab B1 _
  have zl : w.heap.size < w1.heap.size := T0.lt
  clear hq T0 B1
  have d0 := D2.cell (i := 0) rfl
  have d1 := D2.cell (i := 1) rfl
  have lD := D2.lt
  have hWW := Below.refl w2.heap.size w2
  have XN : Shut (∀ W : World, (W.cell? ⟨w1.heap.size, 1, none⟩ = some (.int .i64 s) ∧ Below w2.heap.size w2 W) → Calls Tryz.prog 124 #[.int .i64 s] W fun e w' => (∃ A' c', e = .returned (.slice A' 12 c') ∧ Bs w' A' 12 (nonceL s) ∧ 12 ≤ c') ∧ w'.cell? ⟨w1.heap.size, 1, none⟩ = some (.int .i64 s) ∧ Below w2.heap.size w2 w') := by
    refine ⟨fun W ⟨_, hW⟩ => (l5Nonce_any s W hs0 (by omega)).mono ?_⟩
    rintro e w' ⟨⟨A', c', rfl, o, k, _⟩, hb⟩
    exact ⟨⟨A', c', rfl, o.bs, k⟩, (D2.below (ac hW hb) lD).cell (i := 1) rfl, ac hW hb⟩
  have XO : Shut (∀ (A2 : Option Addr) (c2 : Nat) (W : World), (W.cell? ⟨w1.heap.size, 1, none⟩ = some (.int .i64 s) ∧ Below w2.heap.size w2 W) → Bs W A2 12 (nonceL s) → 12 ≤ c2 → Calls Tryz.prog 123 #[.slice K 32 kc, .slice A2 12 c2, .slice (some ⟨b, off, none⟩) 4 mc, .slice (some ⟨b, off + 4, none⟩) 60 (mc - 4)] W fun e w' => (∃ A' c', e = .returned (.tuple #[.slice A' 44 c', .bool true]) ∧ Row w' W.heap.size (.slice A' 44 c') X) ∧ w2.heap.size ≤ W.heap.size ∧ w'.cell? ⟨w1.heap.size, 1, none⟩ = some (.int .i64 s) ∧ Below w2.heap.size w2 w') := by
    refine ⟨fun A2 c2 W ⟨_, hW⟩ h2 k2 => (CO.out A2 c2 W (ac B2 hW) h2 k2).mono ?_⟩
    rintro e w' ⟨r, hb⟩
    exact ⟨r, hW.size, (D2.below (ac hW hb) lD).cell (i := 1) rfl, ac hW hb⟩
  clear CO
  go_wp2_with fail
  go_region_held3 (fun W => W.cell? ⟨w1.heap.size, 1, none⟩ = some (.int .i64 s) ∧ Below w2.heap.size w2 W)
    (first | (exact ⟨by with_reducible assumption, by with_reducible assumption⟩) | (exact ⟨d1, hWW.drew⟩) | (exact ⟨d1, hWW⟩) | go_keep)
    (first
      | (go_at_call 124; refine (XN.out _ ?_).mono ?_; (first | with_reducible assumption | (simp [*]; done)); rintro e w3 ⟨⟨A3, c3, rfl, o3, k3⟩, z0, z1⟩)
      | (go_at_call 123; refine (XO.out _ _ _ ?_ ?_ ?_).mono ?_; (first | with_reducible assumption | (simp [*]; done)); exact o3; exact k3; rintro e w4 ⟨⟨A', c', rfl, row⟩, hsz, y0, y1⟩))
  replace T2 := T2.below y1 T2.lt
  replace D2 := D2.below y1 D2.lt
  have B4 := ac B2 y1
  obtain ⟨g, rfl, hgB, hgl, _⟩ := (row.ow' HL.out).at_ (by omega)
  have hcp := row.capX.1
  have CD := Shut.mk (specDecodeCell_any g 44 c' X _ (row.ow' HL.out).bs hcp)
  rw [show decD 44 X = decOk X by simp [decD]] at CD
  clear XN XO z0 z1 y0 y1 d0 d1 o3 k3 hWW row hsz
  go_wp2_with fail
  refine CD.out.mono ?_
  rintro e w5 ⟨⟨A5, f5, rfl, R5, k5, j5⟩, b5⟩
  have HN : Shut (¬ decCode 44 X = 0 → decOk X = false) := ⟨fun h => by
    cases ho : decOk X with
    | false => rfl
    | true => exact absurd (by simp [decCode, ho]) h⟩
  have HY : Shut (decCode 44 X = 0 → decOk X = true) := ⟨fun h => by
    cases ho : decOk X with
    | true => rfl
    | false => exact absurd h (by simp [decCode, ho])⟩
  have zT4 := T2.lt
  replace T2 := T2.below b5 T2.lt
  replace D2 := D2.below b5 D2.lt
  have B5 := ac B4 b5
  have z5 := b5.size
  have zT := T2.lt
  have zD := D2.lt
  clear b5 B4 CD
  by_cases hz : decCode 44 X = 0
  · have ho := HY.out hz
    have HZ := Shut.mk hz
    have HO := Shut.mk ho
    obtain ⟨K1, h1⟩ : ∃ x, x = selI true (fK X) := ⟨_, rfl⟩
    obtain ⟨K2, h2⟩ : ∃ x, x = selI true (fS X) := ⟨_, rfl⟩
    obtain ⟨K3, h3⟩ : ∃ x, x = selI true (fA X) := ⟨_, rfl⟩
    obtain ⟨K4, h4⟩ : ∃ x, x = selI true (fM X) := ⟨_, rfl⟩
    obtain ⟨K5, h5⟩ : ∃ x, x = selB true (fL X) := ⟨_, rfl⟩
    obtain ⟨N6, h6⟩ : ∃ x, x = selN true (fZ X).toNat := ⟨_, rfl⟩
    obtain ⟨L6, h7⟩ : ∃ x, x = selL true (fB X (fZ X).toNat) := ⟨_, rfl⟩
    rw [ho, ← h6, ← h7] at R5
    rw [ho, ← h6] at k5
    rw [hz, ho, ← h1, ← h2, ← h3, ← h4, ← h5, ← h6]
    have HH := Shut.mk (⟨h1, h2, h3, h4, h5, h6, h7⟩ : K1 = selI true (fK X) ∧ K2 = selI true (fS X) ∧ K3 = selI true (fA X) ∧ K4 = selI true (fM X) ∧ K5 = selB true (fL X) ∧ N6 = selN true (fZ X).toNat ∧ L6 = selL true (fB X (fZ X).toNat))
    clear hz ho HN HY h1 h2 h3 h4 h5 h6 h7
    go_upto_region 10 with (fail)
    generalize hq : (w5.alloc (.cells #[.int .i64 0, .int .i64 0, .int .i64 K1, .int .i64 K2, .int .i64 K3, .int .i64 K4, .bool K5, .slice A5 N6 f5] 60)) = w6 at *
    have E6 : Stc w6 w5.heap.size [.int .i64 0, .int .i64 0, .int .i64 K1, .int .i64 K2, .int .i64 K3, .int .i64 K4, .bool K5, .slice A5 N6 f5] 60 := by rw [← hq]; exact Stc.new w5 _ _ _ rfl
    have T6 := T2.alloc (.cells #[.int .i64 0, .int .i64 0, .int .i64 K1, .int .i64 K2, .int .i64 K3, .int .i64 K4, .bool K5, .slice A5 N6 f5] 60)
    have D6 := D2.alloc (.cells #[.int .i64 0, .int .i64 0, .int .i64 K1, .int .i64 K2, .int .i64 K3, .int .i64 K4, .bool K5, .slice A5 N6 f5] 60)
    have R6 := R5.alloc (.cells #[.int .i64 0, .int .i64 0, .int .i64 K1, .int .i64 K2, .int .i64 K3, .int .i64 K4, .bool K5, .slice A5 N6 f5] 60)
    have B6 := ab B5 (.cells #[.int .i64 0, .int .i64 0, .int .i64 K1, .int .i64 K2, .int .i64 K3, .int .i64 K4, .bool K5, .slice A5 N6 f5] 60)
    rw [hq] at T6 D6 R6 B6
    clear hq T2 D2 R5 B5
    have hz4 : w.heap.size < w4.heap.size := zT4
    have ne1 : ¬ w5.heap.size = w.heap.size := by omega
    have ne2 : ¬ w1.heap.size = w.heap.size := by omega
    have d1 := D6.cell (i := 1) rfl
    have t0 := T6.cell (i := 0) rfl
    have t1 := T6.cell (i := 1) rfl
    have t2 := T6.cell (i := 2) rfl
    have t3 := T6.cell (i := 3) rfl
    have t4 := T6.cell (i := 4) rfl
    have t5 := T6.cell (i := 5) rfl
    have t6 := T6.cell (i := 6) rfl
    have t7 := T6.cell (i := 7) rfl
    have e0 := E6.cell (i := 0) rfl
    have e1 := E6.cell (i := 1) rfl
    have e2 := E6.cell (i := 2) rfl
    have e3 := E6.cell (i := 3) rfl
    have e4 := E6.cell (i := 4) rfl
    have e5 := E6.cell (i := 5) rfl
    have e6 := E6.cell (i := 6) rfl
    have e7 := E6.cell (i := 7) rfl
    have tf := T6.frozen
    go_wp2
    refine bodyPost_ret (v := .agg #[.int .i64 0, .int .i64 s, .int .i64 K1, .int .i64 K2, .int .i64 K3, .int .i64 K4, .bool K5, .slice A5 N6 f5]) (by simp [results, Tryz.results45, go_sem, t0, t1, t2, t3, t4, t5, t6, t7]) rfl ?_
    obtain ⟨g1, g2, g3, g4, g5, g6, g7⟩ := HH.out
    unfold OpnAns
    rw [HZ.out, HO.out, ← g1, ← g2, ← g3, ← g4, ← g5, ← g6, ← g7]
    refine ⟨⟨A5, f5, by simp [selI], (((((((((R6.far (p := ⟨w.heap.size, 0, none⟩) hz4 _).far (p := ⟨w.heap.size, 1, none⟩) hz4 _).far (p := ⟨w.heap.size, 2, none⟩) hz4 _).far (p := ⟨w.heap.size, 3, none⟩) hz4 _).far (p := ⟨w.heap.size, 4, none⟩) hz4 _).far (p := ⟨w.heap.size, 5, none⟩) hz4 _).far (p := ⟨w.heap.size, 6, none⟩) hz4 _).far (p := ⟨w.heap.size, 7, none⟩) hz4 _).mono (by omega)), k5, j5⟩, ?_⟩
    exact ((((((((B6.setCell (p := ⟨w.heap.size, 0, none⟩) (Nat.le_refl _) _).setCell (p := ⟨w.heap.size, 1, none⟩) (Nat.le_refl _) _).setCell (p := ⟨w.heap.size, 2, none⟩) (Nat.le_refl _) _).setCell (p := ⟨w.heap.size, 3, none⟩) (Nat.le_refl _) _).setCell (p := ⟨w.heap.size, 4, none⟩) (Nat.le_refl _) _).setCell (p := ⟨w.heap.size, 5, none⟩) (Nat.le_refl _) _).setCell (p := ⟨w.heap.size, 6, none⟩) (Nat.le_refl _) _).setCell (p := ⟨w.heap.size, 7, none⟩) (Nat.le_refl _) _)
  · have ho := HN.out hz
    have HO := Shut.mk ho
    have hzz : (decCode 44 X != 0) = true := by simpa using hz
    have e1 : selI false (fK X) = 0 ∧ selI false (fS X) = 0 ∧ selI false (fA X) = 0 ∧ selI false (fM X) = 0 ∧ selB false (fL X) = false ∧ selN false (fZ X).toNat = 0 := by simp [selI, selB, selN]
    rw [ho, e1.1, e1.2.1, e1.2.2.1, e1.2.2.2.1, e1.2.2.2.2.1, e1.2.2.2.2.2]
    obtain ⟨C6, h6⟩ : ∃ x, x = decCode 44 X := ⟨_, rfl⟩
    rw [← h6] at hzz ⊢
    have HC := Shut.mk h6
    clear hz ho HN HY h6 R5 k5 e1
    go_upto_region 10 with (fail)
    generalize hq : (w5.alloc (.cells #[.int .i64 C6, .int .i64 0, .int .i64 0, .int .i64 0, .int .i64 0, .int .i64 0, .bool false, .slice A5 0 f5] 60)) = w6 at *
    have E6 : Stc w6 w5.heap.size [.int .i64 C6, .int .i64 0, .int .i64 0, .int .i64 0, .int .i64 0, .int .i64 0, .bool false, .slice A5 0 f5] 60 := by rw [← hq]; exact Stc.new w5 _ _ _ rfl
    have T6 := T2.alloc (.cells #[.int .i64 C6, .int .i64 0, .int .i64 0, .int .i64 0, .int .i64 0, .int .i64 0, .bool false, .slice A5 0 f5] 60)
    have B6 := ab B5 (.cells #[.int .i64 C6, .int .i64 0, .int .i64 0, .int .i64 0, .int .i64 0, .int .i64 0, .bool false, .slice A5 0 f5] 60)
    rw [hq] at T6 B6
    clear hq T2 D2 B5
    have ne1 : ¬ w5.heap.size = w.heap.size := by omega
    have t0 := T6.cell (i := 0) rfl
    have t1 := T6.cell (i := 1) rfl
    have t2 := T6.cell (i := 2) rfl
    have t3 := T6.cell (i := 3) rfl
    have t4 := T6.cell (i := 4) rfl
    have t5 := T6.cell (i := 5) rfl
    have t6 := T6.cell (i := 6) rfl
    have t7 := T6.cell (i := 7) rfl
    have e0 := E6.cell (i := 0) rfl
    have e1 := E6.cell (i := 1) rfl
    have e2 := E6.cell (i := 2) rfl
    have e3 := E6.cell (i := 3) rfl
    have e4 := E6.cell (i := 4) rfl
    have e5 := E6.cell (i := 5) rfl
    have e6 := E6.cell (i := 6) rfl
    have e7 := E6.cell (i := 7) rfl
    have tf := T6.frozen
    go_wp2
    refine bodyPost_ret (v := .agg #[.int .i64 C6, .int .i64 0, .int .i64 0, .int .i64 0, .int .i64 0, .int .i64 0, .bool false, .slice none 0 0]) (by simp [results, Tryz.results45, go_sem, t0, t1, t2, t3, t4, t5, t6, t7]) rfl ?_
    rw [HO.out, ← HC.out]
    exact OpnAns.no rfl ((((((((B6.setCell (by simp) _).setCell (by simp) _).setCell (by simp) _).setCell (by simp) _).setCell (by simp) _).setCell (by simp) _).setCell (by simp) _).setCell (by simp) _)

end Go.Proofs.YtabhcolfkkfonaaGreatDoor
