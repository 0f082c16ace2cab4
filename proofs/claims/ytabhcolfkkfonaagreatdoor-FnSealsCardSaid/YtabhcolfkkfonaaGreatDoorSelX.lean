import Derived.Test.YtabhcolfkkfonaaGreatDoorNonB
import Derived.Test.YtabhcolfkkfonaaGreatDoorEncX
import Derived.Test.YtabhcolfkkfonaaGreatDoorAnsX
import Derived.Test.YtabhcolfkkfonaaGreatDoorSealQ
import Derived.Deep.CutRange
import Derived.Test.YtabhcolfkkfonaaGreatDoorSymB
import Derived.Deep.RegionHeld3

/-! SelC -/
/- A cell sealed for a slot, by the model. -/
namespace Go.Proofs.YtabhcolfkkfonaaGreatDoor
open Go.RowKit

/-- four bytes of a slot, the highest one first; the bytes of a sealed cell -/
def hi4 (n : Int) : List Int := (lowOf n 4).reverse
theorem hi4_len (n : Int) : (hi4 n).length = 4 := by simp [hi4, lowOf_len]
theorem hi4_by (n : Int) : By (hi4 n) := fun x hx => lowOf_byte n 4 x (List.mem_reverse.1 hx)
def wireL (key : List Int) (slot : Int) (E : List Int) : List Int := hi4 slot ++ sealL key (nonceL slot) (hi4 slot) E
theorem wireL_len (key : List Int) (slot : Int) (E : List Int) (h : E.length = 44) : (wireL key slot E).length = 64 := by
  unfold wireL
  rw [List.length_append, hi4_len, sealL_len, h]

theorem Row.belowS {w w' : World} {B C : Nat} {v : Value} {l : List Int} (hb : Below C w w') (h : Row w B v l) (hC : w.heap.size ≤ C) : Row w' B v l := h.belowR hb hC

set_option maxRecDepth 100000 in
set_option maxHeartbeats 4000000 in
theorem l6Seal_any (K : Option Addr) (kc : Nat) (key : List Int) (s : Int) (p : Nat) (a b c d : Int) (v : Bool) (A : Option Addr) (n f : Nat) (l : List Int) (w : World) (hk : Bs w K 32 key) (hkc : 32 ≤ kc) (s0 : 0 ≤ s) (s1 : s ≤ 1000) (hS : Stc w p [.int .i64 a, .int .i64 b, .int .i64 c, .int .i64 d, .bool v, .slice A n f] 52) (hA : Bs w A n l) (hcap : A = none → f = 0) (hok : cellC a b c d v n = 0) :
    Calls Tryz.prog 120 #[.slice K 32 kc, .int .i64 s, .pointer (some ⟨p, 0, none⟩)] w fun e w' => (∃ A' c', e = .returned (.slice A' 64 c') ∧ Row w' w.heap.size (.slice A' 64 c') (wireL key s (cellL a b c d v l))) ∧ Below w.heap.size w w' := by
  obtain ⟨⟨a0, a1⟩, ⟨b0, b1⟩, ⟨c0, c1⟩, ⟨d0, d1⟩, hn, _⟩ := cellC_ok hok
  have hlt := hS.lt
  have C1 := Shut.mk (fun W => l1High_any s 4 W s0 (by omega) (by omega))
  have C2 := Shut.mk (fun (g cc : Nat) (r : List Int) (W : World) (h : Bs W (some ⟨g, 0, none⟩) 4 r) => copyb_any (some ⟨g, 0, none⟩) 4 cc r W h (fun e => by cases e) (by omega))
  have C3 := Shut.mk (fun W => l5Nonce_any s W s0 (by omega))
  have C4 := Shut.mk (fun W (hb : Below w.heap.size w W) => l6Encode_any p a b c d v A n f l W (hS.below hb hlt) (hA.below hb) hcap a0 a1 b0 b1 c0 c1 d0 d1 hn)
  have LE := Shut.mk (cellL_len a b c d v l (by rw [hA.len]; omega))
  have LW := Shut.mk (wireL_len key s (cellL a b c d v l) LE.out)
  have FW : Shut (hi4 s ++ sealL key (nonceL s) (hi4 s) (cellL a b c d v l) = wireL key s (cellL a b c d v l)) := ⟨rfl⟩
  have LS : Shut ((sealL key (nonceL s) (hi4 s) (cellL a b c d v l)).length = 60) := ⟨by rw [sealL_len, LE.out]⟩
  have H4 : Shut ((lowOf s 4).reverse = hi4 s) := ⟨rfl⟩
  have N12 := Shut.mk (nonceL_len s)
  have L4 := Shut.mk (hi4_len s)
  generalize cellL a b c d v l = E at *
  generalize wireL key s E = F at *
  clear hok hA hcap a0 a1 b0 b1 c0 c1 d0 d1 hn
  go_enter Tryz.func120, Tryz.ntmps120
  go_wp2_with fail
  refine (C1.out _).mono ?_
  rintro e w1 ⟨⟨A1, c1, rfl, o1⟩, q1⟩
  rw [H4.out] at o1
  obtain ⟨g1, rfl, _⟩ := o1.at_ (by omega)
  go_wp2_with fail
  refine (C2.out g1 c1 _ _ o1.bs).mono ?_
  rintro e w2 ⟨⟨A2, c2, rfl, r2⟩, q2⟩
  have B2 := ac q1 q2
  go_wp2_with fail
  refine (C3.out _).mono ?_
  rintro e w3 ⟨⟨A3, c3, rfl, o3, k3, _⟩, q3⟩
  have B3 := ac B2 q3
  go_wp2_with fail
  refine (C4.out _ B3).mono ?_
  rintro e w4 ⟨⟨A4, c4, rfl, r4⟩, q4⟩
  have B4 := ac B3 q4
  go_wp2_with fail
  refine (l3Seal_any K kc key A3 c3 (nonceL s) (some ⟨g1, 0, none⟩) 4 c1 (hi4 s) A4 44 c4 E _ (hk.below B4) hkc (o3.bs.below q4) k3 (((o1.bs.below q2).below q3).below q4) (by omega) (fun e => by cases e) (r4.ow' LE.out).bs (by omega)).mono ?_
  rintro e w5 ⟨⟨A5, c5, rfl, r5⟩, q5⟩
  have B5 := ac B4 q5
  have r6 := ((((r2.belowR q3 (Nat.le_refl _)).belowR q4 (Nat.le_refl _)).belowR q5 (Nat.le_refl _))).mono (q1.size)
  have o5 := (r5.ow' LS.out).bs
  have z5 := B5.size
  have n5 := r5.nilcap
  clear C1 C2 C3 C4
  go_wp2_with (at_builtin; refine wpList_row_join rfl _ _ rfl _ w.heap.size (.slice A2 4 c2) (hi4 s) (sealL key (nonceL s) (hi4 s) E) rfl r6 z5 A5 60 c5 rfl o5 n5 (by rw [L4.out]; omega) ?_; intro v6 w6 r7 b7 s7)
  rw [FW.out] at r7
  obtain ⟨A7, c7, rfl, _⟩ := r7.ow LW.out
  go_ret
  exact ⟨⟨A7, c7, rfl, r7⟩, B5.trans b7⟩
end Go.Proofs.YtabhcolfkkfonaaGreatDoor

/-! SelA -/
/- SealCell of the model; what it answers where something is wrong, of both. -/
namespace Go.Proofs.YtabhcolfkkfonaaGreatDoor
open Go.RowKit

/-- whether a number is a slot, of the program -/
theorem isSlotS_any (n : Int) (w : World) :
    Calls Tryz.prog 108 #[.int .i64 n] w fun e w' => e = .returned (.bool (inB n 0 400)) ∧ w = w' := by
  by_cases h0 : 0 ≤ n
  · by_cases h1 : n ≤ 400
    · have e : inB n 0 400 = true := by simp [inB, h0, h1]
      rw [e]
      go_enter Tryz.func108, Tryz.ntmps108
      go_wp2
      go_ret
      exact ⟨by simp, rfl⟩
    · have e : inB n 0 400 = false := by simp [inB, h1]
      rw [e]
      go_enter Tryz.func108, Tryz.ntmps108
      go_wp2
      go_ret
      exact ⟨by simp, rfl⟩
  · have e : inB n 0 400 = false := by simp [inB, h0]
    rw [e]
    go_enter Tryz.func108, Tryz.ntmps108
    go_wp2
    go_ret
    exact ⟨rfl, rfl⟩

def wirN (C : Int) : Nat := if C = 0 then 64 else 0
def wirL (C : Int) (l : List Int) : List Int := if C = 0 then l else []
theorem wirN_le (C : Int) : wirN C ≤ 64 := by unfold wirN; split <;> omega
def selC (n : Nat) (s : Int) (C : Int) : Int := if n = 32 ∧ inB s 0 400 = true then C else 3

/-- the answer of SealCell: its bytes have their room -/
def WirAns (C : Int) (L : List Int) (w : World) (e : Ending) (w' : World) : Prop :=
  (∃ A0 d0, e = .returned (.agg #[.int .i64 C, .slice A0 (wirN C) d0]) ∧ Rs w' w.heap.size [(A0, wirN C, wirL C L)] ∧ wirN C ≤ d0 ∧ (A0 = none → d0 = 0)) ∧ Below w.heap.size w w'
theorem WirAns.rs {C : Int} {L : List Int} {w : World} {e : Ending} {w' : World} (h : WirAns C L w e w') : (∃ A0 d0, e = .returned (.agg #[.int .i64 C, .slice A0 (wirN C) d0]) ∧ Rs w' w.heap.size [(A0, wirN C, wirL C L)]) ∧ Below w.heap.size w w' :=
  ⟨by obtain ⟨A0, d0, h1, h2, _⟩ := h.1; exact ⟨A0, d0, h1, h2⟩, h.2⟩
theorem WirAns.no {C : Int} {L : List Int} {w : World} {e : Ending} {w' : World} (hC : ¬ C = 0) (he : e = .returned (.agg #[.int .i64 C, .slice none 0 0])) (hb : Below w.heap.size w w') : WirAns C L w e w' := by
  unfold WirAns wirN wirL
  rw [if_neg hC, if_neg hC]
  exact ⟨⟨none, 0, he, Rs.one (Ow.nil_ _ _), Nat.le_refl _, fun _ => rfl⟩, hb⟩

set_option maxHeartbeats 1000000 in
theorem specSeal_key (K : Option Addr) (n1 kc : Nat) (s a b c d : Int) (v : Bool) (A : Option Addr) (n f : Nat) (L : List Int) (w : World) (h : ¬ n1 = 32) :
    Calls Tryz.prog 42 #[.slice K n1 kc, .int .i64 s, .agg #[.int .i64 a, .int .i64 b, .int .i64 c, .int .i64 d, .bool v, .slice A n f]] w (WirAns 3 L w) := by
  have hb : ((n1 : Int) != 32) = true := by rw [bne_iff_ne]; omega
  go_enter Tryz.func42, Tryz.ntmps42
  go_wp2
  refine bodyPost_ret (v := .agg #[.int .i64 3, .slice none 0 0]) (by simp [results, Tryz.results42, go_sem]) rfl ?_
  exact WirAns.no (by omega) rfl (by go_grown)

set_option maxHeartbeats 1000000 in
theorem specSeal_slot (K : Option Addr) (kc : Nat) (s a b c d : Int) (v : Bool) (A : Option Addr) (n f : Nat) (L : List Int) (w : World) (hs : inB s 0 400 = false) :
    Calls Tryz.prog 42 #[.slice K 32 kc, .int .i64 s, .agg #[.int .i64 a, .int .i64 b, .int .i64 c, .int .i64 d, .bool v, .slice A n f]] w (WirAns 3 L w) := by
  have ci := In_any s 0 400
  rw [hs] at ci
  clear hs
  go_enter Tryz.func42, Tryz.ntmps42
  go_wp2_with fail
  refine (ci _).mono ?_
  rintro e w' ⟨rfl, rfl⟩
  go_wp2
  refine bodyPost_ret (v := .agg #[.int .i64 3, .slice none 0 0]) (by simp [results, Tryz.results42, go_sem]) rfl ?_
  exact WirAns.no (by omega) rfl (by go_grown)

set_option maxHeartbeats 1000000 in
theorem specSeal_cell (K : Option Addr) (kc : Nat) (s a b c d : Int) (v : Bool) (A : Option Addr) (n f : Nat) (L : List Int) (w : World) (hs : inB s 0 400 = true) (hC : ¬ cellC a b c d v n = 0) :
    Calls Tryz.prog 42 #[.slice K 32 kc, .int .i64 s, .agg #[.int .i64 a, .int .i64 b, .int .i64 c, .int .i64 d, .bool v, .slice A n f]] w (WirAns (cellC a b c d v n) L w) := by
  have ci := In_any s 0 400
  rw [hs] at ci
  have cc := fun W => specCellFault_any a b c d v A n f W
  have hx : (cellC a b c d v n != 0) = true := by simpa using hC
  generalize cellC a b c d v n = C at *
  have D0 := (Stc.new w 52 [.int .i64 a, .int .i64 b, .int .i64 c, .int .i64 d, .bool v, .slice A n f] _ rfl).alloc (.cells #[.int .i64 0, .slice none 0 0] 46)
  have T0 := Stc.new (w.alloc (.cells #[.int .i64 a, .int .i64 b, .int .i64 c, .int .i64 d, .bool v, .slice A n f] 52)) 46 [.int .i64 0, .slice none 0 0] _ rfl
  have B0 := ab (ab (Below.refl _ w) (.cells #[.int .i64 a, .int .i64 b, .int .i64 c, .int .i64 d, .bool v, .slice A n f] 52)) (.cells #[.int .i64 0, .slice none 0 0] 46)
  simp only [World.size_alloc] at T0
  have HC := Shut.mk hC
  clear hs hC
  go_enter Tryz.func42, Tryz.ntmps42
  go_wp2_with fail
  refine (ci _).mono ?_
  rintro e w' ⟨rfl, rfl⟩
  go_wp2_with fail
  refine (cc _).mono ?_
  rintro e w1 ⟨rfl, b1⟩
  have B1 := ac B0 b1
  replace T0 := T0.below b1 T0.lt
  have y0 := T0.cell (i := 0) rfl
  have y1 := T0.cell (i := 1) rfl
  have y2 := T0.frozen
  clear cc ci b1 D0 B0
  go_wp2
  refine bodyPost_ret (v := .agg #[.int .i64 C, .slice none 0 0]) (by simp [results, Tryz.results42, go_sem, y0, y1]) rfl ?_
  exact WirAns.no HC.out rfl ((B1.setCell (by simp) _).setCell (by simp) _)

set_option maxHeartbeats 1000000 in
theorem implSeal_key (K : Option Addr) (n1 kc : Nat) (s a b c d : Int) (v : Bool) (A : Option Addr) (n f : Nat) (L : List Int) (w : World) (h : ¬ n1 = 32) :
    Calls Tryz.prog 37 #[.slice K n1 kc, .int .i64 s, .agg #[.int .i64 a, .int .i64 b, .int .i64 c, .int .i64 d, .bool v, .slice A n f]] w (WirAns 3 L w) := by
  have hb : ((n1 : Int) != 32) = true := by rw [bne_iff_ne]; omega
  go_enter Tryz.func37, Tryz.ntmps37
  go_wp2
  refine bodyPost_ret (v := .agg #[.int .i64 3, .slice none 0 0]) (by simp [results, Tryz.results37, go_sem]) rfl ?_
  exact WirAns.no (by omega) rfl (by go_grown)

set_option maxHeartbeats 1000000 in
theorem implSeal_slot (K : Option Addr) (kc : Nat) (s a b c d : Int) (v : Bool) (A : Option Addr) (n f : Nat) (L : List Int) (w : World) (hs : inB s 0 400 = false) :
    Calls Tryz.prog 37 #[.slice K 32 kc, .int .i64 s, .agg #[.int .i64 a, .int .i64 b, .int .i64 c, .int .i64 d, .bool v, .slice A n f]] w (WirAns 3 L w) := by
  have ci := isSlotS_any s
  rw [hs] at ci
  clear hs
  go_enter Tryz.func37, Tryz.ntmps37
  go_wp2_with fail
  refine (ci _).mono ?_
  rintro e w' ⟨rfl, rfl⟩
  go_wp2
  refine bodyPost_ret (v := .agg #[.int .i64 3, .slice none 0 0]) (by simp [results, Tryz.results37, go_sem]) rfl ?_
  exact WirAns.no (by omega) rfl (by go_grown)

set_option maxHeartbeats 1000000 in
theorem implSeal_cell (K : Option Addr) (kc : Nat) (s a b c d : Int) (v : Bool) (A : Option Addr) (n f : Nat) (L : List Int) (w : World) (hs : inB s 0 400 = true) (hC : ¬ cellC a b c d v n = 0) :
    Calls Tryz.prog 37 #[.slice K 32 kc, .int .i64 s, .agg #[.int .i64 a, .int .i64 b, .int .i64 c, .int .i64 d, .bool v, .slice A n f]] w (WirAns (cellC a b c d v n) L w) := by
  have ci := isSlotS_any s
  rw [hs] at ci
  have cc := fun W => implCellFault_any a b c d v A n f W
  have hx : (cellC a b c d v n != 0) = true := by simpa using hC
  generalize cellC a b c d v n = C at *
  have D0 := (Stc.new w 52 [.int .i64 a, .int .i64 b, .int .i64 c, .int .i64 d, .bool v, .slice A n f] _ rfl).alloc (.cells #[.int .i64 0, .slice none 0 0] 46)
  have T0 := Stc.new (w.alloc (.cells #[.int .i64 a, .int .i64 b, .int .i64 c, .int .i64 d, .bool v, .slice A n f] 52)) 46 [.int .i64 0, .slice none 0 0] _ rfl
  have B0 := ab (ab (Below.refl _ w) (.cells #[.int .i64 a, .int .i64 b, .int .i64 c, .int .i64 d, .bool v, .slice A n f] 52)) (.cells #[.int .i64 0, .slice none 0 0] 46)
  simp only [World.size_alloc] at T0
  have HC := Shut.mk hC
  clear hs hC
  go_enter Tryz.func37, Tryz.ntmps37
  go_wp2_with fail
  refine (ci _).mono ?_
  rintro e w' ⟨rfl, rfl⟩
  go_wp2_with fail
  refine (cc _).mono ?_
  rintro e w1 ⟨rfl, b1⟩
  have B1 := ac B0 b1
  replace T0 := T0.below b1 T0.lt
  have y0 := T0.cell (i := 0) rfl
  have y1 := T0.cell (i := 1) rfl
  have y2 := T0.frozen
  clear cc ci b1 D0 B0
  go_wp2
  refine bodyPost_ret (v := .agg #[.int .i64 C, .slice none 0 0]) (by simp [results, Tryz.results37, go_sem, y0, y1]) rfl ?_
  exact WirAns.no HC.out rfl ((B1.setCell (by simp) _).setCell (by simp) _)

set_option maxHeartbeats 2000000 in
theorem specSeal_yes (K : Option Addr) (kc : Nat) (key : List Int) (s a b c d : Int) (v : Bool) (A : Option Addr) (n f : Nat) (l : List Int) (w : World) (hk : Bs w K 32 key) (hkc : 32 ≤ kc) (hA : Bs w A n l) (hcap : A = none → f = 0) (hs : inB s 0 400 = true) (hC : cellC a b c d v n = 0) :
    Calls Tryz.prog 42 #[.slice K 32 kc, .int .i64 s, .agg #[.int .i64 a, .int .i64 b, .int .i64 c, .int .i64 d, .bool v, .slice A n f]] w (WirAns 0 (wireL key s (cellL a b c d v l)) w) := by
  have hs2 : 0 ≤ s ∧ s ≤ 400 := by simpa [inB] using hs
  have ci := In_any s 0 400
  rw [hs] at ci
  have cc := fun W => specCellFault_any a b c d v A n f W
  rw [hC] at cc
  have hn := (cellC_ok hC).2.2.2.2.1
  have LW := Shut.mk (wireL_len key s (cellL a b c d v l) (cellL_len a b c d v l (by rw [hA.len]; omega)))
  have D0 := (Stc.new w 52 [.int .i64 a, .int .i64 b, .int .i64 c, .int .i64 d, .bool v, .slice A n f] _ rfl).alloc (.cells #[.int .i64 0, .slice none 0 0] 46)
  have T0 := Stc.new (w.alloc (.cells #[.int .i64 a, .int .i64 b, .int .i64 c, .int .i64 d, .bool v, .slice A n f] 52)) 46 [.int .i64 0, .slice none 0 0] _ rfl
  have B0 := ab (ab (Below.refl _ w) (.cells #[.int .i64 a, .int .i64 b, .int .i64 c, .int .i64 d, .bool v, .slice A n f] 52)) (.cells #[.int .i64 0, .slice none 0 0] 46)
  simp only [World.size_alloc] at T0
  have H := Shut.mk (fun W (hW : Below w.heap.size w W) (hD : Stc W w.heap.size [.int .i64 a, .int .i64 b, .int .i64 c, .int .i64 d, .bool v, .slice A n f] 52) => l6Seal_any K kc key s w.heap.size a b c d v A n f l W (hk.below hW) hkc hs2.1 (by omega) hD (hA.below hW) hcap hC)
  clear hs hs2 hC hk hA hcap hn
  generalize wireL key s (cellL a b c d v l) = F at *
  go_enter Tryz.func42, Tryz.ntmps42
  go_wp2_with fail
  refine (ci _).mono ?_
  rintro e w' ⟨rfl, rfl⟩
  go_wp2_with fail
  refine (cc _).mono ?_
  rintro e w1 ⟨rfl, b1⟩
  have B1 := ac B0 b1
  replace D0 := D0.below b1 D0.lt
  replace T0 := T0.below b1 T0.lt
  clear b1 B0 cc ci
  go_wp2_with fail
  refine (H.out _ B1 D0).mono ?_
  rintro e w2 ⟨⟨A', c', rfl, r2⟩, b2⟩
  have B2 := ac B1 b2
  have z1 := T0.lt
  replace T0 := T0.below b2 T0.lt
  have y0 := T0.cell (i := 0) rfl
  have y1 := T0.cell (i := 1) rfl
  have y2 := T0.frozen
  obtain ⟨q1, q2⟩ := r2.capX
  have o2 := r2.ow' LW.out
  clear b2 B1 D0 H
  go_wp2
  refine bodyPost_ret (v := .agg #[.int .i64 0, .slice A' 64 c']) (by simp [results, Tryz.results42, go_sem, y0, y1]) rfl ?_
  refine ⟨⟨A', c', rfl, ?_, q1, q2⟩, (B2.setCell (by simp) _).setCell (by simp) _⟩
  exact Rs.one (((o2.far (by simp; omega) _).far (by simp; omega) _).mono (by have := B2.size; omega))

end Go.Proofs.YtabhcolfkkfonaaGreatDoor

/-! SelP -/
/- SealCell of the program, all well. -/
namespace Go.Proofs.YtabhcolfkkfonaaGreatDoor
open Go.RowKit

theorem SpanAns.box {n : Nat} {l : List Int} {w : World} {e : Ending} {w' : World} (h : SpanAns 0 n l w e w') : (∃ A' c', e = .returned (.agg #[.int .i64 0, .slice A' n c']) ∧ Ow w' w.heap.size A' n l ∧ n ≤ c' ∧ (A' = none → c' = 0)) ∧ Below w.heap.size w w' := h

set_option maxRecDepth 100000 in
set_option maxHeartbeats 4000000 in
theorem implSeal_yes (K : Option Addr) (kc : Nat) (key : List Int) (s a b c d : Int) (v : Bool) (A : Option Addr) (n f : Nat) (l : List Int) (w : World) (hT : Quar w) (hk : Bs w K 32 key) (hkc : 32 ≤ kc) (hA : Bs w A n l) (hs : inB s 0 400 = true) (hC : cellC a b c d v n = 0) :
    Calls Tryz.prog 37 #[.slice K 32 kc, .int .i64 s, .agg #[.int .i64 a, .int .i64 b, .int .i64 c, .int .i64 d, .bool v, .slice A n f]] w (WirAns 0 (wireL key s (cellL a b c d v l)) w) := by
  have hs2 : 0 ≤ s ∧ s ≤ 400 := by simpa [inB] using hs
  have ci := isSlotS_any s
  rw [hs] at ci
  have cc := fun W => implCellFault_any a b c d v A n f W
  rw [hC] at cc
  have hn := (cellC_ok hC).2.2.2.2.1
  have LE := Shut.mk (cellL_len a b c d v l (by rw [hA.len]; omega))
  have LW := Shut.mk (wireL_len key s (cellL a b c d v l) LE.out)
  have FW : Shut (hi4 s ++ sealL key (nonceL s) (hi4 s) (cellL a b c d v l) = wireL key s (cellL a b c d v l)) := ⟨rfl⟩
  have LS : Shut ((sealL key (nonceL s) (hi4 s) (cellL a b c d v l)).length = 60) := ⟨by rw [sealL_len, LE.out]⟩
  have H4 : Shut ((lowOf s 4).reverse = hi4 s) := ⟨rfl⟩
  have D0 := (Stc.new w 52 [.int .i64 a, .int .i64 b, .int .i64 c, .int .i64 d, .bool v, .slice A n f] _ rfl).alloc (.cells #[.int .i64 0, .slice none 0 0] 46)
  have T0 := Stc.new (w.alloc (.cells #[.int .i64 a, .int .i64 b, .int .i64 c, .int .i64 d, .bool v, .slice A n f] 52)) 46 [.int .i64 0, .slice none 0 0] _ rfl
  have B0 := ab (ab (Below.refl _ w) (.cells #[.int .i64 a, .int .i64 b, .int .i64 c, .int .i64 d, .bool v, .slice A n f] 52)) (.cells #[.int .i64 0, .slice none 0 0] 46)
  simp only [World.size_alloc] at T0
  have XE := Shut.mk (fun W (hW : Below w.heap.size w W) => encoded_any a b c d v A n f l W (hA.below hW) hC)
  have XB := Shut.mk (fun W (hW : Below w.heap.size w W) (A2 : Option Addr) (c2 : Nat) (g1 g4 : Nat) (E : List Int) (h2 : Bs W A2 12 (nonceL s)) (j2 : 12 ≤ c2) (h3 : Bs W (some ⟨g1, 0, none⟩) 4 (hi4 s)) (h4 : Bs W (some ⟨g4, 0, none⟩) 44 E) => implSealBox_any K 32 kc key A2 12 c2 (nonceL s) (some ⟨g1, 0, none⟩) 4 4 (hi4 s) (some ⟨g4, 0, none⟩) 44 44 E W (hT.keep hW) (hk.below hW) hkc h2 j2 h3 (fun e => by cases e) h4 (Nat.le_refl _) (fun e => by cases e))
  generalize hEE : cellL a b c d v l = E at *
  generalize wireL key s E = F at *
  clear hs hC hk hA hn hEE hT
  go_enter Tryz.func37, Tryz.ntmps37
  go_wp2_with fail
  refine (ci _).mono ?_
  rintro e w' ⟨rfl, rfl⟩
  go_wp2_with fail
  refine (cc _).mono ?_
  rintro e w1 ⟨rfl, b1⟩
  have B1 := ac B0 b1
  replace D0 := D0.below b1 D0.lt
  replace T0 := T0.below b1 T0.lt
  clear b1 B0 cc ci
  go_wp2_with fail
  refine (spreadHigh_any s 4 _ (by omega)).mono ?_
  rintro e wk ⟨rfl, o1, b2⟩
  rw [H4.out] at o1
  have Bk := ac B1 b2
  have zd := T0.lt
  replace D0 := D0.below b2 D0.lt
  replace T0 := T0.below b2 T0.lt
  have u1 := b2.size
  clear b2 B1
  generalize w1.heap.size = g1 at *
  have x0 := D0.cell (i := 0) rfl
  have x1 := D0.cell (i := 1) rfl
  have x2 := D0.cell (i := 2) rfl
  have x3 := D0.cell (i := 3) rfl
  have x4 := D0.cell (i := 4) rfl
  have x5 := D0.cell (i := 5) rfl
  have xl := D0.lt
  have hWk := Below.refl wk.heap.size wk
  have HN : Shut (∀ W : World, (W.cell? ⟨w.heap.size, 0, none⟩ = some (.int .i64 a) ∧ W.cell? ⟨w.heap.size, 1, none⟩ = some (.int .i64 b) ∧ W.cell? ⟨w.heap.size, 2, none⟩ = some (.int .i64 c) ∧ W.cell? ⟨w.heap.size, 3, none⟩ = some (.int .i64 d) ∧ W.cell? ⟨w.heap.size, 4, none⟩ = some (.bool v) ∧ W.cell? ⟨w.heap.size, 5, none⟩ = some (.slice A n f) ∧ Below wk.heap.size wk W) → Calls Tryz.prog 112 #[.int .i64 s] W fun e w' => (∃ A2 c2, e = .returned (.slice A2 12 c2) ∧ Bs w' A2 12 (nonceL s) ∧ 12 ≤ c2) ∧ ((∀ (A : Option Addr) (m : Nat) (l : List Int), Bs W A m l → Bs w' A m l) ∧ (∀ (b : Nat) (l : List Value) (t : TypeId), Stc W b l t → Stc w' b l t)) ∧ w'.cell? ⟨w.heap.size, 0, none⟩ = some (.int .i64 a) ∧ w'.cell? ⟨w.heap.size, 1, none⟩ = some (.int .i64 b) ∧ w'.cell? ⟨w.heap.size, 2, none⟩ = some (.int .i64 c) ∧ w'.cell? ⟨w.heap.size, 3, none⟩ = some (.int .i64 d) ∧ w'.cell? ⟨w.heap.size, 4, none⟩ = some (.bool v) ∧ w'.cell? ⟨w.heap.size, 5, none⟩ = some (.slice A n f) ∧ Below wk.heap.size wk w') := by
    refine ⟨fun W ⟨z0, z1, z2, z3, z4, z5, z6⟩ => (nonceOf_any s W).mono ?_⟩
    rintro e w' ⟨⟨A2, c2, rfl, o2, j2, _⟩, hb⟩
    have hc := fun (i : Nat) => hb.cell (p := ⟨w.heap.size, i, none⟩) (Nat.lt_of_lt_of_le xl z6.size)
    exact ⟨⟨A2, c2, rfl, o2.bs, j2⟩, ⟨fun _ _ _ h => h.below hb, fun _ _ _ h => h.below hb h.lt⟩, (hc 0).trans z0, (hc 1).trans z1, (hc 2).trans z2, (hc 3).trans z3, (hc 4).trans z4, (hc 5).trans z5, ac z6 hb⟩
  have HE : Shut (∀ W : World, (W.cell? ⟨w.heap.size, 0, none⟩ = some (.int .i64 a) ∧ W.cell? ⟨w.heap.size, 1, none⟩ = some (.int .i64 b) ∧ W.cell? ⟨w.heap.size, 2, none⟩ = some (.int .i64 c) ∧ W.cell? ⟨w.heap.size, 3, none⟩ = some (.int .i64 d) ∧ W.cell? ⟨w.heap.size, 4, none⟩ = some (.bool v) ∧ W.cell? ⟨w.heap.size, 5, none⟩ = some (.slice A n f) ∧ Below wk.heap.size wk W) → Calls Tryz.prog 113 #[.agg #[.int .i64 a, .int .i64 b, .int .i64 c, .int .i64 d, .bool v, .slice A n f]] W fun e w' => (∃ g4, e = .returned (.slice (some ⟨g4, 0, none⟩) 44 44) ∧ Bs w' (some ⟨g4, 0, none⟩) 44 E) ∧ ((∀ (A : Option Addr) (m : Nat) (l : List Int), Bs W A m l → Bs w' A m l) ∧ (∀ (b : Nat) (l : List Value) (t : TypeId), Stc W b l t → Stc w' b l t)) ∧ w'.cell? ⟨w.heap.size, 0, none⟩ = some (.int .i64 a) ∧ w'.cell? ⟨w.heap.size, 1, none⟩ = some (.int .i64 b) ∧ w'.cell? ⟨w.heap.size, 2, none⟩ = some (.int .i64 c) ∧ w'.cell? ⟨w.heap.size, 3, none⟩ = some (.int .i64 d) ∧ w'.cell? ⟨w.heap.size, 4, none⟩ = some (.bool v) ∧ w'.cell? ⟨w.heap.size, 5, none⟩ = some (.slice A n f) ∧ Below wk.heap.size wk w') := by
    refine ⟨fun W ⟨z0, z1, z2, z3, z4, z5, z6⟩ => (XE.out W (Bk.trans (z6.mono Bk.size))).mono ?_⟩
    rintro e w' ⟨⟨g4, rfl, o4⟩, hb⟩
    have hc := fun (i : Nat) => hb.cell (p := ⟨w.heap.size, i, none⟩) (Nat.lt_of_lt_of_le xl z6.size)
    exact ⟨⟨g4, rfl, o4.bs⟩, ⟨fun _ _ _ h => h.below hb, fun _ _ _ h => h.below hb h.lt⟩, (hc 0).trans z0, (hc 1).trans z1, (hc 2).trans z2, (hc 3).trans z3, (hc 4).trans z4, (hc 5).trans z5, ac z6 hb⟩
  have HB : Shut (∀ (W : World) (A2 : Option Addr) (c2 g4 : Nat), (W.cell? ⟨w.heap.size, 0, none⟩ = some (.int .i64 a) ∧ W.cell? ⟨w.heap.size, 1, none⟩ = some (.int .i64 b) ∧ W.cell? ⟨w.heap.size, 2, none⟩ = some (.int .i64 c) ∧ W.cell? ⟨w.heap.size, 3, none⟩ = some (.int .i64 d) ∧ W.cell? ⟨w.heap.size, 4, none⟩ = some (.bool v) ∧ W.cell? ⟨w.heap.size, 5, none⟩ = some (.slice A n f) ∧ Below wk.heap.size wk W) → Bs W A2 12 (nonceL s) → 12 ≤ c2 → Bs W (some ⟨g4, 0, none⟩) 44 E → Calls Tryz.prog 111 #[.slice K 32 kc, .slice A2 12 c2, .slice (some ⟨g1, 0, none⟩) 4 4, .slice (some ⟨g4, 0, none⟩) 44 44] W fun e w' => (∃ A5 c5, e = .returned (.agg #[.int .i64 0, .slice A5 60 c5]) ∧ Ow w' W.heap.size A5 60 (sealL key (nonceL s) (hi4 s) E) ∧ wk.heap.size ≤ W.heap.size ∧ 60 ≤ c5 ∧ (A5 = none → c5 = 0)) ∧ ((∀ (A : Option Addr) (m : Nat) (l : List Int), Bs W A m l → Bs w' A m l) ∧ (∀ (b : Nat) (l : List Value) (t : TypeId), Stc W b l t → Stc w' b l t)) ∧ w'.cell? ⟨w.heap.size, 0, none⟩ = some (.int .i64 a) ∧ w'.cell? ⟨w.heap.size, 1, none⟩ = some (.int .i64 b) ∧ w'.cell? ⟨w.heap.size, 2, none⟩ = some (.int .i64 c) ∧ w'.cell? ⟨w.heap.size, 3, none⟩ = some (.int .i64 d) ∧ w'.cell? ⟨w.heap.size, 4, none⟩ = some (.bool v) ∧ w'.cell? ⟨w.heap.size, 5, none⟩ = some (.slice A n f) ∧ Below wk.heap.size wk w') := by
    refine ⟨fun W A2 c2 g4 ⟨z0, z1, z2, z3, z4, z5, z6⟩ h2 j2 h4 => (XB.out W (Bk.trans (z6.mono Bk.size)) A2 c2 g1 g4 E h2 j2 (o1.bs.below z6) h4).mono ?_⟩
    rintro e w' hx
    obtain ⟨⟨A5, c5, rfl, o5, j5, j6⟩, hb⟩ := SpanAns.box hx
    have hc := fun (i : Nat) => hb.cell (p := ⟨w.heap.size, i, none⟩) (Nat.lt_of_lt_of_le xl z6.size)
    exact ⟨⟨A5, c5, rfl, o5, z6.size, j5, j6⟩, ⟨fun _ _ _ h => h.below hb, fun _ _ _ h => h.below hb h.lt⟩, (hc 0).trans z0, (hc 1).trans z1, (hc 2).trans z2, (hc 3).trans z3, (hc 4).trans z4, (hc 5).trans z5, ac z6 hb⟩
  clear XE XB
  go_wp2_with fail
  have n0 : ¬ wk.heap.size = w.heap.size := by omega
  go_cut [9] from 27 to 33 (fun q wx => ∃ (bx : Nat) (A5 : Option Addr) (c5 : Nat), q = .pointer (some ⟨bx, 0, none⟩) ∧ Stc wx bx [.int .i64 0, .slice A5 60 c5] 46 ∧ Ow wx wk.heap.size A5 60 (sealL key (nonceL s) (hi4 s) E) ∧ 60 ≤ c5 ∧ (A5 = none → c5 = 0) ∧ wk.heap.size ≤ bx ∧ Below wk.heap.size wk wx)
  case first =>
    go_region_held3 (fun W => W.cell? ⟨w.heap.size, 0, none⟩ = some (.int .i64 a) ∧ W.cell? ⟨w.heap.size, 1, none⟩ = some (.int .i64 b) ∧ W.cell? ⟨w.heap.size, 2, none⟩ = some (.int .i64 c) ∧ W.cell? ⟨w.heap.size, 3, none⟩ = some (.int .i64 d) ∧ W.cell? ⟨w.heap.size, 4, none⟩ = some (.bool v) ∧ W.cell? ⟨w.heap.size, 5, none⟩ = some (.slice A n f) ∧ Below wk.heap.size wk W)
      (first | (exact ⟨by with_reducible assumption, by with_reducible assumption, by with_reducible assumption, by with_reducible assumption, by with_reducible assumption, by with_reducible assumption, by with_reducible assumption⟩) | (refine ⟨?_, ?_, ?_, ?_, ?_, ?_, ((y6.setCell (by first | exact Nat.le_refl _ | exact s2 | exact s3) _).setCell (by first | exact Nat.le_refl _ | exact s2 | exact s3) _)⟩; (simp only [World.cell?_setCell_far, n0, n2, n3, ne_eq, not_false_eq_true, y0]); (simp only [World.cell?_setCell_far, n0, n2, n3, ne_eq, not_false_eq_true, y1]); (simp only [World.cell?_setCell_far, n0, n2, n3, ne_eq, not_false_eq_true, y2]); (simp only [World.cell?_setCell_far, n0, n2, n3, ne_eq, not_false_eq_true, y3]); (simp only [World.cell?_setCell_far, n0, n2, n3, ne_eq, not_false_eq_true, y4]); (simp only [World.cell?_setCell_far, n0, n2, n3, ne_eq, not_false_eq_true, y5])) | (exact ⟨x0, x1, x2, x3, x4, x5, hWk.drew⟩) | (exact ⟨cell_past _ x0, cell_past _ x1, cell_past _ x2, cell_past _ x3, cell_past _ x4, cell_past _ x5, (ab hWk _).drew⟩) | (exact ⟨cell_past _ (by with_reducible assumption), cell_past _ (by with_reducible assumption), cell_past _ (by with_reducible assumption), cell_past _ (by with_reducible assumption), cell_past _ (by with_reducible assumption), cell_past _ (by with_reducible assumption), ab (by with_reducible assumption) _⟩))
      (first
      | (go_at_call 112; refine (HN.out _ ?_).mono ?_; (first | with_reducible assumption | (simp [*]; done)); rintro e w2 ⟨⟨A2, c2, rfl, p2, j2⟩, hh2, y0, y1, y2, y3, y4, y5, y6⟩; have s2 := y6.size; have n2 : ¬ w2.heap.size = w.heap.size := (by omega); (try (have hT2 := hh2.2 _ _ _ (Stc.new wk 46 [.int .i64 0, .slice none 0 0] _ rfl))))
      | (go_at_call 113; refine (HE.out _ ?_).mono ?_; (first | with_reducible assumption | (simp [*]; done)); rintro e w3 ⟨⟨g4, rfl, p4⟩, hh3, y0, y1, y2, y3, y4, y5, y6⟩; have s3 := y6.size; have n3 : ¬ w3.heap.size = w.heap.size := (by omega); have p3 : Bs w3 A2 12 (nonceL s) := (by first | exact hh3.1 _ _ _ p2 | exact hh3.1 _ _ _ (p2.alloc _)); (try (have hT3 := hh3.2 _ _ _ hT2)); (try (have hT3 := hh3.2 _ _ _ (Stc.new w2 46 [.int .i64 0, .slice none 0 0] _ rfl))))
      | (go_at_call 111; refine (HB.out _ A2 c2 g4 ?_ ?_ j2 ?_).mono ?_; (first | with_reducible assumption | (simp [*]; done)); (first | exact p3 | exact p3.alloc _); (first | exact p4 | exact p4.alloc _); rintro e w5 ⟨⟨A5, c5, rfl, o5, s4, j5, j6⟩, hh5, y0, y1, y2, y3, y4, y5, y6⟩; have s5 := y6.size; (try (have hb5 := hT3.lt)); (try (have hT5 := hh5.2 _ _ _ hT3)); (try (have hb5 := (Stc.new w3 46 [.int .i64 0, .slice none 0 0] _ rfl).lt; have hT5 := hh5.2 _ _ _ (Stc.new w3 46 [.int .i64 0, .slice none 0 0] _ rfl))); (try (have t0 := hT5.cell (i := 0) rfl)); (try (have t1 := hT5.cell (i := 1) rfl)); (try (have tf := hT5.frozen))))
    all_goals
      go_wp2_with fail
      go_meet
      first
        | exact ⟨_, A5, c5, rfl, Stc.new w5 46 _ _ rfl, (o5.alloc _).mono s4, j5, j6, s5, ab y6 _⟩
        | exact ⟨_, A5, c5, rfl, (hT5.set_ (i := 0) _).set_ (i := 1) _, ((o5.far hb5 _).far hb5 _).mono s4, j5, j6, (by first | exact Nat.le_refl _ | exact s2 | exact s3), (y6.setCell (by first | exact Nat.le_refl _ | exact s2 | exact s3) _).setCell (by first | exact Nat.le_refl _ | exact s2 | exact s3) _⟩
  case rest =>
    obtain ⟨bx, A5, c5, rfl, D5, o5, j5, j6, lb, B5⟩ := hcut
    clear HN HE HB x0 x1 x2 x3 x4 x5
    have d1 := D5.cell (i := 1) rfl
    have T5 := T0.below B5 T0.lt
    have Bz := ac Bk B5
    have PS : Pts (wc.alloc (.cells #[.slice (some ⟨g1, 0, none⟩) 4 4, .slice A5 60 c5] 22)) wc.heap.size [⟨some ⟨g1, 0, none⟩, 4, 4, hi4 s⟩, ⟨A5, 60, c5, sealL key (nonceL s) (hi4 s) E⟩] := by
      have S5 := Stc.new wc 22 [.slice (some ⟨g1, 0, none⟩) 4 4, .slice A5 60 c5] _ rfl
      refine ⟨S5.lt, ?_, ?_, ?_⟩
      · intro i p hp
        rcases i with _ | _ | i
        · obtain rfl := (Option.some.inj hp).symm; exact S5.cell (i := 0) rfl
        · obtain rfl := (Option.some.inj hp).symm; exact S5.cell (i := 1) rfl
        · simp at hp
      · intro i p hp
        rcases i with _ | _ | i
        · obtain rfl := (Option.some.inj hp).symm; exact (o1.bs.below B5).alloc _
        · obtain rfl := (Option.some.inj hp).symm; exact o5.bs.alloc _
        · simp at hp
      · intro i p hp
        rcases i with _ | _ | i
        · obtain rfl := (Option.some.inj hp).symm; intro e; cases e
        · obtain rfl := (Option.some.inj hp).symm; exact j6
        · simp at hp
    have CA : Shut (catL [⟨some ⟨g1, 0, none⟩, 4, 4, hi4 s⟩, ⟨A5, 60, c5, sealL key (nonceL s) (hi4 s) E⟩] = F ∧ sumN [⟨some ⟨g1, 0, none⟩, 4, 4, hi4 s⟩, ⟨A5, 60, c5, sealL key (nonceL s) (hi4 s) E⟩] = 64) := ⟨by rw [← FW.out]; simp [catL], by simp [sumN]⟩
    have HQ := Shut.mk (concat_any wc.heap.size 2 2 _ _ PS rfl (by omega) (by rw [CA.out.2]; omega))
    rw [CA.out.1, CA.out.2] at HQ
    clear PS CA
    go_wp2_with fail
    refine HQ.out.mono ?_
    rintro e w6 ⟨⟨A6, c6, rfl, r6⟩, b6⟩
    have T6 := (T5.alloc (.cells #[.slice (some ⟨g1, 0, none⟩) 4 4, .slice A5 60 c5] 22)).below b6 (by have := T5.lt; simp; omega)
    have B6 := ac (ab Bz (.cells #[.slice (some ⟨g1, 0, none⟩) 4 4, .slice A5 60 c5] 22)) b6
    have z5 := T5.lt
    have y0 := T6.cell (i := 0) rfl
    have y1 := T6.cell (i := 1) rfl
    have y2 := T6.frozen
    obtain ⟨q1, q2⟩ := r6.capX
    have o6 := r6.ow' LW.out
    clear D5 o5 d1 b6
    go_wp2
    refine bodyPost_ret (v := .agg #[.int .i64 0, .slice A6 64 c6]) (by simp [results, Tryz.results37, go_sem, y0, y1]) rfl ?_
    refine ⟨⟨A6, c6, rfl, ?_, q1, q2⟩, (B6.setCell (by simp) _).setCell (by simp) _⟩
    exact Rs.one (((o6.far (by simp; omega) _).far (by simp; omega) _).mono (by have := Bz.size; simp; omega))

theorem specSealCell_any (K : Option Addr) (n1 kc : Nat) (key : List Int) (s a b c d : Int) (v : Bool) (A : Option Addr) (n f : Nat) (l : List Int) (w : World) (hk : Bs w K n1 key) (hkc : n1 ≤ kc) (hA : Bs w A n l) (hcap : A = none → f = 0) :
    Calls Tryz.prog 42 #[.slice K n1 kc, .int .i64 s, .agg #[.int .i64 a, .int .i64 b, .int .i64 c, .int .i64 d, .bool v, .slice A n f]] w (WirAns (selC n1 s (cellC a b c d v n)) (wireL key s (cellL a b c d v l)) w) := by
  unfold selC
  by_cases h1 : n1 = 32
  · subst h1
    by_cases h2 : inB s 0 400 = true
    · rw [if_pos ⟨rfl, h2⟩]
      by_cases h3 : cellC a b c d v n = 0
      · rw [h3]; exact specSeal_yes K kc key s a b c d v A n f l w hk hkc hA hcap h2 h3
      · exact specSeal_cell K kc s a b c d v A n f _ w h2 h3
    · rw [if_neg (fun h => h2 h.2)]; exact specSeal_slot K kc s a b c d v A n f _ w (by simpa using h2)
  · rw [if_neg (fun h => h1 h.1)]; exact specSeal_key K n1 kc s a b c d v A n f _ w h1

theorem implSealCell_any (K : Option Addr) (n1 kc : Nat) (key : List Int) (s a b c d : Int) (v : Bool) (A : Option Addr) (n f : Nat) (l : List Int) (w : World) (hT : Quar w) (hk : Bs w K n1 key) (hkc : n1 ≤ kc) (hA : Bs w A n l) :
    Calls Tryz.prog 37 #[.slice K n1 kc, .int .i64 s, .agg #[.int .i64 a, .int .i64 b, .int .i64 c, .int .i64 d, .bool v, .slice A n f]] w (WirAns (selC n1 s (cellC a b c d v n)) (wireL key s (cellL a b c d v l)) w) := by
  unfold selC
  by_cases h1 : n1 = 32
  · subst h1
    by_cases h2 : inB s 0 400 = true
    · rw [if_pos ⟨rfl, h2⟩]
      by_cases h3 : cellC a b c d v n = 0
      · rw [h3]; exact implSeal_yes K kc key s a b c d v A n f l w hT hk hkc hA h2 h3
      · exact implSeal_cell K kc s a b c d v A n f _ w h2 h3
    · rw [if_neg (fun h => h2 h.2)]; exact implSeal_slot K kc s a b c d v A n f _ w (by simpa using h2)
  · rw [if_neg (fun h => h1 h.1)]; exact implSeal_key K n1 kc s a b c d v A n f _ w h1
end Go.Proofs.YtabhcolfkkfonaaGreatDoor

/-! SealCellW -/
/- The walk of the exact law of SealCell. -/
namespace Go.Proofs.YtabhcolfkkfonaaGreatDoor
open Go.RowKit

end Go.Proofs.YtabhcolfkkfonaaGreatDoor
