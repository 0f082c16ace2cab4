/- DecodeCell, of the model. -/
import Derived.Test.YtpoiecdifhkegaaDecC
namespace Go.Proofs.Ytpoiecdifhkegaa
open Go.RowKit

/-- whether a text is a cell's -/
def decOk (p : List Int) : Bool := decide (fZ p ≤ 32) && decB p (fZ p).toNat
def decD (n : Nat) (p : List Int) : Bool := decide (n = 44) && decOk p
def decCode (n : Nat) (p : List Int) : Int := if n = 44 then (if decOk p = true then 0 else 5) else 2
def selI (b : Bool) (x : Int) : Int := if b = true then x else 0
def selB (b : Bool) (x : Bool) : Bool := b && x
def selN (b : Bool) (x : Nat) : Nat := if b = true then x else 0
def selL (b : Bool) (x : List Int) : List Int := if b = true then x else []

/-- the answer of DecodeCell: its bytes have their room -/
def DecAns (C : Int) (b : Bool) (p : List Int) (w : World) (e : Ending) (w' : World) : Prop :=
  (∃ A f, e = .returned (.agg #[.int .i64 C, .int .i64 0, .int .i64 (selI b (fK p)), .int .i64 (selI b (fS p)), .int .i64 (selI b (fA p)), .int .i64 (selI b (fM p)), .bool (selB b (fL p)), .slice A (selN b (fZ p).toNat) f]) ∧
    Rs w' w.heap.size [(A, selN b (fZ p).toNat, selL b (fB p (fZ p).toNat))] ∧ selN b (fZ p).toNat ≤ f ∧ (A = none → f = 0)) ∧ Below w.heap.size w w'
theorem DecAns.no {C : Int} {p : List Int} {w : World} {e : Ending} {w' : World} (he : e = .returned (.agg #[.int .i64 C, .int .i64 0, .int .i64 0, .int .i64 0, .int .i64 0, .int .i64 0, .bool false, .slice none 0 0])) (hb : Below w.heap.size w w') : DecAns C false p w e w' :=
  ⟨⟨none, 0, by rw [he]; simp [selI, selB, selN], Rs.one (Ow.nil_ _ _), Nat.le_refl _, fun _ => rfl⟩, hb⟩

set_option maxHeartbeats 1000000 in
theorem specDecodeCell_len (A : Option Addr) (n c : Nat) (p : List Int) (w : World) (h : ¬ n = 44) :
    Calls Try.prog 17 #[.slice A n c] w (DecAns 2 false p w) := by
  have hb : ((n : Int) != 44) = true := by rw [bne_iff_ne]; omega
  go_enter Try.func17, Try.ntmps17
  go_wp2
  refine bodyPost_ret (v := .agg #[.int .i64 2, .int .i64 0, .int .i64 0, .int .i64 0, .int .i64 0, .int .i64 0, .bool false, .slice none 0 0]) (by simp [results, Try.results17, go_sem]) rfl ?_
  exact DecAns.no rfl (by go_grown)

set_option maxHeartbeats 2000000 in
theorem specDecodeCell_yes (A : Option Addr) (c : Nat) (p : List Int) (w : World) (hl : (fB p (fZ p).toNat).length = (fZ p).toNat)
    (hc : ∀ W, Below w.heap.size w W → Calls Try.prog 50 #[.slice A 44 c] W fun e w' => (∃ A' c', e = .returned (.tuple #[.agg #[.int .i64 (fK p), .int .i64 (fS p), .int .i64 (fA p), .int .i64 (fM p), .bool (fL p), .slice A' (fZ p).toNat c'], .bool true]) ∧ Row w' W.heap.size (.slice A' (fZ p).toNat c') (fB p (fZ p).toNat)) ∧ Below W.heap.size W w') :
    Calls Try.prog 17 #[.slice A 44 c] w (DecAns 0 true p w) := by
  have T0 := Stc.new w 32 [.int .i64 0, .int .i64 0, .int .i64 0, .int .i64 0, .int .i64 0, .int .i64 0, .bool false, .slice none 0 0] _ rfl
  have B0 := ab (Below.refl _ w) (.cells #[.int .i64 0, .int .i64 0, .int .i64 0, .int .i64 0, .int .i64 0, .int .i64 0, .bool false, .slice none 0 0] 32)
  obtain ⟨k, hk⟩ : ∃ k, k = (fZ p).toNat := ⟨_, rfl⟩
  rw [← hk] at hc hl
  have HC := Shut.mk hc
  have HK := Shut.mk hk
  have HL := Shut.mk hl
  clear hc hk hl
  go_enter Try.func17, Try.ntmps17
  go_wp2_with fail
  refine (HC.out _ B0).mono ?_
  rintro e w1 ⟨⟨A', c', rfl, r1⟩, b1⟩
  have B1 := ac B0 b1
  replace T0 := T0.below b1 T0.lt
  clear B0 b1 HC
  go_upto_region 6 with (fail)
  generalize hq : (w1.alloc (.cells #[.int .i64 (fK p), .int .i64 (fS p), .int .i64 (fA p), .int .i64 (fM p), .bool (fL p), .slice A' k c'] 25)) = w2 at *
  have D2 : Stc w2 w1.heap.size [.int .i64 (fK p), .int .i64 (fS p), .int .i64 (fA p), .int .i64 (fM p), .bool (fL p), .slice A' k c'] 25 := by rw [← hq]; exact Stc.new w1 _ _ _ rfl
  have T2 : Stc w2 w.heap.size [.int .i64 0, .int .i64 0, .int .i64 0, .int .i64 0, .int .i64 0, .int .i64 0, .bool false, .slice none 0 0] 32 := by rw [← hq]; exact T0.alloc _
  have B2 : Below w.heap.size w w2 := by rw [← hq]; exact ab B1 _
  have o2 : Ow w2 (w.heap.size + 1) A' k (fB p k) := by rw [← hq]; exact ((r1.ow' HL.out).mono (by simp)).alloc _
  obtain ⟨j1, j2⟩ := r1.capX
  have zl : w.heap.size < w1.heap.size := T0.lt
  clear hq
  have t0 := T2.cell (i := 0) rfl
  have t1 := T2.cell (i := 1) rfl
  have t2 := T2.cell (i := 2) rfl
  have t3 := T2.cell (i := 3) rfl
  have t4 := T2.cell (i := 4) rfl
  have t5 := T2.cell (i := 5) rfl
  have t6 := T2.cell (i := 6) rfl
  have t7 := T2.cell (i := 7) rfl
  have tf := T2.frozen
  have d0 := D2.cell (i := 0) rfl
  have d1 := D2.cell (i := 1) rfl
  have d2 := D2.cell (i := 2) rfl
  have d3 := D2.cell (i := 3) rfl
  have d4 := D2.cell (i := 4) rfl
  have d5 := D2.cell (i := 5) rfl
  go_wp2
  refine bodyPost_ret (v := .agg #[.int .i64 0, .int .i64 0, .int .i64 (fK p), .int .i64 (fS p), .int .i64 (fA p), .int .i64 (fM p), .bool (fL p), .slice A' k c']) (by simp [results, Try.results17, go_sem, t0, t1, t2, t3, t4, t5, t6, t7]) rfl ?_
  refine ⟨⟨A', c', by simp [selI, selB, selN, ← HK.out], ?_, by simpa [selN, ← HK.out] using j1, j2⟩, (((((((B2.setCell (by simp) _).setCell (by simp) _).setCell (by simp) _).setCell (by simp) _).setCell (by simp) _).setCell (by simp) _).setCell (by simp) _).setCell (by simp) _⟩
  simp only [selN, selL, if_pos, ← HK.out]
  refine Rs.one (((((((((o2.far ?_ _).far ?_ _).far ?_ _).far ?_ _).far ?_ _).far ?_ _).far ?_ _).far ?_ _).mono (Nat.le_succ _))
  all_goals simp

set_option maxHeartbeats 2000000 in
theorem specDecodeCell_no (A : Option Addr) (c : Nat) (p : List Int) (w : World)
    (hc : ∀ W, Below w.heap.size w W → Calls Try.prog 50 #[.slice A 44 c] W fun e w' => (∃ (a b d f : Int) (v : Bool) (A' : Option Addr) (k c' : Nat), e = .returned (.tuple #[.agg #[.int .i64 a, .int .i64 b, .int .i64 d, .int .i64 f, .bool v, .slice A' k c'], .bool false])) ∧ Below W.heap.size W w') :
    Calls Try.prog 17 #[.slice A 44 c] w (DecAns 5 false p w) := by
  have T0 := Stc.new w 32 [.int .i64 0, .int .i64 0, .int .i64 0, .int .i64 0, .int .i64 0, .int .i64 0, .bool false, .slice none 0 0] _ rfl
  have B0 := ab (Below.refl _ w) (.cells #[.int .i64 0, .int .i64 0, .int .i64 0, .int .i64 0, .int .i64 0, .int .i64 0, .bool false, .slice none 0 0] 32)
  have HC := Shut.mk hc
  clear hc
  go_enter Try.func17, Try.ntmps17
  go_wp2_with fail
  refine (HC.out _ B0).mono ?_
  rintro e w1 ⟨⟨a, b, d, f, v, A', k, c', rfl⟩, b1⟩
  have B1 := ac B0 b1
  replace T0 := T0.below b1 T0.lt
  clear B0 b1 HC
  go_upto_region 5 with (fail)
  generalize hq : (w1.alloc (.cells #[.int .i64 a, .int .i64 b, .int .i64 d, .int .i64 f, .bool v, .slice A' k c'] 25)) = w2 at *
  have D2 : Stc w2 w1.heap.size [.int .i64 a, .int .i64 b, .int .i64 d, .int .i64 f, .bool v, .slice A' k c'] 25 := by rw [← hq]; exact Stc.new w1 _ _ _ rfl
  have T2 : Stc w2 w.heap.size [.int .i64 0, .int .i64 0, .int .i64 0, .int .i64 0, .int .i64 0, .int .i64 0, .bool false, .slice none 0 0] 32 := by rw [← hq]; exact T0.alloc _
  have B2 : Below w.heap.size w w2 := by rw [← hq]; exact ab B1 _
  have zl : w.heap.size < w1.heap.size := T0.lt
  clear hq
  have t0 := T2.cell (i := 0) rfl
  have t1 := T2.cell (i := 1) rfl
  have t2 := T2.cell (i := 2) rfl
  have t3 := T2.cell (i := 3) rfl
  have t4 := T2.cell (i := 4) rfl
  have t5 := T2.cell (i := 5) rfl
  have t6 := T2.cell (i := 6) rfl
  have t7 := T2.cell (i := 7) rfl
  have tf := T2.frozen
  have d0 := D2.cell (i := 0) rfl
  have d1 := D2.cell (i := 1) rfl
  have d2 := D2.cell (i := 2) rfl
  have d3 := D2.cell (i := 3) rfl
  have d4 := D2.cell (i := 4) rfl
  have d5 := D2.cell (i := 5) rfl
  go_wp2
  refine bodyPost_ret (v := .agg #[.int .i64 5, .int .i64 0, .int .i64 0, .int .i64 0, .int .i64 0, .int .i64 0, .bool false, .slice none 0 0]) (by simp [results, Try.results17, go_sem, t0, t1, t2, t3, t4, t5, t6, t7]) rfl ?_
  exact DecAns.no rfl ((((((((B2.setCell (by simp) _).setCell (by simp) _).setCell (by simp) _).setCell (by simp) _).setCell (by simp) _).setCell (by simp) _).setCell (by simp) _).setCell (by simp) _)

theorem specDecodeCell_any (g n c : Nat) (p : List Int) (w : World) (hp : Bs w (some ⟨g, 0, none⟩) n p) (hc : n ≤ c) :
    Calls Try.prog 17 #[.slice (some ⟨g, 0, none⟩) n c] w (DecAns (decCode n p) (decD n p) p w) := by
  by_cases h : n = 44
  · subst h
    have hz := fZ_bd hp.byte
    obtain ⟨k, hk⟩ := Int.eq_ofNat_of_zero_le hz.1
    have e1 : (fZ p).toNat = k := by rw [hk]; rfl
    have e4 : decD 44 p = decOk p := by simp [decD]
    rw [e4]
    have e5 : decCode 44 p = (if decOk p = true then 0 else 5) := by simp [decCode]
    rw [e5]
    by_cases h32 : k ≤ 32
    · have hd : decOk p = decB p k := by
        unfold decOk
        rw [e1, decide_eq_true (by rw [hk]; omega)]
        simp
      have H := fun W (hW : Below w.heap.size w W) => l6Decode_le g c p W (hp.below hW) hc k hk h32
      cases hb : decB p k
      · rw [hd, hb]
        rw [hb] at H
        exact specDecodeCell_no _ c p w fun W hW => (H W hW).mono fun e w' ⟨⟨A', c', he, _⟩, hB⟩ => ⟨⟨_, _, _, _, _, _, _, _, he⟩, hB⟩
      · rw [hd, hb]
        rw [hb] at H
        have hl := fB_len hp.len k (by omega)
        rw [← e1] at H hl
        exact specDecodeCell_yes _ c p w hl H
    · have hd : decOk p = false := by
        unfold decOk
        rw [decide_eq_false (by rw [hk]; omega)]
        simp
      rw [hd]
      exact specDecodeCell_no _ c p w fun W hW => (l6Decode_gt g c p W (hp.below hW) hc k hk h32).mono fun e w' ⟨he, hB⟩ => ⟨⟨_, _, _, _, _, _, _, _, he⟩, hB⟩
  · have e1 : decCode n p = 2 := by simp [decCode, h]
    have e2 : decD n p = false := by simp [decD, h]
    rw [e1, e2]
    exact specDecodeCell_len _ n c p w h
end Go.Proofs.Ytpoiecdifhkegaa
