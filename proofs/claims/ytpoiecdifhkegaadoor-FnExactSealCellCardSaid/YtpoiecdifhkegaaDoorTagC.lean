/- The tag of a box, of the model. -/
import Derived.Test.YtpoiecdifhkegaaDoorPolyC
import Derived.Test.YtpoiecdifhkegaaDoorBase
import Derived.Test.YtpoiecdifhkegaaDoorStreamC
namespace Go.Proofs.YtpoiecdifhkegaaDoor
open Go.RowKit

/-- what a box's tag is of -/
def tagA (more hidden : List Int) : List Int := fillL (fillL more ++ hidden)
def tagB (more hidden : List Int) : List Int := tagA more hidden ++ lowOf (more.length : Int) 7 ++ [0]
def tagD (more hidden : List Int) : List Int := tagB more hidden ++ lowOf (hidden.length : Int) 7 ++ [0]
/-- how many bytes the first of these has -/
def tagN (p q : Nat) : Nat := p + fillN p + q + fillN (p + fillN p + q)
theorem tagA_len (more hidden : List Int) : (tagA more hidden).length = tagN more.length hidden.length := by
  unfold tagA
  rw [fillL_len, List.length_append, fillL_len]
  rfl
theorem tagB_len (more hidden : List Int) : (tagB more hidden).length = tagN more.length hidden.length + 8 := by
  unfold tagB
  rw [List.length_append, List.length_append, tagA_len, lowOf_len]
  rfl
theorem tagD_len (more hidden : List Int) : (tagD more hidden).length = tagN more.length hidden.length + 16 := by
  unfold tagD
  rw [List.length_append, List.length_append, tagB_len, lowOf_len]
  rfl
theorem tagN_bd (p q : Nat) : tagN p q ≤ p + q + 30 := by unfold tagN fillN; omega
def boxTag (key nonce more hidden : List Int) : List Int := polyTag ((keyBlock key 0 nonce).take 32) (tagD more hidden)
theorem boxTag_len (key nonce more hidden : List Int) : (boxTag key nonce more hidden).length = 16 := polyTag_len _ _

theorem Row.cap {w : World} {B n c : Nat} {A : Option Addr} {l : List Int} (h : Row w B (.slice A n c) l) : n ≤ c := by
  rcases h.own.2 with ⟨e, _⟩ | ⟨g, cap, cur, e, _, _, hnc, _⟩
  · injection e with _ e2 e3
    omega
  · injection e with _ e2 e3
    omega

set_option maxRecDepth 100000 in
set_option maxHeartbeats 4000000 in
theorem l3Tag_any (A : Option Addr) (c : Nat) (key : List Int) (A2 : Option Addr) (c2 : Nat) (nonce : List Int) (A3 : Option Addr) (p c3 : Nat) (more : List Int) (A4 : Option Addr) (q c4 : Nat) (hidden : List Int) (w : World)
    (hk : Bs w A 32 key) (hc : 32 ≤ c) (hn : Bs w A2 12 nonce) (hc2 : 12 ≤ c2) (hm : Bs w A3 p more) (hp : p ≤ 2000) (hc3 : A3 = none → c3 = 0) (hh : Bs w A4 q hidden) (hq : q ≤ 2000) (hc4 : A4 = none → c4 = 0) :
    Calls Tryd.prog 45 #[.slice A 32 c, .slice A2 12 c2, .slice A3 p c3, .slice A4 q c4] w fun e w' => (∃ A' c', e = .returned (.slice A' 16 c') ∧ Row w' w.heap.size (.slice A' 16 c') (boxTag key nonce more hidden)) ∧ Below w.heap.size w w' := by
  have HT : Shut (boxTag key nonce more hidden = polyTag ((keyBlock key 0 nonce).take 32) (tagD more hidden)) := ⟨rfl⟩
  have HA : Shut (tagA more hidden = fillL (fillL more ++ hidden)) := ⟨rfl⟩
  have HB : Shut (tagB more hidden = tagA more hidden ++ lowOf (p : Int) 7 ++ [0]) := ⟨by rw [← hm.len]; rfl⟩
  have HD : Shut (tagD more hidden = tagB more hidden ++ lowOf (q : Int) 7 ++ [0]) := ⟨by rw [← hh.len]; rfl⟩
  have LA : Shut ((tagA more hidden).length = tagN p q) := ⟨by rw [tagA_len, hm.len, hh.len]⟩
  have LB : Shut ((tagB more hidden).length = tagN p q + 8) := ⟨by rw [tagB_len, hm.len, hh.len]⟩
  have LD : Shut ((tagD more hidden).length = tagN p q + 16) := ⟨by rw [tagD_len, hm.len, hh.len]⟩
  have LF : Shut ((fillL more).length = p + fillN p) := ⟨by rw [fillL_len, hm.len]⟩
  have LG : Shut ((fillL more ++ hidden).length = p + fillN p + q) := ⟨by rw [List.length_append, fillL_len, hm.len, hh.len]⟩
  have hN := tagN_bd p q
  have hF1 : fillN p ≤ 15 := by unfold fillN; omega
  have HNe : Shut (p + fillN p + q + fillN (p + fillN p + q) = tagN p q) := ⟨rfl⟩
  have Lm := Shut.mk hm.len
  generalize boxTag key nonce more hidden = T at *
  generalize tagD more hidden = D at *
  generalize tagB more hidden = DB at *
  generalize tagA more hidden = DA at *
  generalize tagN p q = N at *
  go_enter Tryd.func45, Tryd.ntmps45
  go_wp2_with fail
  refine (copyb_any A3 p c3 more w hm hc3 (by omega)).mono ?_
  rintro e w1 ⟨⟨A5, c5, rfl, hr1⟩, hb1⟩
  have hs1 := hb1.size
  go_wp2_with fail
  refine (l3Fill_any A5 p c5 w.heap.size more w1 hr1 Lm.out hs1 (by omega)).mono ?_
  rintro e w2 ⟨⟨A6, c6, rfl, hr2⟩, hb2⟩
  have hs2 := hb2.size
  have B2 : Below w.heap.size w w2 := hb1.trans hb2
  have hh2 := hh.below B2
  clear hr1 hb1 hb2
  go_wp2_with (at_builtin; refine wpList_row_join rfl _ _ rfl _ w.heap.size (.slice A6 (p + fillN p) c6) _ _ rfl hr2 (by omega) A4 q c4 rfl hh2 hc4 (by rw [LF.out]; omega) ?_; intro v3 w3 hr3 hb3 hs3; obtain ⟨A7, c7, rfl, _⟩ := hr3.ow LG.out)
  refine (l3Fill_any A7 (p + fillN p + q) c7 w.heap.size _ w3 hr3 LG.out (by omega) (by omega)).mono ?_
  rw [HNe.out, ← HA.out]
  rintro e w4 ⟨⟨A8, c8, rfl, hr4⟩, hb4⟩
  have hs4 := hb4.size
  have B4 : Below w.heap.size w w4 := (B2.trans hb3).trans hb4
  clear hr2 hr3 hb3 hb4 hh2 B2
  go_wp2_with fail
  refine (l1Low_any (p : Int) 7 w4 (by omega) (by omega) (by omega)).mono ?_
  rintro e w5 ⟨⟨A9, c9, rfl, how5⟩, hb5⟩
  have hs5 := hb5.size
  have row5 := hr4.keep (w' := w5) (fun g _ h2 => hb5.block g h2)
  have B5 : Below w.heap.size w w5 := B4.trans (hb5.mono (by omega))
  clear hr4 hb5 B4
  go_wp2_with (at_builtin; first
    | (refine wpList_row_join rfl _ _ rfl _ w.heap.size (.slice A8 N c8) _ _ rfl row5 (by omega) A9 7 c9 rfl how5.bs (how5.bs.cap_ (by omega)) (by rw [LA.out]; omega) ?_; intro v6 w6 hr6 hb6 hs6; obtain ⟨A10, c10, rfl, _⟩ := hr6.ow (n := N + 7) (by rw [List.length_append, LA.out, lowOf_len]))
    | (refine wpList_row_append rfl _ _ rfl _ w.heap.size (.slice A10 (N + 7) c10) _ rfl (hr6.alloc _) (by simp; omega) ⟨w6.heap.size, 0, none⟩ 1 0 rfl (cell_one _ _ _) (by omega) (by omega) (by rw [List.length_append, LA.out, lowOf_len]; omega) ?_; rw [← HB.out]; intro v7 w7 hr7 hb7 hs7; obtain ⟨A11, c11, rfl, _⟩ := hr7.ow LB.out))
  have hs6' : w5.heap.size ≤ w6.heap.size := hs6
  have hs7' : w6.heap.size < w7.heap.size := by rw [World.size_alloc] at hs7; omega
  have B7 : Below w.heap.size w w7 := ((B5.trans hb6).alloc (by omega) _).trans hb7
  refine (l1Low_any (q : Int) 7 w7 (by omega) (by omega) (by omega)).mono ?_
  rintro e w8 ⟨⟨A12, c12, rfl, how8⟩, hb8⟩
  have hs8 := hb8.size
  have row8 := hr7.keep (w' := w8) (fun g _ h2 => hb8.block g h2)
  have B8 : Below w.heap.size w w8 := B7.trans (hb8.mono (by omega))
  clear hr7 hb8 hb7 hr6 hb6 hs7 hs6 how5 row5 B5 B7
  go_wp2_with (at_builtin; first
    | (refine wpList_row_join rfl _ _ rfl _ w.heap.size (.slice A11 (N + 8) c11) _ _ rfl row8 (by omega) A12 7 c12 rfl how8.bs (how8.bs.cap_ (by omega)) (by rw [LB.out]; omega) ?_; intro v9 w9 hr9 hb9 hs9; obtain ⟨A13, c13, rfl, _⟩ := hr9.ow (n := N + 15) (by rw [List.length_append, LB.out, lowOf_len]))
    | (refine wpList_row_append rfl _ _ rfl _ w.heap.size (.slice A13 (N + 15) c13) _ rfl (hr9.alloc _) (by simp; omega) ⟨w9.heap.size, 0, none⟩ 1 0 rfl (cell_one _ _ _) (by omega) (by omega) (by rw [List.length_append, LB.out, lowOf_len]; omega) ?_; rw [← HD.out]; intro v10 w10 hr10 hb10 hs10; obtain ⟨A14, c14, rfl, _⟩ := hr10.ow LD.out))
  have hs9' : w8.heap.size ≤ w9.heap.size := hs9
  have hs10' : w9.heap.size < w10.heap.size := by rw [World.size_alloc] at hs10; omega
  have B10 : Below w.heap.size w w10 := ((B8.trans hb9).alloc (by omega) _).trans hb10
  have hcap := hr10.cap
  have hblk := l3Block_any A c key 0 A2 c2 nonce w10 (hk.below B10) hc (hn.below B10) hc2
  have Lk := Shut.mk (keyBlock_len key 0 nonce)
  generalize keyBlock key 0 nonce = K at *
  refine hblk.mono ?_
  rintro e w11 ⟨⟨A15, c15, rfl, hr11⟩, hb11⟩
  have hcap15 := hr11.cap
  have hs11 := hb11.size
  have B11 : Below w.heap.size w w11 := B10.trans (hb11.mono (by omega))
  have how11 := hr11.ow' Lk.out
  obtain ⟨gk, rfl, hgk, hgl, _⟩ := how11.at_ (by omega)
  have hk32 := how11.bs.part_ 0 32 (by omega)
  rw [Nat.add_zero, List.drop_zero] at hk32
  have hbd := (hr10.keep (w' := w11) (fun g _ h2 => hb11.block g h2)).ow' LD.out
  clear hr10 hr11 how11 hblk row8 how8 hr9 hb9 hb10 hb11 hs9 hs10 B8 B10
  go_wp2_with fail
  refine (l3Poly_any _ c15 (K.take 32) A14 (N + 16) c14 D w11 hk32 (by omega) hbd.bs (by omega) hcap).mono ?_
  rw [← HT.out]
  rintro e w12 ⟨⟨A16, c16, rfl, hr12⟩, hb12⟩
  go_wp2
  go_ret
  exact ⟨⟨A16, c16, rfl, hr12.mono (by omega)⟩, B11.trans (hb12.mono (by omega))⟩
end Go.Proofs.YtpoiecdifhkegaaDoor
