/- A block of SHA-256, of the model. -/
import Derived.Test.YtgmbofoneeagiaaDoorShaC
import Derived.Test.YtgmbofoneeagiaaDoorBase
namespace Go.Proofs.YtgmbofoneeagiaaDoor
open Go.RowKit

def andW (a b : Int) : Int := bits BinOp.and IntKind.u32 a b
def notW (a : Int) : Int := bits BinOp.xor IntKind.u32 IntKind.u32.max a
def bigE (e : Int) : Int := xorW (xorW (rightW e 6) (rightW e 11)) (rightW e 25)
def bigA (a : Int) : Int := xorW (xorW (rightW a 2) (rightW a 13)) (rightW a 22)
def chW (e f g : Int) : Int := xorW (andW e f) (andW (notW e) g)
def majW (a b c : Int) : Int := xorW (xorW (andW a b) (andW a c)) (andW b c)
def tOne (V : List Int) (k x : Int) : Int := addW (addW (addW (addW (V.getD 7 0) (bigE (V.getD 4 0))) (chW (V.getD 4 0) (V.getD 5 0) (V.getD 6 0))) k) x
def tTwo (V : List Int) : Int := addW (bigA (V.getD 0 0)) (majW (V.getD 0 0) (V.getD 1 0) (V.getD 2 0))
def stepV (V : List Int) (k x : Int) : List Int :=
  [addW (tOne V k x) (tTwo V), V.getD 0 0, V.getD 1 0, V.getD 2 0, addW (V.getD 3 0) (tOne V k x), V.getD 4 0, V.getD 5 0, V.getD 6 0]
def roundsV (H l : List Int) : Nat → List Int
  | 0 => H
  | t + 1 => stepV (roundsV H l t) (roundWords.getD t 0) ((sched l 64).getD t 0)
def Wd (l : List Int) : Prop := ∀ x ∈ l, 0 ≤ x ∧ x < 4294967296
theorem Wd.get {l : List Int} (h : Wd l) (i : Nat) : 0 ≤ l.getD i 0 ∧ l.getD i 0 < 4294967296 := by
  rcases Nat.lt_or_ge i l.length with hi | hi
  · have e : l.getD i 0 = l[i] := by simp [List.getD, List.getElem?_eq_getElem hi]
    rw [e]; exact h _ (List.getElem_mem hi)
  · have e : l.getD i 0 = 0 := by simp [List.getD, List.getElem?_eq_none hi]
    rw [e]; omega
theorem addW_bd (a b : Int) : 0 ≤ addW a b ∧ addW a b < 4294967296 := by unfold addW; omega
theorem stepV_wd (V : List Int) (k x : Int) (h : Wd V) : Wd (stepV V k x) := by
  intro y hy
  simp only [stepV, List.mem_cons, List.not_mem_nil, or_false] at hy
  rcases hy with rfl | rfl | rfl | rfl | rfl | rfl | rfl | rfl
  all_goals first | exact addW_bd _ _ | exact h.get _
theorem roundsV_wd (H l : List Int) (h : Wd H) (t : Nat) : Wd (roundsV H l t) := by
  induction t with
  | zero => exact h
  | succ t ih => exact stepV_wd _ _ _ ih
theorem roundsV_len (H l : List Int) (h : H.length = 8) (t : Nat) : (roundsV H l t).length = 8 := by
  cases t with
  | zero => exact h
  | succ t => rfl
def blockW (H l : List Int) : List Int := (List.range 8).map fun i => addW (H.getD i 0) ((roundsV H l 64).getD i 0)

theorem roundWords_wd (t : Nat) : 0 ≤ roundWords.getD t 0 ∧ roundWords.getD t 0 < 4294967296 := by
  have h : Wd roundWords := by unfold Wd; decide
  exact h.get t

/-- a call that leaves the world alone, inside a region that only reads -/
theorem quiet_right {P : Program} {f : FuncId} {args : Array Value} {W : World} {v : Value} {X : Nat → World} (h : Calls P f args W fun e w' => e = .returned v ∧ W = w') (hm : ∃ m, W = X m) :
    Calls P f args W fun e w'' => e = .returned v ∧ ∃ m, w'' = X m :=
  h.mono fun _ _ ⟨he, hw⟩ => ⟨he, by rw [← hw]; exact hm⟩

theorem list8 (L : List Int) (h : L.length = 8) : L = [L.getD 0 0, L.getD 1 0, L.getD 2 0, L.getD 3 0, L.getD 4 0, L.getD 5 0, L.getD 6 0, L.getD 7 0] := by
  match L, h with
  | [a, b, c, d, e, f, g, i], _ => rfl

/-- a cell of the call's own, set -/
theorem below_own {g : Nat} {a w : World} (h : Below g a w) (i : Nat) (v : Value) : Below g a (w.setCell ⟨g, i, none⟩ v) := h.setCell (Nat.le_refl g) v

/-- the words moved up by one, and two of them new -/
theorem moved_up {w : World} {g : Nat} {V0 V1 V2 V3 V4 V5 V6 V7 : Int} (h : KOw .u32 w g [V0, V1, V2, V3, V4, V5, V6, V7]) (a b : Int) :
    KOw .u32 (((((((((w.setCell ⟨g, 7, none⟩ (.int .u32 V6)).setCell ⟨g, 6, none⟩ (.int .u32 V5)).setCell ⟨g, 5, none⟩ (.int .u32 V4)).setCell ⟨g, 4, none⟩ (.int .u32 V3)).setCell ⟨g, 3, none⟩ (.int .u32 V2)).setCell ⟨g, 2, none⟩ (.int .u32 V1)).setCell ⟨g, 1, none⟩ (.int .u32 V0)).setCell ⟨g, 4, none⟩ (.int .u32 a)).setCell ⟨g, 0, none⟩ (.int .u32 b)) g [b, V0, V1, V2, a, V4, V5, V6] := by
  have h1 := h.set_ 7 (by simp) V6
  have h2 := h1.set_ 6 (by simp) V5
  have h3 := h2.set_ 5 (by simp) V4
  have h4 := h3.set_ 4 (by simp) V3
  have h5 := h4.set_ 3 (by simp) V2
  have h6 := h5.set_ 2 (by simp) V1
  have h7 := h6.set_ 1 (by simp) V0
  have h8 := h7.set_ 4 (by simp) a
  have h9 := h8.set_ 0 (by simp) b
  simp only [List.set_cons_succ, List.set_cons_zero] at h9
  exact h9

/-- the first m words put together with those of the rounds -/
def mixTo (H V : List Int) (m : Nat) : List Int := (List.range 8).map fun i => if i < m then addW (H.getD i 0) (V.getD i 0) else H.getD i 0
theorem mixTo_len (H V : List Int) (m : Nat) : (mixTo H V m).length = 8 := by simp [mixTo]
theorem mixTo_get? (H V : List Int) (m i : Nat) (hi : i < 8) : (mixTo H V m)[i]? = some (if i < m then addW (H.getD i 0) (V.getD i 0) else H.getD i 0) := by
  unfold mixTo
  rw [List.getElem?_map, List.getElem?_range hi]; rfl
theorem mixTo_get (H V : List Int) (m : Nat) (h : m < 8) : (mixTo H V m).getD m 0 = H.getD m 0 := by
  rw [List.getD, mixTo_get? H V m m h, if_neg (by omega)]; rfl
theorem mixTo_zero (H V : List Int) (h : H.length = 8) : mixTo H V 0 = H := by
  apply List.ext_getElem?
  intro i
  rcases Nat.lt_or_ge i 8 with hi | hi
  · rw [mixTo_get? H V 0 i hi, if_neg (by omega)]
    simp [List.getD, List.getElem?_eq_getElem (show i < H.length by omega)]
  · rw [List.getElem?_eq_none (by rw [mixTo_len]; exact hi), List.getElem?_eq_none (by omega)]
theorem mixTo_set (H V : List Int) (m : Nat) (h : m < 8) : (mixTo H V m).set m (addW (H.getD m 0) (V.getD m 0)) = mixTo H V (m + 1) := by
  apply List.ext_getElem?
  intro i
  rcases Nat.lt_or_ge i 8 with hi | hi
  · rw [mixTo_get? H V (m + 1) i hi]
    by_cases e : m = i
    · subst e
      rw [List.getElem?_set_self (by rw [mixTo_len]; exact h), if_pos (by omega)]
    · rw [List.getElem?_set_ne e, mixTo_get? H V m i hi]
      by_cases hl : i < m
      · rw [if_pos hl, if_pos (by omega)]
      · rw [if_neg hl, if_neg (by omega)]
  · rw [List.getElem?_eq_none (by rw [List.length_set, mixTo_len]; exact hi), List.getElem?_eq_none (by rw [mixTo_len]; exact hi)]
theorem mixTo_all (H l : List Int) : mixTo H (roundsV H l 64) 8 = blockW H l := by
  unfold mixTo blockW
  apply List.map_congr_left
  intro i hi
  rw [if_pos (by simpa using hi)]

set_option maxRecDepth 100000 in
set_option maxHeartbeats 10000000 in
theorem l2Block_any (g0 c bc : Nat) (A : Option Addr) (H l : List Int) (w : World) (hH : KOw .u32 w g0 H) (hH8 : H.length = 8) (hwd : Wd H) (h : Bs w A 64 l) (hbc : 64 ≤ bc) :
    Calls Tryd.prog 33 #[.slice (some ⟨g0, 0, none⟩) 8 c, .slice A 64 bc] w fun e w' => e = .returned (.tuple #[]) ∧ KOw .u32 w' g0 (blockW H l) ∧ But g0 w.heap.size w w' := by
  have HH := Lib.hid hH8
  clear hH8
  go_enter Tryd.func33, Tryd.ntmps33
  go_wp2_with fail
  refine (l2Words_any A bc l w h hbc).mono ?_
  rintro e w1 ⟨rfl, kw, b1⟩
  have s1 := kw.lt
  go_wp2_with fail
  refine (l2Round_any w1).mono ?_
  rintro e w2 ⟨rfl, kr, b2⟩
  have s2 := kr.lt
  have kw2 := kw.below b2 s1
  have hl0 := hH.lt
  have hH2 := (hH.below b1 hl0).below b2 (by omega)
  go_wp2_with (at_builtin; refine wpList_words_copy rfl _ _ rfl _ w2.heap.size g0 8 c H rfl (heap_alloc_new w2 _) rfl HH.out (hH2.alloc _) (by omega) ?_ (by omega); intro g cg w3 kv hg hb3 hs3)
  have kw3 := (kw2.alloc (.cells #[] 44)).below hb3 (by omega)
  have kr3 := (kr.alloc (.cells #[] 44)).below hb3 (by omega)
  have hH3 := (hH2.alloc (.cells #[] 44)).below hb3 (by omega)
  clear kw kr kw2 hH2
  go_loopw [7] (fun i wr => ∃ t : Nat, t ≤ 64 ∧ i = .int .i64 (t : Int) ∧ KOw .u32 wr g (roundsV H l t) ∧ Below g w3 wr) (fun i _ => 64 - (intOf i).toNat)
  case atStart => exact ⟨0, by omega, rfl, kv, Below.refl _ _⟩
  case round =>
    obtain ⟨t, ht, rfl, hv, hbel⟩ := hrel
    have hV8 := roundsV_len H l HH.out t
    have hVw := roundsV_wd H l hwd t
    have hsw := sched_word l h.byte 64 t
    have hrw := roundWords_wd t
    by_cases hlt : t < 64
    · have cW := (kw3.below hbel (by omega)).cell (i := t) (by rw [sched_len]; exact hlt)
      have cR := (kr3.below hbel (by omega)).cell (i := t) hlt
      have Hs : Hid (roundsV H l (t + 1) = stepV (roundsV H l t) (roundWords.getD t 0) ((sched l 64).getD t 0)) := rfl
      have c0 := hv.cell 0 (by omega)
      have c1 := hv.cell 1 (by omega)
      have c2 := hv.cell 2 (by omega)
      have c3 := hv.cell 3 (by omega)
      have c4 := hv.cell 4 (by omega)
      have c5 := hv.cell 5 (by omega)
      have c6 := hv.cell 6 (by omega)
      have c7 := hv.cell 7 (by omega)
      have f0 := hv.frozen 0
      have f1 := hv.frozen 1
      have f2 := hv.frozen 2
      have f3 := hv.frozen 3
      have f4 := hv.frozen 4
      have f5 := hv.frozen 5
      have f6 := hv.frozen 6
      have f7 := hv.frozen 7
      have d0 := hVw.get 0
      have d1 := hVw.get 1
      have d2 := hVw.get 2
      have d3 := hVw.get 3
      have d4 := hVw.get 4
      have d5 := hVw.get 5
      have d6 := hVw.get 6
      have d7 := hVw.get 7
      have Hv := Lib.hid hv
      have HL := Lib.hid (list8 _ hV8)
      unfold stepV tOne tTwo at Hs
      clear hv hV8 hVw
      generalize (roundsV H l t).getD 0 0 = V0 at *
      generalize (roundsV H l t).getD 1 0 = V1 at *
      generalize (roundsV H l t).getD 2 0 = V2 at *
      generalize (roundsV H l t).getD 3 0 = V3 at *
      generalize (roundsV H l t).getD 4 0 = V4 at *
      generalize (roundsV H l t).getD 5 0 = V5 at *
      generalize (roundsV H l t).getD 6 0 = V6 at *
      generalize (roundsV H l t).getD 7 0 = V7 at *
      generalize roundWords.getD t 0 = KT at *
      generalize (sched l 64).getD t 0 = WT at *
      obtain ⟨d00, d01⟩ := d0
      obtain ⟨d10, d11⟩ := d1
      obtain ⟨d20, d21⟩ := d2
      obtain ⟨d30, d31⟩ := d3
      obtain ⟨d40, d41⟩ := d4
      obtain ⟨d50, d51⟩ := d5
      obtain ⟨d60, d61⟩ := d6
      obtain ⟨d70, d71⟩ := d7
      obtain ⟨hs0, hs1⟩ := hsw
      obtain ⟨hr0, hr1⟩ := hrw
      go_wp2
      go_quiet ((go_at_call 40; exact quiet_right (l2Right_any _ _ (by omega) (by omega) _) ⟨_, rfl⟩))
      go_wp2
      go_quiet ((go_at_call 40; exact quiet_right (l2Right_any _ _ (by omega) (by omega) _) ⟨_, rfl⟩))
      go_wp2
      have Ht1 : Hid ((V7 + bits BinOp.xor IntKind.u32 (bits BinOp.xor IntKind.u32 (rightW V4 6) (rightW V4 11)) (rightW V4 25) + bits BinOp.xor IntKind.u32 (bits BinOp.and IntKind.u32 V4 V5) (bits BinOp.and IntKind.u32 (bits BinOp.xor IntKind.u32 IntKind.u32.max V4) V6) + KT + WT) % 4294967296 = addW (addW (addW (addW V7 (bigE V4)) (chW V4 V5 V6)) KT) WT) := by
        show (V7 + bigE V4 + chW V4 V5 V6 + KT + WT) % 4294967296 = _
        unfold addW; omega
      have Ht2 : Hid ((bits BinOp.xor IntKind.u32 (bits BinOp.xor IntKind.u32 (rightW V0 2) (rightW V0 13)) (rightW V0 22) + bits BinOp.xor IntKind.u32 (bits BinOp.xor IntKind.u32 (bits BinOp.and IntKind.u32 V0 V1) (bits BinOp.and IntKind.u32 V0 V2)) (bits BinOp.and IntKind.u32 V1 V2)) % 4294967296 = addW (bigA V0) (majW V0 V1 V2)) := rfl
      have e1 := addW_bd (addW (addW (addW V7 (bigE V4)) (chW V4 V5 V6)) KT) WT
      have e2 := addW_bd (bigA V0) (majW V0 V1 V2)
      rw [Ht1.out, Ht2.out]
      generalize addW (addW (addW (addW V7 (bigE V4)) (chW V4 V5 V6)) KT) WT = T1 at e1 Hs ⊢
      generalize addW (bigA V0) (majW V0 V1 V2) = T2 at e2 Hs ⊢
      obtain ⟨e10, e11⟩ := e1
      obtain ⟨e20, e21⟩ := e2
      clear Ht1 Ht2
      go_rounds 8
      have hv0 : KOw .u32 wr g [V0, V1, V2, V3, V4, V5, V6, V7] := by rw [← HL.out]; exact Hv.out
      refine ⟨⟨t + 1, by omega, by go_num, ?_, ?_⟩, by simp [intOf]; omega⟩
      · rw [Hs.out]
        unfold addW
        exact moved_up (hv0.drewN _) _ _
      · iterate 9 refine below_own ?_ _ _
        exact below_drewN hbel _
    · obtain rfl : t = 64 := by omega
      have B3 : Below w.heap.size w w3 := (ab (ac b1 b2) (.cells #[] 44)).trans (hb3.mono (by omega))
      have B0 : But g0 w.heap.size w wr := But.of_below (B3.trans (hbel.mono (by omega)))
      have hHr := hH3.below hbel (by omega)
      have hgt : g < wr.heap.size := hv.lt
      clear hsw hrw kw3 kr3 hH3 hbel
      go_wp2
      simp only [Int.cast_ofNat_Int]
      go_loopw [13] (fun i wq => ∃ m : Nat, m ≤ 8 ∧ i = .int .i64 (m : Int) ∧ KOw .u32 wq g0 (mixTo H (roundsV H l 64) m) ∧ KOw .u32 wq g (roundsV H l 64) ∧ But g0 w.heap.size w wq) (fun i _ => 8 - (intOf i).toNat)
      case atStart => exact ⟨0, by omega, rfl, by rw [mixTo_zero _ _ HH.out]; exact hHr, hv, B0⟩
      case round =>
        obtain ⟨m, hm, rfl, hm0, hmv, hbut⟩ := hrel
        by_cases hlm : m < 8
        · have hml := mixTo_len H (roundsV H l 64) m
          have q0 := hm0.cell m (by omega)
          rw [mixTo_get _ _ _ hlm] at q0
          have q1 := hmv.cell m (by omega)
          have qf := hm0.frozen m
          have r0 := hwd.get m
          have r1 := hVw.get m
          have Hset := Lib.hid (mixTo_set H (roundsV H l 64) m hlm)
          generalize H.getD m 0 = HM at *
          generalize (roundsV H l 64).getD m 0 = VM at *
          obtain ⟨r00, r01⟩ := r0
          obtain ⟨r10, r11⟩ := r1
          have Hvv := Lib.hid hVw
          have hmi : (m : Int) < 8 := by omega
          clear hml hVw hv hHr hV8
          go_wp2
          go_region
          all_goals
            go_wp2
            refine ⟨⟨m + 1, by omega, by go_num, ?_, ?_, ?_⟩, by simp [intOf]; omega⟩
            · rw [← Hset.out]
              exact (hm0.set_ m (by rw [mixTo_len]; exact hlm) _).drew
            · exact (hmv.far (p := ⟨g0, m, none⟩) (by simp; omega) _).drew
            · exact (hbut.setCell m _).drewN 1
        · obtain rfl : m = 8 := by omega
          go_wp2
          go_end0
          rw [mixTo_all] at hm0
          exact ⟨rfl, hm0, hbut⟩
end Go.Proofs.YtgmbofoneeagiaaDoor
