/- A block of SHA-256, of the model. -/
import Derived.Test.YtpoiecdifhkegaaDoorShaC
import Derived.Test.YtpoiecdifhkegaaDoorBase
namespace Go.Proofs.YtpoiecdifhkegaaDoor
open Go.RowKit

def andW (a b : Int) : Int := bits BinOp.and IntKind.u32 a b
def notW (a : Int) : Int := bits BinOp.xor IntKind.u32 IntKind.u32.max a
def bigE (e : Int) : Int := xorW (xorW (rightW e 6) (rightW e 11)) (rightW e 25)
def bigA (a : Int) : Int := xorW (xorW (rightW a 2) (rightW a 13)) (rightW a 22)
def chW (e f g : Int) : Int := xorW (andW e f) (andW (notW e) g)
def majW (a b c : Int) : Int := xorW (xorW (andW a b) (andW a c)) (andW b c)
def tOne (V : List Int) (k x : Int) : Int := addW (addW (addW (addW (V.getD 7 0) (bigE (V.getD 4 0))) (chW (V.getD 4 0) (V.getD 5 0) (V.getD 6 0))) k) x
def tTwo (V : List Int) : Int := addW (bigA (V.getD 0 0)) (majW (V.getD 0 0) (V.getD 1 0) (V.getD 2 0))
def stepV (V : List Int) (k x : Int) : List Int :=
  [addW (tOne V k x) (tTwo V), V.getD 0 0, V.getD 1 0, V.getD 2 0, addW (V.getD 3 0) (tOne V k x), V.getD 4 0, V.getD 5 0, V.getD 6 0]
def roundsV (H l : List Int) : Nat → List Int
  | 0 => H
  | t + 1 => stepV (roundsV H l t) (roundWords.getD t 0) ((sched l 64).getD t 0)
def Wd (l : List Int) : Prop := ∀ x ∈ l, 0 ≤ x ∧ x < 4294967296
theorem Wd.get {l : List Int} (h : Wd l) (i : Nat) : 0 ≤ l.getD i 0 ∧ l.getD i 0 < 4294967296 := by
  rcases Nat.lt_or_ge i l.length with hi | hi
  · have e : l.getD i 0 = l[i] := by simp [List.getD, List.getElem?_eq_getElem hi]
    rw [e]; exact h _ (List.getElem_mem hi)
  · have e : l.getD i 0 = 0 := by simp [List.getD, List.getElem?_eq_none hi]
    rw [e]; omega
theorem addW_bd (a b : Int) : 0 ≤ addW a b ∧ addW a b < 4294967296 := by unfold addW; omega
theorem stepV_wd (V : List Int) (k x : Int) (h : Wd V) : Wd (stepV V k x) := by
  intro y hy
  simp only [stepV, List.mem_cons, List.not_mem_nil, or_false] at hy
  rcases hy with rfl | rfl | rfl | rfl | rfl | rfl | rfl | rfl
  all_goals first | exact addW_bd _ _ | exact h.get _
theorem roundsV_wd (H l : List Int) (h : Wd H) (t : Nat) : Wd (roundsV H l t) := by
  induction t with
  | zero => exact h
  | succ t ih => exact stepV_wd _ _ _ ih
theorem roundsV_len (H l : List Int) (h : H.length = 8) (t : Nat) : (roundsV H l t).length = 8 := by
  cases t with
  | zero => exact h
  | succ t => rfl
def blockW (H l : List Int) : List Int := (List.range 8).map fun i => addW (H.getD i 0) ((roundsV H l 64).getD i 0)

theorem roundWords_wd (t : Nat) : 0 ≤ roundWords.getD t 0 ∧ roundWords.getD t 0 < 4294967296 := by
  have h : Wd roundWords := by unfold Wd; decide
  exact h.get t

/-- a call that leaves the world alone, inside a region that only reads -/
theorem quiet_right {P : Program} {f : FuncId} {args : Array Value} {W : World} {v : Value} {X : Nat → World} (h : Calls P f args W fun e w' => e = .returned v ∧ W = w') (hm : ∃ m, W = X m) :
    Calls P f args W fun e w'' => e = .returned v ∧ ∃ m, w'' = X m :=
  h.mono fun _ _ ⟨he, hw⟩ => ⟨he, by rw [← hw]; exact hm⟩

theorem list8 (L : List Int) (h : L.length = 8) : L = [L.getD 0 0, L.getD 1 0, L.getD 2 0, L.getD 3 0, L.getD 4 0, L.getD 5 0, L.getD 6 0, L.getD 7 0] := by
  match L, h with
  | [a, b, c, d, e, f, g, i], _ => rfl

/-- a cell of the call's own, set -/
theorem below_own {g : Nat} {a w : World} (h : Below g a w) (i : Nat) (v : Value) : Below g a (w.setCell ⟨g, i, none⟩ v) := h.setCell (Nat.le_refl g) v

/-- the words moved up by one, and two of them new -/
theorem moved_up {w : World} {g : Nat} {V0 V1 V2 V3 V4 V5 V6 V7 : Int} (h : KOw .u32 w g [V0, V1, V2, V3, V4, V5, V6, V7]) (a b : Int) :
    KOw .u32 (((((((((w.setCell ⟨g, 7, none⟩ (.int .u32 V6)).setCell ⟨g, 6, none⟩ (.int .u32 V5)).setCell ⟨g, 5, none⟩ (.int .u32 V4)).setCell ⟨g, 4, none⟩ (.int .u32 V3)).setCell ⟨g, 3, none⟩ (.int .u32 V2)).setCell ⟨g, 2, none⟩ (.int .u32 V1)).setCell ⟨g, 1, none⟩ (.int .u32 V0)).setCell ⟨g, 4, none⟩ (.int .u32 a)).setCell ⟨g, 0, none⟩ (.int .u32 b)) g [b, V0, V1, V2, a, V4, V5, V6] := by
  have h1 := h.set_ 7 (by simp) V6
  have h2 := h1.set_ 6 (by simp) V5
  have h3 := h2.set_ 5 (by simp) V4
  have h4 := h3.set_ 4 (by simp) V3
  have h5 := h4.set_ 3 (by simp) V2
  have h6 := h5.set_ 2 (by simp) V1
  have h7 := h6.set_ 1 (by simp) V0
  have h8 := h7.set_ 4 (by simp) a
  have h9 := h8.set_ 0 (by simp) b
  simp only [List.set_cons_succ, List.set_cons_zero] at h9
  exact h9

/-- the first m words put together with those of the rounds -/
def mixTo (H V : List Int) (m : Nat) : List Int := (List.range 8).map fun i => if i < m then addW (H.getD i 0) (V.getD i 0) else H.getD i 0
theorem mixTo_len (H V : List Int) (m : Nat) : (mixTo H V m).length = 8 := by simp [mixTo]
theorem mixTo_get? (H V : List Int) (m i : Nat) (hi : i < 8) : (mixTo H V m)[i]? = some (if i < m then addW (H.getD i 0) (V.getD i 0) else H.getD i 0) := by
  unfold mixTo
  rw [List.getElem?_map, List.getElem?_range hi]; rfl
theorem mixTo_get (H V : List Int) (m : Nat) (h : m < 8) : (mixTo H V m).getD m 0 = H.getD m 0 := by
  rw [List.getD, mixTo_get? H V m m h, if_neg (by omega)]; rfl
theorem mixTo_zero (H V : List Int) (h : H.length = 8) : mixTo H V 0 = H := by
  apply List.ext_getElem?
  intro i
  rcases Nat.lt_or_ge i 8 with hi | hi
  · rw [mixTo_get? H V 0 i hi, if_neg (by omega)]
    simp [List.getD, List.getElem?_eq_getElem (show i < H.length by omega)]
  · rw [List.getElem?_eq_none (by rw [mixTo_len]; exact hi), List.getElem?_eq_none (by omega)]
theorem mixTo_set (H V : List Int) (m : Nat) (h : m < 8) : (mixTo H V m).set m (addW (H.getD m 0) (V.getD m 0)) = mixTo H V (m + 1) := by
  apply List.ext_getElem?
  intro i
  rcases Nat.lt_or_ge i 8 with hi | hi
  · rw [mixTo_get? H V (m + 1) i hi]
    by_cases e : m = i
    · subst e
      rw [List.getElem?_set_self (by rw [mixTo_len]; exact h), if_pos (by omega)]
    · rw [List.getElem?_set_ne e, mixTo_get? H V m i hi]
      by_cases hl : i < m
      · rw [if_pos hl, if_pos (by omega)]
      · rw [if_neg hl, if_neg (by omega)]
  · rw [List.getElem?_eq_none (by rw [List.length_set, mixTo_len]; exact hi), List.getElem?_eq_none (by rw [mixTo_len]; exact hi)]
theorem mixTo_all (H l : List Int) : mixTo H (roundsV H l 64) 8 = blockW H l := by
  unfold mixTo blockW
  apply List.map_congr_left
  intro i hi
  rw [if_pos (by simpa using hi)]

end Go.Proofs.YtpoiecdifhkegaaDoor
