import Derived.Test.YtgmbofoneeagiaaDoorBase
import Derived.Test.YtgmbofoneeagiaaDoorMakX
import Derived.Test.YtgmbofoneeagiaaDoorPadX

/-! MaskP -/
/- A key, masked, of the program. -/
namespace Go.Proofs.YtgmbofoneeagiaaDoor
open Go.RowKit

/-- 64 bytes, the first m of them xored with x -/
def masked (l : List Int) (x : Int) (m : Nat) : List Int := (List.range 64).map fun i => if i < m then bits BinOp.xor IntKind.u8 (l.getD i 0) x else l.getD i 0
theorem masked_len (l : List Int) (x : Int) (m : Nat) : (masked l x m).length = 64 := by simp [masked]
theorem masked_get? (l : List Int) (x : Int) (m i : Nat) (hi : i < 64) : (masked l x m)[i]? = some (if i < m then bits BinOp.xor IntKind.u8 (l.getD i 0) x else l.getD i 0) := by
  unfold masked
  rw [List.getElem?_map, List.getElem?_range hi]; rfl
theorem masked_get (l : List Int) (x : Int) (m : Nat) (h : m < 64) : (masked l x m).getD m 0 = l.getD m 0 := by
  rw [List.getD, masked_get? l x m m h, if_neg (by omega)]; rfl
theorem masked_zero (l : List Int) (x : Int) (h : l.length ≤ 64) : laidOver (List.replicate 64 0) 0 l = masked l x 0 := by
  apply List.ext_getElem?
  intro i
  rcases Nat.lt_or_ge i 64 with hi | hi
  · rw [masked_get? l x 0 i hi, if_neg (by omega)]
    unfold laidOver
    rw [List.take_zero, List.nil_append, Nat.zero_add, List.drop_replicate]
    rcases Nat.lt_or_ge i l.length with h1 | h1
    · rw [List.getElem?_append_left h1]
      simp [List.getD, List.getElem?_eq_getElem h1]
    · rw [List.getElem?_append_right h1, List.getElem?_replicate, if_pos (by omega)]
      simp [List.getD, List.getElem?_eq_none h1]
  · rw [List.getElem?_eq_none (by rw [laidOver_len _ _ _ (by simpa using h)]; simpa using hi), List.getElem?_eq_none (by rw [masked_len]; exact hi)]
theorem masked_set (l : List Int) (x : Int) (m : Nat) (h : m < 64) : (masked l x m).set m (bits BinOp.xor IntKind.u8 (l.getD m 0) x) = masked l x (m + 1) := by
  apply List.ext_getElem?
  intro i
  rcases Nat.lt_or_ge i 64 with hi | hi
  · rw [masked_get? l x (m + 1) i hi]
    by_cases e : m = i
    · subst e
      rw [List.getElem?_set_self (by rw [masked_len]; exact h), if_pos (by omega)]
    · rw [List.getElem?_set_ne e, masked_get? l x m i hi]
      by_cases hl : i < m
      · rw [if_pos hl, if_pos (by omega)]
      · rw [if_neg hl, if_neg (by omega)]
  · rw [List.getElem?_eq_none (by rw [List.length_set, masked_len]; exact hi), List.getElem?_eq_none (by rw [masked_len]; exact hi)]
theorem masked_all (l : List Int) (x : Int) : masked l x 64 = keyed l x 64 := by
  unfold masked keyed
  apply List.map_congr_left
  intro i hi
  have : i < 64 := by simpa using hi
  rw [if_pos this, if_pos this]

end Go.Proofs.YtgmbofoneeagiaaDoor

/-! MacP -/
/- The mac of the program. -/
namespace Go.Proofs.YtgmbofoneeagiaaDoor
open Go.RowKit

theorem pts_one {w : World} {g : Nat} {A : Option Addr} {n c : Nat} {l : List Int} (hg : g < w.heap.size) (hc : w.cell? ⟨g, 0, none⟩ = some (.slice A n c)) (h : Bs w A n l) (h0 : A = none → c = 0) : Pts w g [⟨A, n, c, l⟩] :=
  ⟨hg, fun i p hp => by
    cases i with
    | zero => simp at hp; subst hp; exact hc
    | succ i => simp at hp,
   fun i p hp => by
    cases i with
    | zero => simp at hp; subst hp; exact h
    | succ i => simp at hp,
   fun i p hp => by
    cases i with
    | zero => simp at hp; subst hp; exact h0
    | succ i => simp at hp⟩
theorem pts_two {w : World} {g : Nat} {A B : Option Addr} {n c m d : Nat} {l r : List Int} (hg : g < w.heap.size) (hc : w.cell? ⟨g, 0, none⟩ = some (.slice A n c)) (hd : w.cell? ⟨g, 1, none⟩ = some (.slice B m d)) (h : Bs w A n l) (k : Bs w B m r) (h0 : A = none → c = 0) (k0 : B = none → d = 0) : Pts w g [⟨A, n, c, l⟩, ⟨B, m, d, r⟩] :=
  ⟨hg, fun i p hp => by
    rcases i with _ | _ | i
    · simp at hp; subst hp; exact hc
    · simp at hp; subst hp; exact hd
    · simp at hp,
   fun i p hp => by
    rcases i with _ | _ | i
    · simp at hp; subst hp; exact h
    · simp at hp; subst hp; exact k
    · simp at hp,
   fun i p hp => by
    rcases i with _ | _ | i
    · simp at hp; subst hp; exact h0
    · simp at hp; subst hp; exact k0
    · simp at hp⟩
theorem new_one (w : World) (a : Value) (t : TypeId) : (w.alloc (.cells #[a] t)).cell? ⟨w.heap.size, 0, none⟩ = some a := (one_new w a t).1
theorem new_two (w : World) (a b : Value) (t : TypeId) : (w.alloc (.cells #[a, b] t)).cell? ⟨w.heap.size, 0, none⟩ = some a ∧ (w.alloc (.cells #[a, b] t)).cell? ⟨w.heap.size, 1, none⟩ = some b :=
  ⟨(Two.new w t a b).cells.1, (Two.new w t a b).cells.2.1⟩

end Go.Proofs.YtgmbofoneeagiaaDoor
