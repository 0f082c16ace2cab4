/- What is mixed into a state, by the model and by the program. -/
import Derived.Test.YtknkadmngdaakaaDoorSplitC
namespace Go.Proofs.YtknkadmngdaakaaDoor
open Go.RowKit

theorem Stc.drew {w : World} {b : Nat} {l : List Value} {t : TypeId} (h : Stc w b l t) : Stc w.drew b l t := h
theorem Rs.drew {w : World} {B : Nat} {L : List (Option Addr × Nat × List Int)} (h : Rs w B L) : Rs w.drew B L := h.map fun _ _ k => k.drew
theorem Save.drew {x : Nat} {w w' : World} (h : Save x w w') : Save x w w'.drew := ⟨h.os, h.tape, h.output, h.size, h.block⟩
/-- a run whose room is known -/
theorem Roomy.nil {A : Option Addr} {n c : Nat} (h : Roomy A n c) : A = none → c = 0 := h.2

set_option maxHeartbeats 1000000 in
theorem l5MixHash_any (b o : Nat) (L : List Value) (t : TypeId) (A : Option Addr) (c : Nat) (l : List Int) (D : Option Addr) (m d : Nat) (r : List Int) (w : World) (hs : Stc w b L t) (hL : L[o]? = some (.slice A 32 c)) (h1 : Bs w A 32 l) (hc : A = none → c = 0) (h2 : Bs w D m r) (hd : D = none → d = 0) (hm : m ≤ 100000000) :
    Calls Tryd.prog 32 #[.pointer (some ⟨b, o, none⟩), .slice D m d] w fun e w' => e = .returned (.tuple #[]) ∧ ∃ A' c', Stc w' b (L.set o (.slice A' 32 c')) t ∧ Ow w' w.heap.size A' 32 (hashW (l ++ r)) ∧ Roomy A' 32 c' ∧ Save b w w' := by
  have x0 := hs.cell hL
  have x1 := hs.frozen o
  have hb := hs.lt
  have hl := h1.len
  have hr := h2.len
  go_enter Tryd.func32, Tryd.ntmps32
  go_wp2_with fail
  refine (copyb_any _ _ _ _ _ h1 hc (by omega)).mono ?_
  rintro e w1 ⟨⟨A1, c1, rfl, r1⟩, b1⟩
  clear x0 x1
  go_wp2_with (at_builtin; refine wpList_row_join rfl _ _ rfl _ w.heap.size (.slice A1 32 c1) _ _ rfl r1 b1.size D m d rfl (h2.below b1) hd (by rw [hl]; omega) ?_; intro v2 w2 r2 b2 s2)
  obtain ⟨A2, c2, rfl, o2⟩ := r2.ow (n := 32 + m) (by rw [List.length_append, hl, hr])
  refine (l2Hash_any A2 (32 + m) c2 (l ++ r) w2 o2.bs (o2.bs.cap_ (by omega)) (by omega)).mono ?_
  rintro e w3 ⟨⟨A3, c3, rfl, r3⟩, b3⟩
  have s1 := b1.size
  have BB : Below w.heap.size w w3 := (b1.trans b2).trans (b3.mono (by omega))
  have S3 := hs.below BB hb
  have x0 := S3.cell hL
  have x1 := S3.frozen o
  have o3 := r3.ow' (hashW_len (l ++ r))
  have hro : Roomy A3 32 c3 := ⟨r3.cap_, r3.cap0⟩
  go_wp2
  go_end0
  refine ⟨rfl, A3, c3, S3.set_ _, (o3.far (by simp; omega) _).mono (by omega), hro, (Save.ofBelow BB).set_ _ _⟩

set_option maxHeartbeats 1000000 in
theorem l5MixKey_any (b o : Nat) (L : List Value) (t : TypeId) (A : Option Addr) (n c : Nat) (l : List Int) (D : Option Addr) (m d : Nat) (r : List Int) (u2 u3 : Value) (w : World) (hs : Stc w b L t) (hL : L[o + 1]? = some (.slice A n c)) (hL2 : L[o + 2]? = some u2) (hL3 : L[o + 3]? = some u3) (h1 : Bs w A n l) (h2 : Bs w D m r) (hd : D = none → d = 0) (hm : m ≤ 100000000) :
    Calls Tryd.prog 38 #[.pointer (some ⟨b, o, none⟩), .slice D m d] w fun e w' => e = .returned (.tuple #[]) ∧ ∃ A' c' B' d', Stc w' b (((L.set (o + 1) (.slice A' 32 c')).set (o + 2) (.slice B' 32 d')).set (o + 3) (.int .i64 0)) t ∧ Rs w' w.heap.size [(A', 32, firstW l r), (B', 32, otherW l r)] ∧ Save b w w' := by
  have x0 := hs.cell hL
  have x1 := hs.frozen
  have hb := hs.lt
  go_enter Tryd.func38, Tryd.ntmps38
  go_wp2_with fail
  refine (l2Keys_any _ _ _ _ _ _ _ _ _ h1 h2 hd hm).mono ?_
  rintro e w1 ⟨⟨A1, c1, A2, c2, rfl, o1, o2, ha⟩, b1⟩
  clear x0 x1
  have S1 := hs.below b1 hb
  have x0 := S1.cell hL
  have x2 := S1.cell hL2
  have x3 := S1.cell hL3
  have x1 := S1.frozen
  go_wp2
  go_end0
  have R : Rs w1 w.heap.size [(A1, 32, firstW l r), (A2, 32, otherW l r)] := by
    refine Rs.cons o1 ?_ (Rs.cons o2 ?_ (Rs.nil _ _))
    · intro y hy
      simp only [List.mem_cons, List.not_mem_nil, or_false] at hy
      subst hy
      exact ha
    · intro y hy; cases hy
  exact ⟨rfl, A1, c1, A2, c2, ((S1.set_ _).set_ _).set_ _, ((R.far hb _).far hb _).far hb _, (((Save.ofBelow b1).set_ _ _).set_ _ _).set_ _ _⟩

set_option maxHeartbeats 1000000 in
theorem mixHash_any (b o : Nat) (L : List Value) (t : TypeId) (A : Option Addr) (c : Nat) (l : List Int) (D : Option Addr) (m d : Nat) (r : List Int) (w : World) (hT : Tabs w) (hs : Stc w b L t) (hL : L[o]? = some (.slice A 32 c)) (h1 : Bs w A 32 l) (hc : A = none → c = 0) (h2 : Bs w D m r) (hd : D = none → d = 0) (hm : m ≤ 100000) :
    Calls Tryd.prog 35 #[.pointer (some ⟨b, o, none⟩), .slice D m d] w fun e w' => e = .returned (.tuple #[]) ∧ ∃ A' c', Stc w' b (L.set o (.slice A' 32 c')) t ∧ Ow w' w.heap.size A' 32 (hashW (l ++ r)) ∧ Roomy A' 32 c' ∧ Save b w w' := by
  have x0 := hs.cell hL
  have x1 := hs.frozen o
  have hb := hs.lt
  have P0 : Pts (w.alloc (.cells #[.slice A 32 c, .slice D m d] 22)) w.heap.size [⟨A, 32, c, l⟩, ⟨D, m, d, r⟩] := by
    refine ⟨by simp, ?_, ?_, ?_⟩
    · intro i p hp
      rcases i with _ | _ | i
      · simp at hp; subst hp; simp [go_sem]
      · simp at hp; subst hp; simp [go_sem]
      · simp at hp
    · intro i p hp
      rcases i with _ | _ | i
      · simp at hp; subst hp; exact h1.alloc _
      · simp at hp; subst hp; exact h2.alloc _
      · simp at hp
    · intro i p hp
      rcases i with _ | _ | i
      · simp at hp; subst hp; exact hc
      · simp at hp; subst hp; exact hd
      · simp at hp
  have hcat : catL [⟨A, 32, c, l⟩, ⟨D, m, d, r⟩] = l ++ r := by simp [catL]
  have B0 := ab (Below.refl _ w) (.cells #[.slice A 32 c, .slice D m d] 22)
  have hp := hashParts_any w.heap.size 2 2 _ _ (hT.keep B0) P0 rfl (by omega) (by simp [sumN]; omega)
  rw [hcat] at hp
  clear P0 hcat
  go_enter Tryd.func35, Tryd.ntmps35
  go_wp2_with fail
  refine hp.mono ?_
  rintro e w1 ⟨⟨A3, c3, rfl, r3⟩, b1⟩
  have BB := ac B0 b1
  have S3 := hs.below BB hb
  clear x0 x1 hp
  have x0 := S3.cell hL
  have x1 := S3.frozen o
  have o3 := r3.ow' (hashW_len (l ++ r))
  have hro : Roomy A3 32 c3 := ⟨r3.cap_, r3.cap0⟩
  go_wp2
  go_end0
  refine ⟨rfl, A3, c3, S3.set_ _, (o3.far (by simp; omega) _).mono (by simp), hro, (Save.ofBelow BB).set_ _ _⟩

set_option maxRecDepth 100000 in
set_option maxHeartbeats 1000000 in
theorem mixKey_any (b o : Nat) (L : List Value) (t : TypeId) (A : Option Addr) (c : Nat) (l : List Int) (D : Option Addr) (m d : Nat) (r : List Int) (u2 u3 : Value) (w : World) (hT : Tabs w) (hs : Stc w b L t) (hL : L[o + 1]? = some (.slice A 32 c)) (hL2 : L[o + 2]? = some u2) (hL3 : L[o + 3]? = some u3) (h1 : Bs w A 32 l) (h2 : Bs w D m r) (hd : D = none → d = 0) (hm : m ≤ 1000) :
    Calls Tryd.prog 40 #[.pointer (some ⟨b, o, none⟩), .slice D m d] w fun e w' => e = .returned (.tuple #[]) ∧ ∃ A' c' B' d', Stc w' b (((L.set (o + 1) (.slice A' 32 c')).set (o + 2) (.slice B' 32 d')).set (o + 3) (.int .i64 0)) t ∧ Rs w' w.heap.size [(A', 32, firstW l r), (B', 32, otherW l r)] ∧ Save b w w' := by
  have x0 := hs.cell hL
  have hb := hs.lt
  have hk := fun W (hW : Below w.heap.size w W) => implKeysOf_any A D 32 c m d l r W (hT.keep hW) (h1.below hW) (h2.below hW) hd (by omega) (by omega)
  have e0 : kcode 32 m = 0 := by simp [kcode, hm]
  have e1 : klen 32 m = 32 := by simp [klen, hm]
  have e2 : kbytes 32 m (firstW l r) = firstW l r := by simp [kbytes, hm]
  have e3 : kbytes 32 m (otherW l r) = otherW l r := by simp [kbytes, hm]
  simp only [e0, e1, e2, e3] at hk
  clear e0 e1 e2 e3
  generalize firstW l r = F at *
  generalize otherW l r = O at *
  go_enter Tryd.func40, Tryd.ntmps40
  go_wp2_with fail
  refine (hk _ (Below.refl _ _)).mono ?_
  rintro e w1 ⟨⟨A1, c1, A2, c2, rfl, o1, o2, ha⟩, b1⟩
  clear hk x0
  have S1 := hs.below b1 hb
  have s1 := b1.size
  have hb1 := S1.lt
  have x0 := (S1.alloc (.cells #[.int .i64 0, .slice A1 32 c1, .slice A2 32 c2] 40)).cell hL
  have x2 := (S1.alloc (.cells #[.int .i64 0, .slice A1 32 c1, .slice A2 32 c2] 40)).cell hL2
  have x3 := (S1.alloc (.cells #[.int .i64 0, .slice A1 32 c1, .slice A2 32 c2] 40)).cell hL3
  have x1 := (S1.alloc (.cells #[.int .i64 0, .slice A1 32 c1, .slice A2 32 c2] 40)).frozen
  have T1 := Stc.new w1 40 [.int .i64 0, .slice A1 32 c1, .slice A2 32 c2] _ rfl
  have y1 := T1.cell (i := 1) rfl
  have y2 := T1.cell (i := 2) rfl
  have y3 := T1.frozen
  have v0 := S1.cell hL
  have v2 := S1.cell hL2
  have v3 := S1.cell hL3
  have v1 := S1.frozen
  have hne : ¬ b = w1.heap.size := by omega
  have hne2 : ¬ w1.heap.size = b := by omega
  go_wp2_with fail
  go_region
  go_end0
  have R : Rs w1 w.heap.size [(A1, 32, F), (A2, 32, O)] := by
    refine Rs.cons o1 ?_ (Rs.cons o2 ?_ (Rs.nil _ _))
    · intro y hy
      simp only [List.mem_cons, List.not_mem_nil, or_false] at hy
      subst hy
      exact ha
    · intro y hy; cases hy
  exact ⟨rfl, A1, c1, A2, c2, Stc.drew ((((S1.set_ _).set_ _).set_ _).alloc _), Rs.drew ((((R.far hb _).far hb _).far hb _).alloc _), Save.drew (((((Save.ofBelow b1).set_ _ _).set_ _ _).set_ _ _).trans (Save.ofBelow (ab (Below.refl _ _) _)))⟩
end Go.Proofs.YtknkadmngdaakaaDoor
