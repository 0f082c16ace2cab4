/- What is asked ahead of a mixing, and the two closures that mix. -/
import Derived.Test.YtknkadmngdaakaaDoorMixC
namespace Go.Proofs.YtknkadmngdaakaaDoor
open Go.RowKit

def askedC (h d k : Nat) (n : Int) (m : Nat) : Int := if symC h d k n = 0 then (if m ≤ 900 then 0 else 2) else symC h d k n

theorem l5Asked_any (b : Nat) (A B C : Option Addr) (h c d e k f : Nat) (n : Int) (t : TypeId) (D : Option Addr) (m g : Nat) (w : World) (hs : Stc w b [.slice A h c, .slice B d e, .slice C k f, .int .i64 n] t) :
    Calls Tryd.prog 30 #[.pointer (some ⟨b, 0, none⟩), .slice D m g] w fun e w' => e = .returned (.int .i64 (askedC h d k n m)) ∧ Below w.heap.size w w' := by
  have x0 := hs.cell (i := 0) rfl
  have x1 := hs.cell (i := 1) rfl
  have x2 := hs.cell (i := 2) rfl
  have x3 := hs.cell (i := 3) rfl
  have cs := spec_SymFault_any A B C h c d e f k n w
  by_cases hz : symC h d k n = 0
  · rw [hz] at cs
    by_cases hm : m ≤ 900
    · have ha : askedC h d k n m = 0 := by simp [askedC, hz, hm]
      rw [ha]
      clear ha hz
      go_enter Tryd.func30, Tryd.ntmps30
      go_wp2_with fail
      refine cs.mono ?_
      rintro e w1 ⟨rfl, b1⟩
      go_wp2
      go_ret
      exact ⟨rfl, b1⟩
    · have ha : askedC h d k n m = 2 := by simp [askedC, hz, hm]
      have hm2 : 900 < m := by omega
      rw [ha]
      clear ha hz hm
      go_enter Tryd.func30, Tryd.ntmps30
      go_wp2_with fail
      refine cs.mono ?_
      rintro e w1 ⟨rfl, b1⟩
      go_wp2
      go_ret
      exact ⟨rfl, b1⟩
  · have ha : askedC h d k n m = symC h d k n := by simp [askedC, hz]
    have hp : (symC h d k n != 0) = true := by rw [bne_iff_ne]; exact hz
    rw [ha]
    clear ha hz
    generalize symC h d k n = Z at *
    go_enter Tryd.func30, Tryd.ntmps30
    go_wp2_with fail
    refine cs.mono ?_
    rintro e w1 ⟨rfl, b1⟩
    go_wp2
    go_ret
    exact ⟨rfl, b1⟩

theorem mixHash1_any (b : Nat) (A B C : Option Addr) (c d e q f : Nat) (l r s : List Int) (k : Int) (t : TypeId) (D : Option Addr) (m g X : Nat) (u : List Int) (w : World) (hT : Tabs w) (hs : Stc w b [.slice A 32 c, .slice B d e, .slice C q f, .int .i64 k] t) (hR : Rs w X [(A, 32, l), (B, d, r), (C, q, s)]) (hX : X ≤ b) (h2 : Bs w D m u) (hd : D = none → g = 0) (hm : m ≤ 900) :
    Calls Tryd.prog 34 #[.pointer (some ⟨b, 0, none⟩), .slice D m g] w fun e' w' => ∃ A' c', e' = .returned (.slice none 0 0) ∧ Stc w' b [.slice A' 32 c', .slice B d e, .slice C q f, .int .i64 k] t ∧ Rs w' X [(A', 32, hashW (l ++ u)), (B, d, r), (C, q, s), (none, 0, [])] ∧ Save b w w' := by
  have hc := mixHash_any b 0 _ t A c l D m g u w hT hs rfl hR.head.bs (hR.head.bs.cap_ (by omega)) h2 hd (by omega)
  have hb := hs.lt
  have hN : NoByte [.slice A 32 c, .slice B d e, .slice C q f, .int .i64 k] := by intro v hv x; simp only [List.mem_cons, List.not_mem_nil, or_false] at hv; rcases hv with rfl | rfl | rfl | rfl <;> simp
  go_enter Tryd.func34, Tryd.ntmps34
  go_wp2_with fail
  refine hc.mono ?_
  rintro e' w1 ⟨rfl, A', c', S1, o1, _, sv⟩
  go_wp2
  go_returns
  obtain ⟨o0, s0, o2, s2, o3, _⟩ := hR
  have q2 := o2.save' hs hN sv
  have q3 := o3.save' hs hN sv
  refine ⟨A', c', rfl, S1, Rs.cons (o1.mono (by omega)) ?_ (Rs.cons q2 ?_ (Rs.cons q3 ?_ (Rs.cons (Ow.nil_ _ _) ?_ (Rs.nil _ _)))), sv⟩
  · intro y hy
    simp only [List.mem_cons, List.not_mem_nil, or_false] at hy
    rcases hy with rfl | rfl | rfl
    · intro hn hm' a b' ea eb; have h1 := o1.base hn a ea; have h2 := o2.top hm' b' eb; omega
    · intro hn hm' a b' ea eb; have h1 := o1.base hn a ea; have h2 := o3.top hm' b' eb; omega
    · intro _ h0; exact absurd h0 (by simp)
  · intro y hy
    simp only [List.mem_cons, List.not_mem_nil, or_false] at hy
    rcases hy with rfl | rfl
    · exact s2 _ (by simp)
    · intro _ h0; exact absurd h0 (by simp)
  · intro y hy
    simp only [List.mem_cons, List.not_mem_nil, or_false] at hy
    subst hy
    intro _ h0; exact absurd h0 (by simp)
  · intro y hy; cases hy

theorem mixKey1_any (b : Nat) (A B C : Option Addr) (c e q f : Nat) (l r s : List Int) (k : Int) (t : TypeId) (D : Option Addr) (m g X : Nat) (u : List Int) (w : World) (hT : Tabs w) (hs : Stc w b [.slice A 32 c, .slice B 32 e, .slice C q f, .int .i64 k] t) (hR : Rs w X [(A, 32, l), (B, 32, r), (C, q, s)]) (hX : X ≤ b) (h2 : Bs w D m u) (hd : D = none → g = 0) (hm : m ≤ 900) :
    Calls Tryd.prog 39 #[.pointer (some ⟨b, 0, none⟩), .slice D m g] w fun e' w' => ∃ B' d' C' f', e' = .returned (.slice none 0 0) ∧ Stc w' b [.slice A 32 c, .slice B' 32 d', .slice C' 32 f', .int .i64 0] t ∧ Rs w' X [(A, 32, l), (B', 32, firstW r u), (C', 32, otherW r u), (none, 0, [])] ∧ Save b w w' := by
  have hc := mixKey_any b 0 _ t B e r D m g u _ _ w hT hs rfl rfl rfl hR.rest.head.bs h2 hd (by omega)
  have hb := hs.lt
  have hN : NoByte [.slice A 32 c, .slice B 32 e, .slice C q f, .int .i64 k] := by intro v hv x; simp only [List.mem_cons, List.not_mem_nil, or_false] at hv; rcases hv with rfl | rfl | rfl | rfl <;> simp
  go_enter Tryd.func39, Tryd.ntmps39
  go_wp2_with fail
  refine hc.mono ?_
  rintro e' w1 ⟨rfl, B', d', C', f', S1, R1, sv⟩
  go_wp2
  go_returns
  obtain ⟨o0, _⟩ := hR
  have q0 := o0.save' hs hN sv
  obtain ⟨o2, s2, o3, _⟩ := R1
  refine ⟨B', d', C', f', rfl, S1, Rs.cons q0 ?_ (Rs.cons (o2.mono (by omega)) ?_ (Rs.cons (o3.mono (by omega)) ?_ (Rs.cons (Ow.nil_ _ _) ?_ (Rs.nil _ _)))), sv⟩
  · intro y hy
    simp only [List.mem_cons, List.not_mem_nil, or_false] at hy
    rcases hy with rfl | rfl | rfl
    · intro hn hm' a b' ea eb; have h1 := o0.top hn a ea; have h2 := o2.base hm' b' eb; omega
    · intro hn hm' a b' ea eb; have h1 := o0.top hn a ea; have h2 := o3.base hm' b' eb; omega
    · intro _ h0; exact absurd h0 (by simp)
  · intro y hy
    simp only [List.mem_cons, List.not_mem_nil, or_false] at hy
    rcases hy with rfl | rfl
    · exact s2 _ (by simp)
    · intro _ h0; exact absurd h0 (by simp)
  · intro y hy
    simp only [List.mem_cons, List.not_mem_nil, or_false] at hy
    subst hy
    intro _ h0; exact absurd h0 (by simp)
  · intro y hy; cases hy
end Go.Proofs.YtknkadmngdaakaaDoor
