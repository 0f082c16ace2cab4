/- The answers that bear a state. -/
import Derived.Test.YtknkadmngdaakaaDoorSymC
namespace Go.Proofs.YtknkadmngdaakaaDoor
open Go.RowKit

theorem eqSymResult_any (x : Int) (A B C D A' B' C' D' : Option Addr) (n m q p c d f g c' d' f' g' : Nat) (l r s t : List Int) (k : Int) (w : World) (h1 : Bs w A n l) (h2 : Bs w B m r) (h3 : Bs w C q s) (h4 : Bs w D p t) (h1' : Bs w A' n l) (h2' : Bs w B' m r) (h3' : Bs w C' q s) (h4' : Bs w D' p t) (hn : n ≤ 140737488351232) (hm : m ≤ 140737488351232) (hq : q ≤ 140737488351232) (hp : p ≤ 140737488351232) :
    Calls Tryd.prog 12 #[.agg #[.int .i64 x, .slice A n c, .slice B m d, .slice C q f, .int .i64 k, .slice D p g], .agg #[.int .i64 x, .slice A' n c', .slice B' m d', .slice C' q f', .int .i64 k, .slice D' p g']] w fun e w' => e = .returned (.bool true) ∧ Below w.heap.size w w' := by
  have e4 := fun W a b => eqByteS_any D D' p g p g' t t W a b hp hp
  simp only [decide_true] at e4
  go_enter Tryd.func12, Tryd.ntmps12
  go_wp2_with fail
  refine (eqSym_any _ _ _ _ _ _ _ _ _ _ _ _ _ _ _ _ _ _ _ _ ((h1.alloc _).alloc _) ((h2.alloc _).alloc _) ((h3.alloc _).alloc _) ((h1'.alloc _).alloc _) ((h2'.alloc _).alloc _) ((h3'.alloc _).alloc _) hn hm hq).mono ?_
  rintro e w1 ⟨rfl, b1⟩
  have S0 := ((Stc.new w 28 [.int .i64 x, .slice A n c, .slice B m d, .slice C q f, .int .i64 k, .slice D p g] _ rfl).alloc (.cells #[.int .i64 x, .slice A' n c', .slice B' m d', .slice C' q f', .int .i64 k, .slice D' p g'] 28)).below b1 (by simp; omega)
  have S1 := ((Stc.new (w.alloc (.cells #[.int .i64 x, .slice A n c, .slice B m d, .slice C q f, .int .i64 k, .slice D p g] 28)) 28 [.int .i64 x, .slice A' n c', .slice B' m d', .slice C' q f', .int .i64 k, .slice D' p g'] _ rfl)).below b1 (by simp)
  simp only [World.size_alloc] at S1
  have x0 := S0.cell (i := 5) rfl
  have x1 := S1.cell (i := 5) rfl
  go_wp2_with fail
  refine (e4 _ (((h4.alloc _).alloc _).below b1) (((h4'.alloc _).alloc _).below b1)).mono ?_
  rintro e w' ⟨rfl, q3, rfl⟩
  go_wp2
  go_returns
  exact ⟨rfl, ad (ac (ab (ab (Below.refl _ _) _) _) b1) _⟩

theorem markSymResult_any (x : Int) (A B C D : Option Addr) (n m q p c d f g X : Nat) (l r s t : List Int) (z k : Int) (w : World) (h : Rs w X [(A, n, l), (B, m, r), (C, q, s), (D, p, t)]) (hk0 : 0 ≤ k) (hk : k ≤ 1407374883512) (hn : n ≤ 1407374883512) (hm : m ≤ 1407374883512) (hq : q ≤ 1407374883512) (hp : p ≤ 1407374883512) :
    Calls Tryd.prog 17 #[.agg #[.int .i64 x, .slice A n c, .slice B m d, .slice C q f, .int .i64 z, .slice D p g], .int .i64 k] w fun e w' => e = .returned (.int .i64 (k + (n : Int) + (m : Int) + (q : Int) + (p : Int))) ∧
      Rs w' X [(A, n, marks k n), (B, m, marks (k + (n : Int)) m), (C, q, marks (k + (n : Int) + (m : Int)) q), (D, p, marks (k + (n : Int) + (m : Int) + (q : Int)) p)] ∧ Touch [(A, n, l), (B, m, r), (C, q, s), (D, p, t)] w w' := by
  have hA := h.tops
  have t0 : Touch [(A, n, l), (B, m, r), (C, q, s), (D, p, t)] w (w.alloc (.cells #[.int .i64 x, .slice A n c, .slice B m d, .slice C q f, .int .i64 z, .slice D p g] 28)) := Touch.ofBelow (ab (Below.refl _ w) _)
  have S0 := Stc.new w 28 [.int .i64 x, .slice A n c, .slice B m d, .slice C q f, .int .i64 z, .slice D p g] _ rfl
  have h3 : Rs w X [(A, n, l), (B, m, r), (C, q, s)] := by
    obtain ⟨o1, s1, o2, s2, o3, s3, o4, _⟩ := h
    refine Rs.cons o1 ?_ (Rs.cons o2 ?_ (Rs.cons o3 ?_ (Rs.nil _ _)))
    · intro y hy; exact s1 y (by simp only [List.mem_cons, List.not_mem_nil, or_false] at hy ⊢; rcases hy with rfl | rfl <;> simp)
    · intro y hy; exact s2 y (by simp only [List.mem_cons, List.not_mem_nil, or_false] at hy ⊢; subst hy; simp)
    · intro y hy; cases hy
  obtain ⟨_, s1, _, s2, _, s3, o4, _⟩ := h
  have s14 := s1 (D, p, t) (by simp)
  have s24 := s2 (D, p, t) (by simp)
  have s34 := s3 (D, p, t) (by simp)
  have hA : ∀ y ∈ [(A, n, l), (B, m, r), (C, q, s), (D, p, t)], 0 < y.2.1 → ∀ a, y.1 = some a → a.block ≠ w.heap.size := fun y hy h0 a ha => Nat.ne_of_lt (hA y hy h0 a ha)
  have hsub : ∀ y ∈ [(A, n, l), (B, m, r), (C, q, s)], y ∈ [(A, n, l), (B, m, r), (C, q, s), (D, p, t)] := fun y hy => by
    simp only [List.mem_cons, List.not_mem_nil, or_false] at hy ⊢
    rcases hy with h | h | h <;> simp [h]
  have sA : ∀ y ∈ [(A, n, l), (B, m, r), (C, q, s)], Sunder p y.2.1 D y.1 := fun y hy => by
    simp only [List.mem_cons, List.not_mem_nil, or_false] at hy
    rcases hy with rfl | rfl | rfl
    · exact s14.symm
    · exact s24.symm
    · exact s34.symm
  go_enter Tryd.func17, Tryd.ntmps17
  go_wp2_with fail
  refine (markSym_any _ _ _ _ _ _ _ _ _ _ _ _ _ _ _ _ (h3.alloc _) hk0 (by omega) (by omega) (by omega) (by omega)).mono ?_
  rintro e w1 ⟨rfl, m1, t1⟩
  have t2 := t0.trans (t1.wider hsub)
  replace S0 := S0.touch (t1.wider hsub) hA
  replace o4 := (o4.alloc _).touch t1 sA
  have x1 := S0.cell (i := 5) rfl
  go_wp2_with fail
  refine (markByteS_any _ _ _ _ _ _ _ o4 (by omega) (by omega) (by omega)).mono ?_
  rintro e w2 ⟨rfl, m4, on2⟩
  have t3 := t2.trans (Touch.ofOnly (L := [(A, n, l), (B, m, r), (C, q, s), (D, p, t)]) (l := t) on2 (by simp))
  obtain ⟨m1, u1, m2, u2, m3, u3, _⟩ := m1
  replace m1 := m1.only' on2 s14.symm
  replace m2 := m2.only' on2 s24.symm
  replace m3 := m3.only' on2 s34.symm
  go_wp2
  go_returns
  refine ⟨rfl, Rs.cons m1 ?_ (Rs.cons m2 ?_ (Rs.cons m3 ?_ (Rs.cons m4 ?_ (Rs.nil _ _)))), t3⟩
  · intro y hy
    simp only [List.mem_cons, List.not_mem_nil, or_false] at hy
    rcases hy with rfl | rfl | rfl
    · exact u1 _ (by simp)
    · exact u1 _ (by simp)
    · exact s14
  · intro y hy
    simp only [List.mem_cons, List.not_mem_nil, or_false] at hy
    rcases hy with rfl | rfl
    · exact u2 _ (by simp)
    · exact s24
  · intro y hy
    simp only [List.mem_cons, List.not_mem_nil, or_false] at hy
    subst hy
    exact s34
  · intro y hy; cases hy

theorem heldSymResult_any (x : Int) (A B C D : Option Addr) (n m q p c d f g : Nat) (z k : Int) (w : World) (h1 : Bs w A n (marks k n)) (h2 : Bs w B m (marks (k + (n : Int)) m)) (h3 : Bs w C q (marks (k + (n : Int) + (m : Int)) q)) (h4 : Bs w D p (marks (k + (n : Int) + (m : Int) + (q : Int)) p)) (hk0 : 0 ≤ k) (hk : k ≤ 1407374883512) (hn : n ≤ 1407374883512) (hm : m ≤ 1407374883512) (hq : q ≤ 1407374883512) (hp : p ≤ 1407374883512) :
    Calls Tryd.prog 18 #[.agg #[.int .i64 x, .slice A n c, .slice B m d, .slice C q f, .int .i64 z, .slice D p g], .int .i64 k] w fun e w' => e = .returned (.int .i64 (k + (n : Int) + (m : Int) + (q : Int) + (p : Int))) ∧ Below w.heap.size w w' := by
  go_enter Tryd.func18, Tryd.ntmps18
  go_wp2_with fail
  refine (heldSym_any _ _ _ _ _ _ _ _ _ _ _ _ (h1.alloc _) (h2.alloc _) (h3.alloc _) hk0 (by omega) (by omega) (by omega) (by omega)).mono ?_
  rintro e w1 ⟨rfl, b1⟩
  have S0 := (Stc.new w 28 [.int .i64 x, .slice A n c, .slice B m d, .slice C q f, .int .i64 z, .slice D p g] _ rfl).below b1 (by simp)
  have x0 := S0.cell (i := 5) rfl
  go_wp2_with fail
  refine (heldByteS_any _ _ _ _ _ ((h4.alloc _).below b1) (by omega) (by omega) (by omega)).mono ?_
  rintro e w' ⟨rfl, rfl⟩
  go_wp2
  go_returns
  exact ⟨rfl, ac (ab (Below.refl _ _) _) b1⟩

/-- a slice has room for what it holds -/
def Roomy (A : Option Addr) (n c : Nat) : Prop := n ≤ c ∧ (A = none → c = 0)

/-- an answer with a code, a state and bytes, in memory of its own -/
def SymAns (x : Int) (n m q p : Nat) (l r s t : List Int) (k : Int) (w : World) (e : Ending) (w' : World) : Prop :=
  (∃ A c B d C f D g, e = .returned (.agg #[.int .i64 x, .slice A n c, .slice B m d, .slice C q f, .int .i64 k, .slice D p g]) ∧
    Rs w' w.heap.size [(A, n, l), (B, m, r), (C, q, s), (D, p, t)] ∧ Roomy D p g) ∧ Below w.heap.size w w'
end Go.Proofs.YtknkadmngdaakaaDoor
