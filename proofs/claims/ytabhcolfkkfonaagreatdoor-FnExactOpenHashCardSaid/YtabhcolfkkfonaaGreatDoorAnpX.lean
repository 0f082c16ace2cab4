import Derived.Test.YtabhcolfkkfonaaGreatDoorFauX
import Derived.Defers
import Derived.Recover
import Derived.Laws.Pointers

/-! AnsP -/
/- What is answered of a changed copy. -/
namespace Go.Proofs.YtabhcolfkkfonaaGreatDoor
open Go.RowKit

set_option maxRecDepth 100000 in
/-- the deferred closure of a frame that returns: nothing is turned -/
theorem idle_any (p : Addr) (w : World) :
    CallsD Tryz.prog 133 #[.pointer (some p)] .returning w fun e u' w' => e = .returned (.tuple #[]) ∧ u' = .returning ∧ w' = w := by
  have e0 : (#[Value.pointer (some p)] ++ Array.replicate (Tryz.f133.ntmps - #[Value.pointer (some p)].size) undef) = #[.pointer (some p), undef, undef, undef, undef, undef, undef, undef, undef, undef, undef] := by rw [Tryz.ntmps133]; rfl
  refine callsD_of_wpS Tryz.func133 rfl fun c₀ cs hu => ?_
  rw [e0]
  apply wpS_seq
  apply wpS_region
  simp [wpOpsS, go_sem, recoverD, hu, Exit.thenS]
  apply wpS_seq
  apply wpS_region
  simp [wpOpsS, go_sem, Exit.thenS]
  refine wpS_cond (t := false) (by simp [Act.eval]) ?_
  simp only [Bool.false_eq_true, if_false]
  refine wpS_of_wp (wp_skip ?_)
  cases c₀
  simp_all [bodyPostS, results, Tryz.results133]

set_option maxRecDepth 100000 in
/-- the deferred closure of a frame that a fault stops: its code is laid into the answer -/
theorem catch_any (p : Nat) (z : Int) (w : World) (b0 b1 b2 b3 b4 b5 : Value) (hs : Stc w p [b0, b1, b2, b3, b4, b5] 29) :
    CallsD Tryz.prog 133 #[.pointer (some ⟨p, 0, none⟩)] (.panicking [{ v := .iface 108 (.int .i64 z), recovered := false }]) w fun e u' w' => e = .returned (.tuple #[]) ∧ u' = .panicking [{ v := .iface 108 (.int .i64 z), recovered := true }] ∧ Stc w' p [.int .i64 z, .slice none 0 0, .slice none 0 0, .slice none 0 0, .int .i64 0, .slice none 0 0] 29 ∧ Save p w w' := by
  have x0 := hs.cell (i := 0) rfl
  have x1 := hs.cell (i := 1) rfl
  have x2 := hs.cell (i := 2) rfl
  have x3 := hs.cell (i := 3) rfl
  have x4 := hs.cell (i := 4) rfl
  have x5 := hs.cell (i := 5) rfl
  have y0 := hs.frozen
  have e0 : (#[Value.pointer (some ⟨p, 0, none⟩)] ++ Array.replicate (Tryz.f133.ntmps - #[Value.pointer (some ⟨p, 0, none⟩)].size) undef) = #[.pointer (some ⟨p, 0, none⟩), undef, undef, undef, undef, undef, undef, undef, undef, undef, undef] := by rw [Tryz.ntmps133]; rfl
  refine callsD_of_wpS Tryz.func133 rfl fun c₀ cs hu => ?_
  rw [e0]
  apply wpS_seq
  apply wpS_region
  simp [wpOpsS, go_sem, recoverD, hu, Exit.thenS]
  apply wpS_seq
  apply wpS_region
  simp [wpOpsS, go_sem, Exit.thenS]
  refine wpS_cond (t := true) (by simp [Act.eval]) ?_
  simp only [if_true]
  apply wpS_region
  simp [wpOpsS, go_sem, x0, x1, x2, x3, x4, x5, y0, bodyPostS, results, Tryz.results133]
  exact ⟨(((((hs.set_ _).set_ _).set_ _).set_ _).set_ _).set_ _, ((((((Save.refl p w).set_ _ _).set_ _ _).set_ _ _).set_ _ _).set_ _ _).set_ _ _⟩

/-- a state copied, by the program -/
def CopyOk : Prop := ∀ (b : Nat) (A B C : Option Addr) (n m q c d f : Nat) (l r s : List Int) (k : Int) (t : TypeId) (w : World) (_ : Stc w b [.slice A n c, .slice B m d, .slice C q f, .int .i64 k] t) (_ : Bs w A n l) (_ : Bs w B m r) (_ : Bs w C q s) (_ : A = none → c = 0) (_ : B = none → d = 0) (_ : C = none → f = 0) (_ : n ≤ 100000000) (_ : m ≤ 100000000) (_ : q ≤ 100000000),
    Calls Tryz.prog 134 #[.pointer (some ⟨b, 0, none⟩)] w fun e w' => (∃ A c B d C f, e = .returned (.agg #[.slice A n c, .slice B m d, .slice C q f, .int .i64 k]) ∧ Rs w' w.heap.size [(A, n, l), (B, m, r), (C, q, s)] ∧ Roomy A n c ∧ Roomy B m d ∧ Roomy C q f) ∧ Below w.heap.size w w'

/-- a refusal: a code, and nothing else -/
theorem Sunder.zero {m : Nat} {A B : Option Addr} : Sunder 0 m A B := fun h => absurd h (by omega)
theorem SymAns.none_ (x : Int) (w w' : World) (h : Below w.heap.size w w') : SymAns x 0 0 0 0 [] [] [] [] 0 w (.returned (.agg #[.int .i64 x, .slice none 0 0, .slice none 0 0, .slice none 0 0, .int .i64 0, .slice none 0 0])) w' :=
  ⟨⟨none, 0, none, 0, none, 0, none, 0, rfl, Rs.cons (Ow.nil_ _ _) (fun _ _ => Sunder.zero) (Rs.cons (Ow.nil_ _ _) (fun _ _ => Sunder.zero) (Rs.cons (Ow.nil_ _ _) (fun _ _ => Sunder.zero) (Rs.cons (Ow.nil_ _ _) (fun y hy => by cases hy) (Rs.nil _ _)))), Nat.le_refl _, fun _ => rfl⟩, h⟩

set_option maxHeartbeats 1000000 in
theorem answered_not (fv : Value) (A B C : Option Addr) (h c d e q f : Nat) (k : Int) (D : Option Addr) (m g : Nat) (w : World) (hz : ¬ askedC h d q k m = 0) :
    Calls Tryz.prog 65 #[.agg #[.slice A h c, .slice B d e, .slice C q f, .int .i64 k], .slice D m g, fv] w (SymAns (askedC h d q k m) 0 0 0 0 [] [] [] [] 0 w) := by
  have cs := fun W => impl_SymFault_any A B C h c d e f q k W
  have S1 := Stc.new (w.alloc (.cells #[.slice A h c, .slice B d e, .slice C q f, .int .i64 k] 25)) 29 [.int .i64 0, .slice none 0 0, .slice none 0 0, .slice none 0 0, .int .i64 0, .slice none 0 0] _ rfl
  have B0 := ab (ab (Below.refl _ w) (.cells #[.slice A h c, .slice B d e, .slice C q f, .int .i64 k] 25)) (.cells #[.int .i64 0, .slice none 0 0, .slice none 0 0, .slice none 0 0, .int .i64 0, .slice none 0 0] 29)
  simp only [World.size_alloc] at S1
  by_cases h0 : symC h d q k = 0
  · have ha : askedC h d q k m = 2 := by unfold askedC at hz ⊢; rw [if_pos h0] at hz ⊢; split at hz <;> simp_all
    have hm2 : 900 < m := by unfold askedC at hz; rw [if_pos h0] at hz; split at hz <;> omega
    rw [ha]
    rw [h0] at cs
    clear ha hz h0
    go_enter_defers Tryz.func65, Tryz.ntmps65
    go_wp2_with fail
    refine (cs _).mono ?_
    rintro e w1 ⟨rfl, b1⟩
    replace S1 := S1.below b1 S1.lt
    have B1 := ac B0 b1
    have x0 := S1.cell (i := 0) rfl
    have x1 := S1.cell (i := 1) rfl
    have x2 := S1.cell (i := 2) rfl
    have x3 := S1.cell (i := 3) rfl
    have x4 := S1.cell (i := 4) rfl
    have x5 := S1.cell (i := 5) rfl
    have y0 := S1.frozen
    go_wp2
    refine ⟨.agg #[.int .i64 2, .slice none 0 0, .slice none 0 0, .slice none 0 0, .int .i64 0, .slice none 0 0], by simp [results, Tryz.results65, go_sem, x0, x1, x2, x3, x4, x5], ?_⟩
    exact SymAns.none_ _ w _ ((((((B1.setCell (by simp) _).setCell (by simp) _).setCell (by simp) _).setCell (by simp) _).setCell (by simp) _).setCell (by simp) _)
  · have hp : (symC h d q k != 0) = true := by rw [bne_iff_ne]; exact h0
    have ha : askedC h d q k m = symC h d q k := by unfold askedC; rw [if_neg h0]
    rw [ha]
    clear ha hz h0
    generalize symC h d q k = Z at *
    go_enter_defers Tryz.func65, Tryz.ntmps65
    go_wp2_with fail
    refine (cs _).mono ?_
    rintro e w1 ⟨rfl, b1⟩
    replace S1 := S1.below b1 S1.lt
    have B1 := ac B0 b1
    have x0 := S1.cell (i := 0) rfl
    have x1 := S1.cell (i := 1) rfl
    have x2 := S1.cell (i := 2) rfl
    have x3 := S1.cell (i := 3) rfl
    have x4 := S1.cell (i := 4) rfl
    have x5 := S1.cell (i := 5) rfl
    have y0 := S1.frozen
    go_wp2
    refine ⟨.agg #[.int .i64 Z, .slice none 0 0, .slice none 0 0, .slice none 0 0, .int .i64 0, .slice none 0 0], by simp [results, Tryz.results65, go_sem, x0, x1, x2, x3, x4, x5], ?_⟩
    exact SymAns.none_ _ w _ ((((((B1.setCell (by simp) _).setCell (by simp) _).setCell (by simp) _).setCell (by simp) _).setCell (by simp) _).setCell (by simp) _)

set_option maxHeartbeats 2000000 in
theorem answered_ok (F : FuncId) (A B C : Option Addr) (h c d e q f : Nat) (l r s : List Int) (k : Int) (D : Option Addr) (m g : Nat) (N0 N1 N2 N3 : Nat) (L0 L1 L2 L3 : List Int) (K : Int) (w : World) (hz : symC h d q k = 0) (hm : m ≤ 900) (h1 : Bs w A h l) (h2 : Bs w B d r) (h3 : Bs w C q s) (e1 : A = none → c = 0) (e2 : B = none → e = 0) (e3 : C = none → f = 0)
    (hcf : ∀ (args : Array Value) (w : World), (callFunc F args).run Tryz.prog w = .ok (.enter F args) w) (hcop : CopyOk) (hF : ∀ (b : Nat) (A B C : Option Addr) (c e f : Nat) (W : World) (_ : Below w.heap.size w W) (_ : Stc W b [.slice A h c, .slice B d e, .slice C q f, .int .i64 k] 25) (X : Nat) (_ : X ≤ b) (_ : Rs W X [(A, h, l), (B, d, r), (C, q, s)]) (_ : Roomy A h c ∧ Roomy B d e ∧ Roomy C q f) (_ : w.heap.size ≤ X),
      Calls Tryz.prog F #[.pointer (some ⟨b, 0, none⟩), .slice D m g] W fun e' w' => ∃ A' c' B' d' C' f' D' g', e' = .returned (.slice D' N3 g') ∧ Stc w' b [.slice A' N0 c', .slice B' N1 d', .slice C' N2 f', .int .i64 K] 25 ∧ Rs w' X [(A', N0, L0), (B', N1, L1), (C', N2, L2), (D', N3, L3)] ∧ Roomy D' N3 g' ∧ Save b W w') :
    Calls Tryz.prog 65 #[.agg #[.slice A h c, .slice B d e, .slice C q f, .int .i64 k], .slice D m g, .func (.func F) #[] #[]] w (SymAns 0 N0 N1 N2 N3 L0 L1 L2 L3 K w) := by
  have cs := fun W => impl_SymFault_any A B C h c d e f q k W
  rw [hz] at cs
  have hmf : ∀ (fn : Fn) (first cap : Array Value) (w : World), (Instr.makeFunc fn first cap).run Tryz.prog w = .ok (.func fn first cap) w := fun _ _ _ _ => rfl
  have S0 := (Stc.new w 25 [.slice A h c, .slice B d e, .slice C q f, .int .i64 k] _ rfl).alloc (.cells #[.int .i64 0, .slice none 0 0, .slice none 0 0, .slice none 0 0, .int .i64 0, .slice none 0 0] 29)
  have S1 := Stc.new (w.alloc (.cells #[.slice A h c, .slice B d e, .slice C q f, .int .i64 k] 25)) 29 [.int .i64 0, .slice none 0 0, .slice none 0 0, .slice none 0 0, .int .i64 0, .slice none 0 0] _ rfl
  have B0 := ab (ab (Below.refl _ w) (.cells #[.slice A h c, .slice B d e, .slice C q f, .int .i64 k] 25)) (.cells #[.int .i64 0, .slice none 0 0, .slice none 0 0, .slice none 0 0, .int .i64 0, .slice none 0 0] 29)
  simp only [World.size_alloc] at S1
  have hN := (symC_zero hz)
  have hh : h ≤ 100000000 ∧ d ≤ 100000000 ∧ q ≤ 100000000 := by omega
  obtain ⟨hh1, hh2, hh3⟩ := hh
  clear hN hz
  go_enter_defers Tryz.func65, Tryz.ntmps65
  go_wp2_with fail
  refine (cs _).mono ?_
  rintro e' w1 ⟨rfl, b1⟩
  replace S0 := S0.below b1 S0.lt
  replace S1 := S1.below b1 S1.lt
  have B1 := ac B0 b1
  clear B0 cs
  go_wp2_with fail
  refine (hcop _ A B C h d q c e f l r s k _ w1 S0 (h1.below B1) (h2.below B1) (h3.below B1) e1 e2 e3 hh1 hh2 hh3).mono ?_
  rintro e' w2 ⟨⟨A2, c2, B2, d2, C2, f2, rfl, R2, ro⟩, b2⟩
  replace S1 := S1.below b2 S1.lt
  have BB := ab (ac B1 b2) (.cells #[.slice A2 h c2, .slice B2 d d2, .slice C2 q f2, .int .i64 k] 25)
  have z2 := S1.lt
  have z1 : w1.heap.size ≤ w2.heap.size := b2.size
  have zz : w.heap.size + 1 < w1.heap.size := by have := b1.size; simp only [World.size_alloc] at this; omega
  replace S1 := S1.alloc (.cells #[.slice A2 h c2, .slice B2 d d2, .slice C2 q f2, .int .i64 k] 25)
  replace R2 := R2.alloc (.cells #[.slice A2 h c2, .slice B2 d d2, .slice C2 q f2, .int .i64 k] 25)
  have T2 := Stc.new w2 25 [.slice A2 h c2, .slice B2 d d2, .slice C2 q f2, .int .i64 k] _ rfl
  clear S0 b1 b2 B1
  have hf := hF w2.heap.size A2 B2 C2 c2 d2 f2 _ BB T2 w1.heap.size z1 R2 ro (by omega)
  clear hF
  go_wp2_with fail
  refine hf.mono ?_
  clear hf
  rintro e' w3 ⟨A3, c3, B3, d3, C3, f3, D3, g3, rfl, T3, R3, ro, sv⟩
  replace S1 := S1.save sv (by omega)
  have x0 := S1.cell (i := 0) rfl
  have x1 := S1.cell (i := 1) rfl
  have x2 := S1.cell (i := 2) rfl
  have x3 := S1.cell (i := 3) rfl
  have x4 := S1.cell (i := 4) rfl
  have x5 := S1.cell (i := 5) rfl
  have y0 := S1.frozen
  have v0 := T3.cell (i := 0) rfl
  have v1 := T3.cell (i := 1) rfl
  have v2 := T3.cell (i := 2) rfl
  have v3 := T3.cell (i := 3) rfl
  have B3' := BB.trans (sv.below (B := w.heap.size) (by omega) (by simp; omega))
  clear T2 T3 R2 S1
  go_wp2
  refine leaves_cons (f := 133) (args := #[.pointer (some ⟨w.heap.size + 1, 0, none⟩)]) (by simp) (by simp [go_sem]) ?_
  refine (idle_any ⟨w.heap.size + 1, 0, none⟩ _).mono ?_
  rintro e' u' w'' ⟨rfl, rfl, rfl⟩
  refine ⟨.agg #[.int .i64 0, .slice A3 N0 c3, .slice B3 N1 d3, .slice C3 N2 f3, .int .i64 K, .slice D3 N3 g3], by simp [results, Tryz.results65, go_sem, x0, x1, x2, x3, x4, x5], ?_⟩
  refine ⟨⟨A3, c3, B3, d3, C3, f3, D3, g3, rfl, ((((((R3.far zz _).far zz _).far zz _).far zz _).far zz _).far zz _).mono (by omega), ro⟩, ?_⟩
  exact (((((B3'.setCell (by simp) _).setCell (by simp) _).setCell (by simp) _).setCell (by simp) _).setCell (by simp) _).setCell (by simp) _
end Go.Proofs.YtabhcolfkkfonaaGreatDoor

/-! AnsS -/
/- What is answered where a change is stopped by a fault. -/
namespace Go.Proofs.YtabhcolfkkfonaaGreatDoor
open Go.RowKit

set_option maxHeartbeats 2000000 in
theorem answered_stop (F : FuncId) (A B C : Option Addr) (h c d e q f : Nat) (l r s : List Int) (k : Int) (D : Option Addr) (m g : Nat) (z : Int) (w : World) (hz : symC h d q k = 0) (hm : m ≤ 900) (h1 : Bs w A h l) (h2 : Bs w B d r) (h3 : Bs w C q s) (e1 : A = none → c = 0) (e2 : B = none → e = 0) (e3 : C = none → f = 0)
    (hcf : ∀ (args : Array Value) (w : World), (callFunc F args).run Tryz.prog w = .ok (.enter F args) w) (hcop : CopyOk) (hF : ∀ (b : Nat) (A B C : Option Addr) (c e f : Nat) (W : World) (_ : Below w.heap.size w W) (_ : Stc W b [.slice A h c, .slice B d e, .slice C q f, .int .i64 k] 25) (X : Nat) (_ : X ≤ b) (_ : Rs W X [(A, h, l), (B, d, r), (C, q, s)]) (_ : Roomy A h c ∧ Roomy B d e ∧ Roomy C q f) (_ : w.heap.size ≤ X),
      Calls Tryz.prog F #[.pointer (some ⟨b, 0, none⟩), .slice D m g] W fun e' w' => e' = .panicked [{ v := .iface 108 (.int .i64 z), recovered := false }] ∧ Save b W w') :
    Calls Tryz.prog 65 #[.agg #[.slice A h c, .slice B d e, .slice C q f, .int .i64 k], .slice D m g, .func (.func F) #[] #[]] w (SymAns z 0 0 0 0 [] [] [] [] 0 w) := by
  have cs := fun W => impl_SymFault_any A B C h c d e f q k W
  rw [hz] at cs
  have hmf : ∀ (fn : Fn) (first cap : Array Value) (w : World), (Instr.makeFunc fn first cap).run Tryz.prog w = .ok (.func fn first cap) w := fun _ _ _ _ => rfl
  have S0 := (Stc.new w 25 [.slice A h c, .slice B d e, .slice C q f, .int .i64 k] _ rfl).alloc (.cells #[.int .i64 0, .slice none 0 0, .slice none 0 0, .slice none 0 0, .int .i64 0, .slice none 0 0] 29)
  have S1 := Stc.new (w.alloc (.cells #[.slice A h c, .slice B d e, .slice C q f, .int .i64 k] 25)) 29 [.int .i64 0, .slice none 0 0, .slice none 0 0, .slice none 0 0, .int .i64 0, .slice none 0 0] _ rfl
  have B0 := ab (ab (Below.refl _ w) (.cells #[.slice A h c, .slice B d e, .slice C q f, .int .i64 k] 25)) (.cells #[.int .i64 0, .slice none 0 0, .slice none 0 0, .slice none 0 0, .int .i64 0, .slice none 0 0] 29)
  simp only [World.size_alloc] at S1
  have hN := (symC_zero hz)
  have hh : h ≤ 100000000 ∧ d ≤ 100000000 ∧ q ≤ 100000000 := by omega
  obtain ⟨hh1, hh2, hh3⟩ := hh
  clear hN hz
  go_enter_defers Tryz.func65, Tryz.ntmps65
  go_wp2_with fail
  refine (cs _).mono ?_
  rintro e' w1 ⟨rfl, b1⟩
  replace S0 := S0.below b1 S0.lt
  replace S1 := S1.below b1 S1.lt
  have B1 := ac B0 b1
  clear B0 cs
  go_wp2_with fail
  refine (hcop _ A B C h d q c e f l r s k _ w1 S0 (h1.below B1) (h2.below B1) (h3.below B1) e1 e2 e3 hh1 hh2 hh3).mono ?_
  rintro e' w2 ⟨⟨A2, c2, B2, d2, C2, f2, rfl, R2, ro⟩, b2⟩
  replace S1 := S1.below b2 S1.lt
  have BB := ab (ac B1 b2) (.cells #[.slice A2 h c2, .slice B2 d d2, .slice C2 q f2, .int .i64 k] 25)
  have z2 := S1.lt
  have z1 : w1.heap.size ≤ w2.heap.size := b2.size
  have zz : w.heap.size + 1 < w1.heap.size := by have := b1.size; simp only [World.size_alloc] at this; omega
  replace S1 := S1.alloc (.cells #[.slice A2 h c2, .slice B2 d d2, .slice C2 q f2, .int .i64 k] 25)
  replace R2 := R2.alloc (.cells #[.slice A2 h c2, .slice B2 d d2, .slice C2 q f2, .int .i64 k] 25)
  have T2 := Stc.new w2 25 [.slice A2 h c2, .slice B2 d d2, .slice C2 q f2, .int .i64 k] _ rfl
  clear S0 b1 b2 B1
  have hf := hF w2.heap.size A2 B2 C2 c2 d2 f2 _ BB T2 w1.heap.size z1 R2 ro (by omega)
  clear hF
  go_wp2_with fail
  refine hf.mono ?_
  clear hf
  rintro e' w3 ⟨rfl, sv⟩
  replace S1 := S1.save sv (by omega)
  have B3' := BB.trans (sv.below (B := w.heap.size) (by omega) (by simp; omega))
  clear T2 R2
  refine leaves_cons (f := 133) (args := #[.pointer (some ⟨w.heap.size + 1, 0, none⟩)]) (by simp) (by simp [go_sem]) ?_
  refine (catch_any (w.heap.size + 1) z _ _ _ _ _ _ _ S1).mono ?_
  rintro e' u' w'' ⟨rfl, rfl, S9, sv9⟩
  have x0 := S9.cell (i := 0) rfl
  have x1 := S9.cell (i := 1) rfl
  have x2 := S9.cell (i := 2) rfl
  have x3 := S9.cell (i := 3) rfl
  have x4 := S9.cell (i := 4) rfl
  have x5 := S9.cell (i := 5) rfl
  refine ⟨.agg #[.int .i64 z, .slice none 0 0, .slice none 0 0, .slice none 0 0, .int .i64 0, .slice none 0 0], by simp [results, Tryz.results65, go_sem, x0, x1, x2, x3, x4, x5], ?_⟩
  exact SymAns.none_ z w _ (B3'.trans (sv9.below (by omega) (by have := B3'.size; omega)))
end Go.Proofs.YtabhcolfkkfonaaGreatDoor
