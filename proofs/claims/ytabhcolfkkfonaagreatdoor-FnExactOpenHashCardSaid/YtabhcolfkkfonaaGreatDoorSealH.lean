/- SealHash, of the model and of the program. -/
import Derived.Test.YtabhcolfkkfonaaGreatDoorSealA
namespace Go.Proofs.YtabhcolfkkfonaaGreatDoor
open Go.RowKit
set_option linter.unusedVariables false

def SealOut (b : Nat) (B C : Option Addr) (e q f m : Nat) (k : Int) (l s u : List Int) (t : TypeId) (w : World) (e' : Ending) (w' : World) : Prop :=
  ∃ A' c' B' d', e' = .returned (.slice B' (slM q m) d') ∧ Stc w' b [.slice A' 32 c', .slice B 32 e, .slice C q f, .int .i64 (slK q k)] t ∧ Rs w' w.heap.size [(A', 32, hashW (l ++ slL q s l k u)), (B', slM q m, slL q s l k u)] ∧ Roomy A' 32 c' ∧ Roomy B' (slM q m) d' ∧ Save b w w'

theorem noByteS (A B C : Option Addr) (n m q c d f : Nat) (k : Int) : NoByte [.slice A n c, .slice B m d, .slice C q f, .int .i64 k] := by
  intro v hv x
  simp only [List.mem_cons, List.not_mem_nil, or_false] at hv
  rcases hv with rfl | rfl | rfl | rfl <;> simp

theorem l5Seal_both (b : Nat) (t : TypeId) (A B C : Option Addr) (c e q f : Nat) (l s : List Int) (k : Int) (D : Option Addr) (m g : Nat) (u : List Int) (w : World) (hs : Stc w b [.slice A 32 c, .slice B 32 e, .slice C q f, .int .i64 k] t)
    (hq : q = 0 ∨ (q = 32 ∧ 0 ≤ k ∧ k < 1000)) (h1 : Bs w A 32 l) (e1 : A = none → c = 0) (h3 : Bs w C q s) (e3 : q ≤ f) (h4 : Bs w D m u) (e5 : D = none → g = 0) (hm : m ≤ 900) :
    Calls Tryz.prog 82 #[.pointer (some ⟨b, 0, none⟩), .slice D m g] w (SealOut b B C e q f m k l s u t w) := by
  rcases hq with rfl | ⟨rfl, h0, hk⟩
  · refine (l5Seal_plain b 0 _ t A c l C f D m g u w hs (noByteS _ _ _ _ _ _ _ _ _ _) rfl rfl h1 e1 h4 e5 hm).mono ?_
    rintro e' w' ⟨A', c', B', d', he, S', R, r1, r2, sv⟩
    exact ⟨A', c', B', d', he, S', R, r1, r2, sv⟩
  · refine (l5Seal_key b 0 _ t A c l C f s k D m g u w hs (noByteS _ _ _ _ _ _ _ _ _ _) rfl rfl rfl h0 hk h1 e1 h3 e3 h4 e5 hm).mono ?_
    rintro e' w' ⟨A', c', B', d', he, S', R, r1, r2, sv⟩
    exact ⟨A', c', B', d', he, S', R, r1, r2, sv⟩

theorem seal_both (b : Nat) (t : TypeId) (A B C : Option Addr) (c e q f : Nat) (l s : List Int) (k : Int) (D : Option Addr) (m g : Nat) (u : List Int) (w : World) (hT : ∀ W : World, Save b w W → Tabs W) (hQ : ∀ W : World, Save b w W → Quar W) (hs : Stc w b [.slice A 32 c, .slice B 32 e, .slice C q f, .int .i64 k] t)
    (hq : q = 0 ∨ (q = 32 ∧ 0 ≤ k ∧ k < 1000)) (h1 : Bs w A 32 l) (e1 : A = none → c = 0) (h3 : Bs w C q s) (e3 : q ≤ f) (h4 : Bs w D m u) (e4 : m ≤ g) (e5 : D = none → g = 0) (hm : m ≤ 900) :
    Calls Tryz.prog 66 #[.pointer (some ⟨b, 0, none⟩), .slice D m g] w (SealOut b B C e q f m k l s u t w) := by
  rcases hq with rfl | ⟨rfl, h0, hk⟩
  · refine (seal_plain b 0 _ t A c l C f D m g u w hT hs (noByteS _ _ _ _ _ _ _ _ _ _) rfl rfl h1 e1 h4 e5 hm).mono ?_
    rintro e' w' ⟨A', c', B', d', he, S', R, r1, r2, sv⟩
    exact ⟨A', c', B', d', he, S', R, r1, r2, sv⟩
  · refine (seal_key b 0 _ t A c l C f s k D m g u w hT hQ hs (noByteS _ _ _ _ _ _ _ _ _ _) rfl rfl rfl h0 hk h1 e1 h3 e3 h4 e4 e5 hm).mono ?_
    rintro e' w' ⟨A', c', B', d', he, S', R, r1, r2, sv⟩
    exact ⟨A', c', B', d', he, S', R, r1, r2, sv⟩

/-- the four runs of a state that has sealed -/
theorem four_runs {w : World} {X b : Nat} {w0 : World} {A2 B2 C2 A3 D3 : Option Addr} {h d q n : Nat} {l r s l3 x3 : List Int} {L : List Value} {t : TypeId} (R2 : Rs w0 X [(A2, h, l), (B2, d, r), (C2, q, s)]) (hS : Stc w0 b L t) (hN : NoByte L) (sv : Save b w0 w) (R3 : Rs w w0.heap.size [(A3, 32, l3), (D3, n, x3)]) (hX : X ≤ w0.heap.size) :
    Rs w X [(A3, 32, l3), (B2, d, r), (C2, q, s), (D3, n, x3)] := by
  obtain ⟨_, _, o2, s2, o4, _⟩ := R2
  have q2 := o2.save' hS hN sv
  have q3 := o4.save' hS hN sv
  have o5 := R3.head
  have o6 := R3.rest.head
  have s5 := R3.2.1 (D3, n, x3) (by simp)
  refine Rs.cons (o5.mono hX) ?_ (Rs.cons q2 ?_ (Rs.cons q3 ?_ (Rs.cons (o6.mono hX) (fun y hy => by cases hy) (Rs.nil _ _))))
  · intro y hy
    simp only [List.mem_cons, List.not_mem_nil, or_false] at hy
    rcases hy with rfl | rfl | rfl
    · exact (sunder_of o2 o5 (.inl (Nat.le_refl _))).symm
    · exact (sunder_of o4 o5 (.inl (Nat.le_refl _))).symm
    · exact s5
  · intro y hy
    simp only [List.mem_cons, List.not_mem_nil, or_false] at hy
    rcases hy with rfl | rfl
    · exact s2 _ (by simp)
    · exact sunder_of o2 o6 (.inl (Nat.le_refl _))
  · intro y hy
    simp only [List.mem_cons, List.not_mem_nil, or_false] at hy
    subst hy
    exact sunder_of o4 o6 (.inl (Nat.le_refl _))

set_option maxHeartbeats 2000000 in
theorem specSealHash_any (A B C : Option Addr) (h c d e q f : Nat) (l r s : List Int) (k : Int) (D : Option Addr) (m g : Nat) (u : List Int) (w : World) (h1 : Bs w A h l) (h2 : Bs w B d r) (h3 : Bs w C q s) (e1 : A = none → c = 0) (e2 : B = none → e = 0) (e3 : C = none → f = 0) (h4 : Bs w D m u) (e4 : D = none → g = 0) :
    Calls Tryz.prog 20 #[.agg #[.slice A h c, .slice B d e, .slice C q f, .int .i64 k], .slice D m g] w (SymAns (slC h d q k m) (codN (slC h d q k m) 32) (codN (slC h d q k m) d) (codN (slC h d q k m) q) (codN (slC h d q k m) (slM q m)) (codL (slC h d q k m) (hashW (l ++ slL q s l k u))) (codL (slC h d q k m) r) (codL (slC h d q k m) s) (codL (slC h d q k m) (slL q s l k u)) (codK (slC h d q k m) (slK q k)) w) := by
  have S0 := (Stc.new w 25 [.slice A h c, .slice B d e, .slice C q f, .int .i64 k] _ rfl).alloc (.cells #[.int .i64 0, .slice none 0 0, .slice none 0 0, .slice none 0 0, .int .i64 0, .slice none 0 0] 29)
  have S1 := Stc.new (w.alloc (.cells #[.slice A h c, .slice B d e, .slice C q f, .int .i64 k] 25)) 29 [.int .i64 0, .slice none 0 0, .slice none 0 0, .slice none 0 0, .int .i64 0, .slice none 0 0] _ rfl
  have B0 := ab (ab (Below.refl _ w) (.cells #[.slice A h c, .slice B d e, .slice C q f, .int .i64 k] 25)) (.cells #[.int .i64 0, .slice none 0 0, .slice none 0 0, .slice none 0 0, .int .i64 0, .slice none 0 0] 29)
  simp only [World.size_alloc] at S1
  have ca := l5Asked_any w.heap.size A B C h c d e q f k _ D m g _ S0
  rcases slC_cases h d q k m with ⟨hz, hc, hq⟩ | ⟨hz, hc, hq⟩ | ⟨hz, hc⟩
  · obtain ⟨hs0, hm⟩ := askedC_zero hz
    have en := fun n => (cod_pos hc n []).1
    have el := fun l => (cod_pos hc 0 l).2
    simp only [en, el, codK, if_pos hc]
    rw [hc]
    rw [hz] at ca
    have hsz := symC_zero hs0
    obtain ⟨hh, hd, hk⟩ := symC_zero hs0
    have hq32 : q ≤ 32 := by omega
    have hqk : q = 0 ∨ (q = 32 ∧ 0 ≤ k ∧ k < 1000) := by omega
    have hfull : false = (decide (0 < q) && decide (1000 ≤ k)) := by
      rcases hq with h | h
      · simp [h]
      · have : ¬ 1000 ≤ k := by omega
        simp [this]
    clear en el hz hs0 hsz hq hk hc
    subst hh hd
    have cf := l5Full_any w.heap.size 0 [.slice A 32 c, .slice B 32 e, .slice C q f, .int .i64 k] 25 C q f k false
    go_enter Tryz.func20, Tryz.ntmps20
    go_wp2_with fail
    refine ca.mono ?_
    rintro e' w1 ⟨rfl, b1⟩
    clear ca
    have B1 := ac B0 b1
    replace S0 := S0.below b1 S0.lt
    replace S1 := S1.below b1 S1.lt
    go_wp2_with fail
    refine (cf _ S0 rfl rfl hfull).mono ?_
    rintro e' w1' ⟨rfl, b1'⟩
    have zq := b1.size
    simp only [World.size_alloc] at zq
    replace S0 := S0.below b1' S0.lt
    replace S1 := S1.below b1' S1.lt
    replace B1 := ac B1 b1'
    have zq' := b1'.size
    have cc := l5Copy_any _ A B C 32 32 q c e f l r s k _ w1' S0 (h1.below B1) (h2.below B1) (h3.below B1) e1 e2 e3 (by omega) (by omega) (by omega)
    clear cf hfull b1 b1'
    go_wp2_with fail
    refine cc.mono ?_
    rintro e' w2 ⟨⟨A2, c2, B2, d2, C2, f2, rfl, R2, r1, r2, r3⟩, b2⟩
    clear cc S0
    have zz : w.heap.size + 1 < w1'.heap.size := by omega
    have z2 : w1'.heap.size ≤ w2.heap.size := b2.size
    replace S1 := (S1.below b2 S1.lt).alloc (.cells #[.slice A2 32 c2, .slice B2 32 d2, .slice C2 q f2, .int .i64 k] 25)
    have BB := ab (ac B1 b2) (.cells #[.slice A2 32 c2, .slice B2 32 d2, .slice C2 q f2, .int .i64 k] 25)
    replace R2 := R2.alloc (.cells #[.slice A2 32 c2, .slice B2 32 d2, .slice C2 q f2, .int .i64 k] 25)
    have T2 := Stc.new w2 25 [.slice A2 32 c2, .slice B2 32 d2, .slice C2 q f2, .int .i64 k] _ rfl
    have cm := Shut.mk (l5Seal_both w2.heap.size _ A2 B2 C2 c2 d2 q f2 l s k D m g u _ T2 hqk R2.head.bs r1.2 R2.rest.rest.head.bs r3.1 (h4.below BB) e4 hm)
    go_wp2_with fail
    refine cm.out.mono ?_
    rintro e' w3 ⟨A3, c3, D3, g3, rfl, T3, R3, r4, r5, sv⟩
    clear cm
    have R4 := four_runs R2 T2 (noByteS _ _ _ _ _ _ _ _ _ _) sv R3 (by simp; omega)
    generalize slM q m = N3 at *
    generalize slL q s l k u = X3 at *
    generalize slK q k = K3 at *
    replace S1 := S1.save sv (by omega)
    have x0 := S1.cell (i := 0) rfl
    have x1 := S1.cell (i := 1) rfl
    have x2 := S1.cell (i := 2) rfl
    have x3 := S1.cell (i := 3) rfl
    have x4 := S1.cell (i := 4) rfl
    have x5 := S1.cell (i := 5) rfl
    have y0 := S1.frozen
    have v0 := T3.cell (i := 0) rfl
    have v1 := T3.cell (i := 1) rfl
    have v2 := T3.cell (i := 2) rfl
    have v3 := T3.cell (i := 3) rfl
    have B3' := BB.trans (sv.below (B := w.heap.size) (by omega) (by simp; omega))
    have hne : ¬ w2.heap.size = w.heap.size + 1 := by omega
    clear S1 T2 T3 R3 R2
    go_wp2
    refine bodyPost_ret (v := .agg #[.int .i64 0, .slice A3 32 c3, .slice B2 32 d2, .slice C2 q f2, .int .i64 K3, .slice D3 N3 g3]) (by simp [results, Tryz.results20, go_sem, x0, x1, x2, x3, x4, x5]) rfl ?_
    exact ⟨⟨A3, c3, B2, d2, C2, f2, D3, g3, rfl, ((((((R4.far zz _).far zz _).far zz _).far zz _).far zz _).far zz _).mono (by omega), r5⟩, (((((B3'.setCell (Nat.le_succ _) _).setCell (Nat.le_succ _) _).setCell (Nat.le_succ _) _).setCell (Nat.le_succ _) _).setCell (Nat.le_succ _) _).setCell (Nat.le_succ _) _⟩
  · have hc0 : ¬ slC h d q k m = 0 := by omega
    have en := fun n => (cod_neg hc0 n []).1
    have el := fun l => (cod_neg hc0 0 l).2
    simp only [en, el, codK, if_neg hc0]
    rw [hc]
    rw [hz] at ca
    have hfull : true = (decide (0 < q) && decide (1000 ≤ k)) := by
      have h1 : 1000 ≤ k := hq.2
      have h2 : 0 < q := hq.1
      simp [h1, h2]
    have cf := l5Full_any w.heap.size 0 [.slice A h c, .slice B d e, .slice C q f, .int .i64 k] 25 C q f k true
    clear en el hz hc hc0 hq
    go_enter Tryz.func20, Tryz.ntmps20
    go_wp2_with fail
    refine ca.mono ?_
    rintro e' w1 ⟨rfl, b1⟩
    clear ca
    have B1 := ac B0 b1
    replace S0 := S0.below b1 S0.lt
    replace S1 := S1.below b1 S1.lt
    go_wp2_with fail
    refine (cf _ S0 rfl rfl hfull).mono ?_
    rintro e' w1' ⟨rfl, b1'⟩
    replace S1 := S1.below b1' S1.lt
    replace B1 := ac B1 b1'
    clear cf hfull S0 b1 b1'
    have x0 := S1.cell (i := 0) rfl
    have x1 := S1.cell (i := 1) rfl
    have x2 := S1.cell (i := 2) rfl
    have x3 := S1.cell (i := 3) rfl
    have x4 := S1.cell (i := 4) rfl
    have x5 := S1.cell (i := 5) rfl
    have y0 := S1.frozen
    go_wp2
    refine bodyPost_ret (v := .agg #[.int .i64 7, .slice none 0 0, .slice none 0 0, .slice none 0 0, .int .i64 0, .slice none 0 0]) (by simp [results, Tryz.results20, go_sem, x0, x1, x2, x3, x4, x5]) rfl ?_
    exact SymAns.none_ _ w _ ((((((B1.setCell (Nat.le_succ _) _).setCell (Nat.le_succ _) _).setCell (Nat.le_succ _) _).setCell (Nat.le_succ _) _).setCell (Nat.le_succ _) _).setCell (Nat.le_succ _) _)
  · have hc0 : ¬ slC h d q k m = 0 := by rw [hc]; exact hz
    have en := fun n => (cod_neg hc0 n []).1
    have el := fun l => (cod_neg hc0 0 l).2
    simp only [en, el, codK, if_neg hc0]
    rw [hc]
    have hp : (askedC h d q k m != 0) = true := by rw [bne_iff_ne]; exact hz
    clear en el hz hc hc0 S0
    generalize askedC h d q k m = Z at *
    go_enter Tryz.func20, Tryz.ntmps20
    go_wp2_with fail
    refine ca.mono ?_
    rintro e' w1 ⟨rfl, b1⟩
    clear ca
    have B1 := ac B0 b1
    replace S1 := S1.below b1 S1.lt
    have x0 := S1.cell (i := 0) rfl
    have x1 := S1.cell (i := 1) rfl
    have x2 := S1.cell (i := 2) rfl
    have x3 := S1.cell (i := 3) rfl
    have x4 := S1.cell (i := 4) rfl
    have x5 := S1.cell (i := 5) rfl
    have y0 := S1.frozen
    go_wp2
    refine bodyPost_ret (v := .agg #[.int .i64 Z, .slice none 0 0, .slice none 0 0, .slice none 0 0, .int .i64 0, .slice none 0 0]) (by simp [results, Tryz.results20, go_sem, x0, x1, x2, x3, x4, x5]) rfl ?_
    exact SymAns.none_ _ w _ ((((((B1.setCell (Nat.le_succ _) _).setCell (Nat.le_succ _) _).setCell (Nat.le_succ _) _).setCell (Nat.le_succ _) _).setCell (Nat.le_succ _) _).setCell (Nat.le_succ _) _)

set_option maxRecDepth 100000 in
set_option maxHeartbeats 2000000 in
theorem ansSealHash_any (A B C : Option Addr) (h c d e q f : Nat) (l r s : List Int) (k : Int) (D : Option Addr) (m g : Nat) (u : List Int) (w : World) (hT : Tabs w) (hQ : Quar w) (h1 : Bs w A h l) (h2 : Bs w B d r) (h3 : Bs w C q s) (e1 : A = none → c = 0) (e2 : B = none → e = 0) (e3 : C = none → f = 0) (h4 : Bs w D m u) (e4 : D = none → g = 0) (x4 : m ≤ g) :
    Calls Tryz.prog 65 #[.agg #[.slice A h c, .slice B d e, .slice C q f, .int .i64 k], .slice D m g, .func (.func 66) #[] #[]] w (SymAns (slC h d q k m) (codN (slC h d q k m) 32) (codN (slC h d q k m) d) (codN (slC h d q k m) q) (codN (slC h d q k m) (slM q m)) (codL (slC h d q k m) (hashW (l ++ slL q s l k u))) (codL (slC h d q k m) r) (codL (slC h d q k m) s) (codL (slC h d q k m) (slL q s l k u)) (codK (slC h d q k m) (slK q k)) w) := by
  rcases slC_cases h d q k m with ⟨hz, hc, hq⟩ | ⟨hz, hc, hq⟩ | ⟨hz, hc⟩
  · obtain ⟨hs0, hm⟩ := askedC_zero hz
    have en := fun n => (cod_pos hc n []).1
    have el := fun l => (cod_pos hc 0 l).2
    simp only [en, el, codK, if_pos hc]
    rw [hc]
    obtain ⟨hh, hd, hk⟩ := symC_zero hs0
    have hqk : q = 0 ∨ (q = 32 ∧ 0 ≤ k ∧ k < 1000) := by omega
    clear en el hz hc hq hk
    subst hh hd
    refine answered_ok 66 A B C 32 c 32 e q f l r s k D m g _ _ _ _ _ _ _ _ _ w hs0 hm h1 h2 h3 e1 e2 e3 (fun _ _ => rfl) copyOk ?_
    intro b A B C c e f W hW hS X hX hR ro hwX
    have hbw : w.heap.size ≤ W.heap.size := hW.size
    have kT : ∀ W2 : World, Save b W W2 → Below w.heap.size w W2 := fun W2 sv => hW.trans (sv.below (Nat.le_trans hwX hX) hbw)
    refine (seal_both b _ A B C c e q f l s k D m g u W (fun W2 sv => hT.keep (kT W2 sv)) (fun W2 sv => hQ.keep (kT W2 sv)) hS hqk hR.head.bs ro.1.2 hR.rest.rest.head.bs ro.2.2.1 (h4.below hW) x4 e4 hm).mono ?_
    rintro e' w' ⟨A', c', D', g', rfl, S', R', r1, r2, sv⟩
    exact ⟨A', c', B, e, C, f, D', g', rfl, S', four_runs hR hS (noByteS _ _ _ _ _ _ _ _ _ _) sv R' (Nat.le_trans hX (Nat.le_of_lt hS.lt)), r2, sv⟩
  · have hc0 : ¬ slC h d q k m = 0 := by omega
    have en := fun n => (cod_neg hc0 n []).1
    have el := fun l => (cod_neg hc0 0 l).2
    simp only [en, el, codK, if_neg hc0]
    rw [hc]
    obtain ⟨hs0, hm⟩ := askedC_zero hz
    obtain ⟨hh, hd, hk⟩ := symC_zero hs0
    obtain ⟨rfl, rfl⟩ : q = 32 ∧ k = 1000 := by omega
    clear en el hz hc hq hk hc0
    subst hh hd
    refine answered_stop 66 A B C 32 c 32 e 32 f l r s 1000 D m g 7 w hs0 hm h1 h2 h3 e1 e2 e3 (fun _ _ => rfl) copyOk ?_
    intro b A B C c e f W hW hS X hX hR ro hwX
    exact seal_full b 0 _ _ A c C f D m g u W hS rfl rfl rfl (h4.below hW) e4 hm
  · have hc0 : ¬ slC h d q k m = 0 := by rw [hc]; exact hz
    have en := fun n => (cod_neg hc0 n []).1
    have el := fun l => (cod_neg hc0 0 l).2
    simp only [en, el, codK, if_neg hc0]
    rw [hc]
    exact answered_not _ A B C h c d e q f k D m g w hz

set_option maxHeartbeats 2000000 in
theorem implSealHash_any (A B C : Option Addr) (h c d e q f : Nat) (l r s : List Int) (k : Int) (D : Option Addr) (m g : Nat) (u : List Int) (w : World) (hT : Tabs w) (hQ : Quar w) (h1 : Bs w A h l) (h2 : Bs w B d r) (h3 : Bs w C q s) (e1 : A = none → c = 0) (e2 : B = none → e = 0) (e3 : C = none → f = 0) (h4 : Bs w D m u) (e4 : D = none → g = 0) (x4 : m ≤ g) :
    Calls Tryz.prog 12 #[.agg #[.slice A h c, .slice B d e, .slice C q f, .int .i64 k], .slice D m g] w (SymAns (slC h d q k m) (codN (slC h d q k m) 32) (codN (slC h d q k m) d) (codN (slC h d q k m) q) (codN (slC h d q k m) (slM q m)) (codL (slC h d q k m) (hashW (l ++ slL q s l k u))) (codL (slC h d q k m) r) (codL (slC h d q k m) s) (codL (slC h d q k m) (slL q s l k u)) (codK (slC h d q k m) (slK q k)) w) := by
  have ca := fun W (hW : Below w.heap.size w W) => ansSealHash_any A B C h c d e q f l r s k D m g u W (hT.keep hW) (hQ.keep hW) (h1.below hW) (h2.below hW) (h3.below hW) e1 e2 e3 (h4.below hW) e4 x4
  generalize codN (slC h d q k m) 32 = N0 at *
  generalize codN (slC h d q k m) d = N1 at *
  generalize codN (slC h d q k m) q = N2 at *
  generalize codN (slC h d q k m) (slM q m) = N3 at *
  generalize codL (slC h d q k m) (hashW (l ++ slL q s l k u)) = L0 at *
  generalize codL (slC h d q k m) r = L1 at *
  generalize codL (slC h d q k m) s = L2 at *
  generalize codL (slC h d q k m) (slL q s l k u) = L3 at *
  generalize codK (slC h d q k m) (slK q k) = K at *
  generalize slC h d q k m = Z at *
  clear h1 h2 h3 h4 hT hQ e1 e2 e3 e4
  have B0 := ab (ab (Below.refl _ w) (.cells #[.slice A h c, .slice B d e, .slice C q f, .int .i64 k] 25)) (.cells #[.int .i64 0, .slice none 0 0, .slice none 0 0, .slice none 0 0, .int .i64 0, .slice none 0 0] 29)
  have S1 := Stc.new (w.alloc (.cells #[.slice A h c, .slice B d e, .slice C q f, .int .i64 k] 25)) 29 [.int .i64 0, .slice none 0 0, .slice none 0 0, .slice none 0 0, .int .i64 0, .slice none 0 0] _ rfl
  simp only [World.size_alloc] at S1
  go_enter Tryz.func12, Tryz.ntmps12
  go_wp2_with fail
  refine (ca _ B0).mono ?_
  rintro e' w1 ⟨⟨A1, c1, B1, d1, C1, f1, D1, g1, rfl, R, ro⟩, b1⟩
  clear ca
  have BB := ac B0 b1
  replace S1 := S1.below b1 S1.lt
  simp only [World.size_alloc] at R
  have x0 := S1.cell (i := 0) rfl
  have x1 := S1.cell (i := 1) rfl
  have x2 := S1.cell (i := 2) rfl
  have x3 := S1.cell (i := 3) rfl
  have x4 := S1.cell (i := 4) rfl
  have x5 := S1.cell (i := 5) rfl
  have y0 := S1.frozen
  go_wp2
  refine bodyPost_ret (v := .agg #[.int .i64 Z, .slice A1 N0 c1, .slice B1 N1 d1, .slice C1 N2 f1, .int .i64 K, .slice D1 N3 g1]) (by simp [results, Tryz.results12, go_sem, x0, x1, x2, x3, x4, x5]) rfl ?_
  have zz : w.heap.size + 1 < w.heap.size + 1 + 1 := Nat.lt_succ_self _
  exact ⟨⟨A1, c1, B1, d1, C1, f1, D1, g1, rfl, ((((((R.far zz _).far zz _).far zz _).far zz _).far zz _).far zz _).mono (by omega), ro⟩, (((((BB.setCell (Nat.le_succ _) _).setCell (Nat.le_succ _) _).setCell (Nat.le_succ _) _).setCell (Nat.le_succ _) _).setCell (Nat.le_succ _) _).setCell (Nat.le_succ _) _⟩
end Go.Proofs.YtabhcolfkkfonaaGreatDoor
