/- MixHash and MixKey, of the model and of the program. -/
import Derived.Test.YtabhcolfkkfonaaGreatDoorAnpX
import Derived.Test.YtabhcolfkkfonaaGreatDoorCopC
namespace Go.Proofs.YtabhcolfkkfonaaGreatDoor
open Go.RowKit

theorem copyOk : CopyOk := fun b A B C n m q c d f l r s k t w hs h1 h2 h3 e1 e2 e3 hn hm hq => (copied_any b A B C n m q c d f l r s k t w hs h1 h2 h3 e1 e2 e3 hn hm hq).mono fun _ _ h => h
theorem askedC_zero {h d q m : Nat} {k : Int} (e : askedC h d q k m = 0) : symC h d q k = 0 ∧ m ≤ 900 := by
  unfold askedC at e
  split at e
  · rename_i h0
    split at e
    · rename_i h1; exact ⟨h0, h1⟩
    · omega
  · rename_i h0; exact absurd e h0
theorem cod_pos {c : Int} (h : c = 0) (n : Nat) (l : List Int) : codN c n = n ∧ codL c l = l := by simp [codN, codL, h]
theorem cod_neg {c : Int} (h : ¬ c = 0) (n : Nat) (l : List Int) : codN c n = 0 ∧ codL c l = [] := by simp [codN, codL, h]
def codK (c : Int) (k : Int) : Int := if c = 0 then k else 0

set_option maxRecDepth 100000 in
set_option maxHeartbeats 2000000 in
theorem ansMixHash_any (A B C : Option Addr) (h c d e q f : Nat) (l r s : List Int) (k : Int) (D : Option Addr) (m g : Nat) (u : List Int) (w : World) (hT : Tabs w) (h1 : Bs w A h l) (h2 : Bs w B d r) (h3 : Bs w C q s) (e1 : A = none → c = 0) (e2 : B = none → e = 0) (e3 : C = none → f = 0) (h4 : Bs w D m u) (e4 : D = none → g = 0) :
    Calls Tryz.prog 65 #[.agg #[.slice A h c, .slice B d e, .slice C q f, .int .i64 k], .slice D m g, .func (.func 73) #[] #[]] w (SymAns (askedC h d q k m) (codN (askedC h d q k m) 32) (codN (askedC h d q k m) d) (codN (askedC h d q k m) q) 0 (codL (askedC h d q k m) (hashW (l ++ u))) (codL (askedC h d q k m) r) (codL (askedC h d q k m) s) [] (codK (askedC h d q k m) k) w) := by
  by_cases hz : askedC h d q k m = 0
  · obtain ⟨hs0, hm⟩ := askedC_zero hz
    have en := fun n => (cod_pos hz n []).1
    have el := fun l => (cod_pos hz 0 l).2
    simp only [en, el, codK, if_pos hz]
    rw [hz]
    obtain ⟨hh, hd, -⟩ := symC_zero hs0
    clear en el hz
    subst hh hd
    refine answered_ok 73 A B C 32 c 32 e q f l r s k D m g _ _ _ _ _ _ _ _ _ w hs0 hm h1 h2 h3 e1 e2 e3 (fun _ _ => rfl) copyOk ?_
    intro b A B C c e f W hW hS X hX hR _ _
    refine (mixHash1_any b A B C c 32 e q f l r s k _ D m g X u W (hT.keep hW) hS hR hX (h4.below hW) e4 hm).mono ?_
    rintro e' w' ⟨A', c', rfl, S', R', sv⟩
    exact ⟨A', c', B, e, C, f, none, 0, rfl, S', R', ⟨Nat.le_refl _, fun _ => rfl⟩, sv⟩
  · have en := fun n => (cod_neg hz n []).1
    have el := fun l => (cod_neg hz 0 l).2
    simp only [en, el, codK, if_neg hz]
    exact answered_not _ A B C h c d e q f k D m g w hz

set_option maxHeartbeats 2000000 in
theorem implMixHash_any (A B C : Option Addr) (h c d e q f : Nat) (l r s : List Int) (k : Int) (D : Option Addr) (m g : Nat) (u : List Int) (w : World) (hT : Tabs w) (h1 : Bs w A h l) (h2 : Bs w B d r) (h3 : Bs w C q s) (e1 : A = none → c = 0) (e2 : B = none → e = 0) (e3 : C = none → f = 0) (h4 : Bs w D m u) (e4 : D = none → g = 0) :
    Calls Tryz.prog 15 #[.agg #[.slice A h c, .slice B d e, .slice C q f, .int .i64 k], .slice D m g] w (SymAns (askedC h d q k m) (codN (askedC h d q k m) 32) (codN (askedC h d q k m) d) (codN (askedC h d q k m) q) 0 (codL (askedC h d q k m) (hashW (l ++ u))) (codL (askedC h d q k m) r) (codL (askedC h d q k m) s) [] (codK (askedC h d q k m) k) w) := by
  have ca := fun W (hW : Below w.heap.size w W) => ansMixHash_any A B C h c d e q f l r s k D m g u W (hT.keep hW) (h1.below hW) (h2.below hW) (h3.below hW) e1 e2 e3 (h4.below hW) e4
  generalize codN (askedC h d q k m) 32 = N0 at *
  generalize codN (askedC h d q k m) d = N1 at *
  generalize codN (askedC h d q k m) q = N2 at *
  generalize codL (askedC h d q k m) (hashW (l ++ u)) = L0 at *
  generalize codL (askedC h d q k m) r = L1 at *
  generalize codL (askedC h d q k m) s = L2 at *
  generalize codK (askedC h d q k m) k = K at *
  generalize askedC h d q k m = Z at *
  clear h1 h2 h3 h4 hT e1 e2 e3 e4
  have B0 := ab (ab (Below.refl _ w) (.cells #[.slice A h c, .slice B d e, .slice C q f, .int .i64 k] 25)) (.cells #[.int .i64 0, .slice none 0 0, .slice none 0 0, .slice none 0 0, .int .i64 0, .slice none 0 0] 29)
  have S1 := Stc.new (w.alloc (.cells #[.slice A h c, .slice B d e, .slice C q f, .int .i64 k] 25)) 29 [.int .i64 0, .slice none 0 0, .slice none 0 0, .slice none 0 0, .int .i64 0, .slice none 0 0] _ rfl
  simp only [World.size_alloc] at S1
  go_enter Tryz.func15, Tryz.ntmps15
  go_wp2_with fail
  refine (ca _ B0).mono ?_
  rintro e' w1 ⟨⟨A1, c1, B1, d1, C1, f1, D1, g1, rfl, R, ro⟩, b1⟩
  clear ca
  have BB := ac B0 b1
  replace S1 := S1.below b1 S1.lt
  simp only [World.size_alloc] at R
  have x0 := S1.cell (i := 0) rfl
  have x1 := S1.cell (i := 1) rfl
  have x2 := S1.cell (i := 2) rfl
  have x3 := S1.cell (i := 3) rfl
  have x4 := S1.cell (i := 4) rfl
  have x5 := S1.cell (i := 5) rfl
  have y0 := S1.frozen
  go_wp2
  refine bodyPost_ret (v := .agg #[.int .i64 Z, .slice A1 N0 c1, .slice B1 N1 d1, .slice C1 N2 f1, .int .i64 K, .slice D1 0 g1]) (by simp [results, Tryz.results15, go_sem, x0, x1, x2, x3, x4, x5]) rfl ?_
  have zz : w.heap.size + 1 < w.heap.size + 1 + 1 := Nat.lt_succ_self _
  exact ⟨⟨A1, c1, B1, d1, C1, f1, D1, g1, rfl, ((((((R.far zz _).far zz _).far zz _).far zz _).far zz _).far zz _).mono (by omega), ro⟩, (((((BB.setCell (Nat.le_succ _) _).setCell (Nat.le_succ _) _).setCell (Nat.le_succ _) _).setCell (Nat.le_succ _) _).setCell (Nat.le_succ _) _).setCell (Nat.le_succ _) _⟩

set_option maxHeartbeats 2000000 in
theorem specMixHash_any (A B C : Option Addr) (h c d e q f : Nat) (l r s : List Int) (k : Int) (D : Option Addr) (m g : Nat) (u : List Int) (w : World) (h1 : Bs w A h l) (h2 : Bs w B d r) (h3 : Bs w C q s) (e1 : A = none → c = 0) (e2 : B = none → e = 0) (e3 : C = none → f = 0) (h4 : Bs w D m u) (e4 : D = none → g = 0) :
    Calls Tryz.prog 23 #[.agg #[.slice A h c, .slice B d e, .slice C q f, .int .i64 k], .slice D m g] w (SymAns (askedC h d q k m) (codN (askedC h d q k m) 32) (codN (askedC h d q k m) d) (codN (askedC h d q k m) q) 0 (codL (askedC h d q k m) (hashW (l ++ u))) (codL (askedC h d q k m) r) (codL (askedC h d q k m) s) [] (codK (askedC h d q k m) k) w) := by
  have S0 := (Stc.new w 25 [.slice A h c, .slice B d e, .slice C q f, .int .i64 k] _ rfl).alloc (.cells #[.int .i64 0, .slice none 0 0, .slice none 0 0, .slice none 0 0, .int .i64 0, .slice none 0 0] 29)
  have S1 := Stc.new (w.alloc (.cells #[.slice A h c, .slice B d e, .slice C q f, .int .i64 k] 25)) 29 [.int .i64 0, .slice none 0 0, .slice none 0 0, .slice none 0 0, .int .i64 0, .slice none 0 0] _ rfl
  have B0 := ab (ab (Below.refl _ w) (.cells #[.slice A h c, .slice B d e, .slice C q f, .int .i64 k] 25)) (.cells #[.int .i64 0, .slice none 0 0, .slice none 0 0, .slice none 0 0, .int .i64 0, .slice none 0 0] 29)
  simp only [World.size_alloc] at S1
  have ca := l5Asked_any w.heap.size A B C h c d e q f k _ D m g _ S0
  by_cases hz : askedC h d q k m = 0
  · obtain ⟨hs0, hm⟩ := askedC_zero hz
    have en := fun n => (cod_pos hz n []).1
    have el := fun l => (cod_pos hz 0 l).2
    simp only [en, el, codK, if_pos hz]
    rw [hz]
    rw [hz] at ca
    have hsz := symC_zero hs0
    obtain ⟨hh, hd, -⟩ := symC_zero hs0
    have hq : q ≤ 32 := by omega
    clear en el hz hs0 hsz
    subst hh hd
    go_enter Tryz.func23, Tryz.ntmps23
    go_wp2_with fail
    refine ca.mono ?_
    rintro e' w1 ⟨rfl, b1⟩
    clear ca
    have B1 := ac B0 b1
    replace S0 := S0.below b1 S0.lt
    replace S1 := S1.below b1 S1.lt
    have cc := l5Copy_any _ A B C 32 32 q c e f l r s k _ w1 S0 (h1.below B1) (h2.below B1) (h3.below B1) e1 e2 e3 (by omega) (by omega) (by omega)
    go_wp2_with fail
    refine cc.mono ?_
    rintro e' w2 ⟨⟨A2, c2, B2, d2, C2, f2, rfl, R2, r1, r2, r3⟩, b2⟩
    clear cc S0
    have zz : w.heap.size + 1 < w1.heap.size := by have := b1.size; simp only [World.size_alloc] at this; omega
    have z2 : w1.heap.size ≤ w2.heap.size := b2.size
    replace S1 := (S1.below b2 S1.lt).alloc (.cells #[.slice A2 32 c2, .slice B2 32 d2, .slice C2 q f2, .int .i64 k] 25)
    have BB := ab (ac B1 b2) (.cells #[.slice A2 32 c2, .slice B2 32 d2, .slice C2 q f2, .int .i64 k] 25)
    replace R2 := R2.alloc (.cells #[.slice A2 32 c2, .slice B2 32 d2, .slice C2 q f2, .int .i64 k] 25)
    have T2 := Stc.new w2 25 [.slice A2 32 c2, .slice B2 32 d2, .slice C2 q f2, .int .i64 k] _ rfl
    have hN : NoByte [.slice A2 32 c2, .slice B2 32 d2, .slice C2 q f2, .int .i64 k] := by intro v hv x; simp only [List.mem_cons, List.not_mem_nil, or_false] at hv; rcases hv with rfl | rfl | rfl | rfl <;> simp
    have cm := l5MixHash_any w2.heap.size 0 _ _ A2 c2 l D m g u _ T2 rfl R2.head.bs r1.2 (h4.below BB) e4 (by omega)
    go_wp2_with fail
    refine cm.mono ?_
    rintro e' w3 ⟨rfl, A3, c3, T3, o3, _, sv⟩
    clear cm
    obtain ⟨o0, s0, o2, s2, o4, _⟩ := R2
    have q2 := o2.save' T2 hN sv
    have q3 := o4.save' T2 hN sv
    have R3 : Rs w3 w1.heap.size [(A3, 32, hashW (l ++ u)), (B2, 32, r), (C2, q, s), (none, 0, [])] := by
      refine Rs.cons (o3.mono (by simp; omega)) ?_ (Rs.cons q2 ?_ (Rs.cons q3 ?_ (Rs.cons (Ow.nil_ _ _) ?_ (Rs.nil _ _))))
      · intro y hy
        simp only [List.mem_cons, List.not_mem_nil, or_false] at hy
        rcases hy with rfl | rfl | rfl
        · exact (sunder_of o2 o3 (.inl (Nat.le_refl _))).symm
        · exact (sunder_of o4 o3 (.inl (Nat.le_refl _))).symm
        · intro _ h0; exact absurd h0 (by simp)
      · intro y hy
        simp only [List.mem_cons, List.not_mem_nil, or_false] at hy
        rcases hy with rfl | rfl
        · exact s2 _ (by simp)
        · intro _ h0; exact absurd h0 (by simp)
      · intro y hy
        simp only [List.mem_cons, List.not_mem_nil, or_false] at hy
        subst hy
        intro _ h0; exact absurd h0 (by simp)
      · intro y hy; cases hy
    replace S1 := S1.save sv (by omega)
    have x0 := S1.cell (i := 0) rfl
    have x1 := S1.cell (i := 1) rfl
    have x2 := S1.cell (i := 2) rfl
    have x3 := S1.cell (i := 3) rfl
    have x4 := S1.cell (i := 4) rfl
    have x5 := S1.cell (i := 5) rfl
    have y0 := S1.frozen
    have v0 := T3.cell (i := 0) rfl
    have v1 := T3.cell (i := 1) rfl
    have v2 := T3.cell (i := 2) rfl
    have v3 := T3.cell (i := 3) rfl
    have B3' := BB.trans (sv.below (B := w.heap.size) (by omega) (by simp; omega))
    clear S1 T2 T3
    go_wp2
    refine bodyPost_ret (v := .agg #[.int .i64 0, .slice A3 32 c3, .slice B2 32 d2, .slice C2 q f2, .int .i64 k, .slice none 0 0]) (by simp [results, Tryz.results23, go_sem, x0, x1, x2, x3, x4, x5]) rfl ?_
    exact ⟨⟨A3, c3, B2, d2, C2, f2, none, 0, rfl, ((((((R3.far zz _).far zz _).far zz _).far zz _).far zz _).far zz _).mono (by omega), ⟨Nat.le_refl _, fun _ => rfl⟩⟩, (((((B3'.setCell (Nat.le_succ _) _).setCell (Nat.le_succ _) _).setCell (Nat.le_succ _) _).setCell (Nat.le_succ _) _).setCell (Nat.le_succ _) _).setCell (Nat.le_succ _) _⟩
  · have en := fun n => (cod_neg hz n []).1
    have el := fun l => (cod_neg hz 0 l).2
    simp only [en, el, codK, if_neg hz]
    have hp : (askedC h d q k m != 0) = true := by rw [bne_iff_ne]; exact hz
    clear en el hz S0
    generalize askedC h d q k m = Z at *
    go_enter Tryz.func23, Tryz.ntmps23
    go_wp2_with fail
    refine ca.mono ?_
    rintro e' w1 ⟨rfl, b1⟩
    clear ca
    have B1 := ac B0 b1
    replace S1 := S1.below b1 S1.lt
    have x0 := S1.cell (i := 0) rfl
    have x1 := S1.cell (i := 1) rfl
    have x2 := S1.cell (i := 2) rfl
    have x3 := S1.cell (i := 3) rfl
    have x4 := S1.cell (i := 4) rfl
    have x5 := S1.cell (i := 5) rfl
    have y0 := S1.frozen
    go_wp2
    refine bodyPost_ret (v := .agg #[.int .i64 Z, .slice none 0 0, .slice none 0 0, .slice none 0 0, .int .i64 0, .slice none 0 0]) (by simp [results, Tryz.results23, go_sem, x0, x1, x2, x3, x4, x5]) rfl ?_
    exact SymAns.none_ _ w _ ((((((B1.setCell (Nat.le_succ _) _).setCell (Nat.le_succ _) _).setCell (Nat.le_succ _) _).setCell (Nat.le_succ _) _).setCell (Nat.le_succ _) _).setCell (Nat.le_succ _) _)

set_option maxRecDepth 100000 in
set_option maxHeartbeats 2000000 in
theorem ansMixKey_any (A B C : Option Addr) (h c d e q f : Nat) (l r s : List Int) (k : Int) (D : Option Addr) (m g : Nat) (u : List Int) (w : World) (hT : Tabs w) (h1 : Bs w A h l) (h2 : Bs w B d r) (h3 : Bs w C q s) (e1 : A = none → c = 0) (e2 : B = none → e = 0) (e3 : C = none → f = 0) (h4 : Bs w D m u) (e4 : D = none → g = 0) :
    Calls Tryz.prog 65 #[.agg #[.slice A h c, .slice B d e, .slice C q f, .int .i64 k], .slice D m g, .func (.func 75) #[] #[]] w (SymAns (askedC h d q k m) (codN (askedC h d q k m) h) (codN (askedC h d q k m) 32) (codN (askedC h d q k m) 32) 0 (codL (askedC h d q k m) l) (codL (askedC h d q k m) (firstW r u)) (codL (askedC h d q k m) (otherW r u)) [] 0 w) := by
  by_cases hz : askedC h d q k m = 0
  · obtain ⟨hs0, hm⟩ := askedC_zero hz
    have en := fun n => (cod_pos hz n []).1
    have el := fun l => (cod_pos hz 0 l).2
    simp only [en, el]
    rw [hz]
    obtain ⟨hh, hd, -⟩ := symC_zero hs0
    clear en el hz
    subst hh hd
    refine answered_ok 75 A B C 32 c 32 e q f l r s k D m g _ _ _ _ _ _ _ _ _ w hs0 hm h1 h2 h3 e1 e2 e3 (fun _ _ => rfl) copyOk ?_
    intro b A B C c e f W hW hS X hX hR _ _
    refine (mixKey1_any b A B C c e q f l r s k _ D m g X u W (hT.keep hW) hS hR hX (h4.below hW) e4 hm).mono ?_
    rintro e' w' ⟨B', d', C', f', rfl, S', R', sv⟩
    exact ⟨A, c, B', d', C', f', none, 0, rfl, S', R', ⟨Nat.le_refl _, fun _ => rfl⟩, sv⟩
  · have en := fun n => (cod_neg hz n []).1
    have el := fun l => (cod_neg hz 0 l).2
    simp only [en, el]
    exact answered_not _ A B C h c d e q f k D m g w hz

set_option maxHeartbeats 2000000 in
theorem implMixKey_any (A B C : Option Addr) (h c d e q f : Nat) (l r s : List Int) (k : Int) (D : Option Addr) (m g : Nat) (u : List Int) (w : World) (hT : Tabs w) (h1 : Bs w A h l) (h2 : Bs w B d r) (h3 : Bs w C q s) (e1 : A = none → c = 0) (e2 : B = none → e = 0) (e3 : C = none → f = 0) (h4 : Bs w D m u) (e4 : D = none → g = 0) :
    Calls Tryz.prog 16 #[.agg #[.slice A h c, .slice B d e, .slice C q f, .int .i64 k], .slice D m g] w (SymAns (askedC h d q k m) (codN (askedC h d q k m) h) (codN (askedC h d q k m) 32) (codN (askedC h d q k m) 32) 0 (codL (askedC h d q k m) l) (codL (askedC h d q k m) (firstW r u)) (codL (askedC h d q k m) (otherW r u)) [] 0 w) := by
  have ca := fun W (hW : Below w.heap.size w W) => ansMixKey_any A B C h c d e q f l r s k D m g u W (hT.keep hW) (h1.below hW) (h2.below hW) (h3.below hW) e1 e2 e3 (h4.below hW) e4
  generalize codN (askedC h d q k m) h = N0 at *
  generalize codN (askedC h d q k m) 32 = N1 at *
  generalize codL (askedC h d q k m) l = L0 at *
  generalize codL (askedC h d q k m) (firstW r u) = L1 at *
  generalize codL (askedC h d q k m) (otherW r u) = L2 at *
  generalize askedC h d q k m = Z at *
  clear h1 h2 h3 h4 hT e1 e2 e3 e4
  have B0 := ab (ab (Below.refl _ w) (.cells #[.slice A h c, .slice B d e, .slice C q f, .int .i64 k] 25)) (.cells #[.int .i64 0, .slice none 0 0, .slice none 0 0, .slice none 0 0, .int .i64 0, .slice none 0 0] 29)
  have S1 := Stc.new (w.alloc (.cells #[.slice A h c, .slice B d e, .slice C q f, .int .i64 k] 25)) 29 [.int .i64 0, .slice none 0 0, .slice none 0 0, .slice none 0 0, .int .i64 0, .slice none 0 0] _ rfl
  simp only [World.size_alloc] at S1
  go_enter Tryz.func16, Tryz.ntmps16
  go_wp2_with fail
  refine (ca _ B0).mono ?_
  rintro e' w1 ⟨⟨A1, c1, B1, d1, C1, f1, D1, g1, rfl, R, ro⟩, b1⟩
  clear ca
  have BB := ac B0 b1
  replace S1 := S1.below b1 S1.lt
  simp only [World.size_alloc] at R
  have x0 := S1.cell (i := 0) rfl
  have x1 := S1.cell (i := 1) rfl
  have x2 := S1.cell (i := 2) rfl
  have x3 := S1.cell (i := 3) rfl
  have x4 := S1.cell (i := 4) rfl
  have x5 := S1.cell (i := 5) rfl
  have y0 := S1.frozen
  go_wp2
  refine bodyPost_ret (v := .agg #[.int .i64 Z, .slice A1 N0 c1, .slice B1 N1 d1, .slice C1 N1 f1, .int .i64 0, .slice D1 0 g1]) (by simp [results, Tryz.results16, go_sem, x0, x1, x2, x3, x4, x5]) rfl ?_
  have zz : w.heap.size + 1 < w.heap.size + 1 + 1 := Nat.lt_succ_self _
  exact ⟨⟨A1, c1, B1, d1, C1, f1, D1, g1, rfl, ((((((R.far zz _).far zz _).far zz _).far zz _).far zz _).far zz _).mono (by omega), ro⟩, (((((BB.setCell (Nat.le_succ _) _).setCell (Nat.le_succ _) _).setCell (Nat.le_succ _) _).setCell (Nat.le_succ _) _).setCell (Nat.le_succ _) _).setCell (Nat.le_succ _) _⟩

set_option maxHeartbeats 2000000 in
theorem specMixKey_any (A B C : Option Addr) (h c d e q f : Nat) (l r s : List Int) (k : Int) (D : Option Addr) (m g : Nat) (u : List Int) (w : World) (h1 : Bs w A h l) (h2 : Bs w B d r) (h3 : Bs w C q s) (e1 : A = none → c = 0) (e2 : B = none → e = 0) (e3 : C = none → f = 0) (h4 : Bs w D m u) (e4 : D = none → g = 0) :
    Calls Tryz.prog 24 #[.agg #[.slice A h c, .slice B d e, .slice C q f, .int .i64 k], .slice D m g] w (SymAns (askedC h d q k m) (codN (askedC h d q k m) h) (codN (askedC h d q k m) 32) (codN (askedC h d q k m) 32) 0 (codL (askedC h d q k m) l) (codL (askedC h d q k m) (firstW r u)) (codL (askedC h d q k m) (otherW r u)) [] 0 w) := by
  have S0 := (Stc.new w 25 [.slice A h c, .slice B d e, .slice C q f, .int .i64 k] _ rfl).alloc (.cells #[.int .i64 0, .slice none 0 0, .slice none 0 0, .slice none 0 0, .int .i64 0, .slice none 0 0] 29)
  have S1 := Stc.new (w.alloc (.cells #[.slice A h c, .slice B d e, .slice C q f, .int .i64 k] 25)) 29 [.int .i64 0, .slice none 0 0, .slice none 0 0, .slice none 0 0, .int .i64 0, .slice none 0 0] _ rfl
  have B0 := ab (ab (Below.refl _ w) (.cells #[.slice A h c, .slice B d e, .slice C q f, .int .i64 k] 25)) (.cells #[.int .i64 0, .slice none 0 0, .slice none 0 0, .slice none 0 0, .int .i64 0, .slice none 0 0] 29)
  simp only [World.size_alloc] at S1
  have ca := l5Asked_any w.heap.size A B C h c d e q f k _ D m g _ S0
  by_cases hz : askedC h d q k m = 0
  · obtain ⟨hs0, hm⟩ := askedC_zero hz
    have en := fun n => (cod_pos hz n []).1
    have el := fun l => (cod_pos hz 0 l).2
    simp only [en, el]
    rw [hz]
    rw [hz] at ca
    have hsz := symC_zero hs0
    obtain ⟨hh, hd, -⟩ := symC_zero hs0
    have hq : q ≤ 32 := by omega
    clear en el hz hs0 hsz
    subst hh hd
    go_enter Tryz.func24, Tryz.ntmps24
    go_wp2_with fail
    refine ca.mono ?_
    rintro e' w1 ⟨rfl, b1⟩
    clear ca
    have B1 := ac B0 b1
    replace S0 := S0.below b1 S0.lt
    replace S1 := S1.below b1 S1.lt
    have cc := l5Copy_any _ A B C 32 32 q c e f l r s k _ w1 S0 (h1.below B1) (h2.below B1) (h3.below B1) e1 e2 e3 (by omega) (by omega) (by omega)
    go_wp2_with fail
    refine cc.mono ?_
    rintro e' w2 ⟨⟨A2, c2, B2, d2, C2, f2, rfl, R2, r1, r2, r3⟩, b2⟩
    clear cc S0
    have zz : w.heap.size + 1 < w1.heap.size := by have := b1.size; simp only [World.size_alloc] at this; omega
    have z2 : w1.heap.size ≤ w2.heap.size := b2.size
    replace S1 := (S1.below b2 S1.lt).alloc (.cells #[.slice A2 32 c2, .slice B2 32 d2, .slice C2 q f2, .int .i64 k] 25)
    have BB := ab (ac B1 b2) (.cells #[.slice A2 32 c2, .slice B2 32 d2, .slice C2 q f2, .int .i64 k] 25)
    replace R2 := R2.alloc (.cells #[.slice A2 32 c2, .slice B2 32 d2, .slice C2 q f2, .int .i64 k] 25)
    have T2 := Stc.new w2 25 [.slice A2 32 c2, .slice B2 32 d2, .slice C2 q f2, .int .i64 k] _ rfl
    have hN : NoByte [.slice A2 32 c2, .slice B2 32 d2, .slice C2 q f2, .int .i64 k] := by intro v hv x; simp only [List.mem_cons, List.not_mem_nil, or_false] at hv; rcases hv with rfl | rfl | rfl | rfl <;> simp
    have cm := l5MixKey_any w2.heap.size 0 _ _ B2 32 d2 r D m g u _ _ _ T2 rfl rfl rfl R2.rest.head.bs (h4.below BB) e4 (by omega)
    go_wp2_with fail
    refine cm.mono ?_
    rintro e' w3 ⟨rfl, B3, d3, C3, f3, T3, R4, sv⟩
    clear cm
    obtain ⟨o0, _⟩ := R2
    have q0 := o0.save' T2 hN sv
    obtain ⟨o2, s2, o3, _⟩ := R4
    have R3 : Rs w3 w1.heap.size [(A2, 32, l), (B3, 32, firstW r u), (C3, 32, otherW r u), (none, 0, [])] := by
      refine Rs.cons q0 ?_ (Rs.cons (o2.mono (by simp; omega)) ?_ (Rs.cons (o3.mono (by simp; omega)) ?_ (Rs.cons (Ow.nil_ _ _) ?_ (Rs.nil _ _))))
      · intro y hy
        simp only [List.mem_cons, List.not_mem_nil, or_false] at hy
        rcases hy with rfl | rfl | rfl
        · exact sunder_of o0 o2 (.inl (Nat.le_refl _))
        · exact sunder_of o0 o3 (.inl (Nat.le_refl _))
        · intro _ h0; exact absurd h0 (by simp)
      · intro y hy
        simp only [List.mem_cons, List.not_mem_nil, or_false] at hy
        rcases hy with rfl | rfl
        · exact s2 _ (by simp)
        · intro _ h0; exact absurd h0 (by simp)
      · intro y hy
        simp only [List.mem_cons, List.not_mem_nil, or_false] at hy
        subst hy
        intro _ h0; exact absurd h0 (by simp)
      · intro y hy; cases hy
    replace S1 := S1.save sv (by omega)
    have x0 := S1.cell (i := 0) rfl
    have x1 := S1.cell (i := 1) rfl
    have x2 := S1.cell (i := 2) rfl
    have x3 := S1.cell (i := 3) rfl
    have x4 := S1.cell (i := 4) rfl
    have x5 := S1.cell (i := 5) rfl
    have y0 := S1.frozen
    have v0 := T3.cell (i := 0) rfl
    have v1 := T3.cell (i := 1) rfl
    have v2 := T3.cell (i := 2) rfl
    have v3 := T3.cell (i := 3) rfl
    have B3' := BB.trans (sv.below (B := w.heap.size) (by omega) (by simp; omega))
    clear S1 T2 T3
    go_wp2
    refine bodyPost_ret (v := .agg #[.int .i64 0, .slice A2 32 c2, .slice B3 32 d3, .slice C3 32 f3, .int .i64 0, .slice none 0 0]) (by simp [results, Tryz.results24, go_sem, x0, x1, x2, x3, x4, x5]) rfl ?_
    exact ⟨⟨A2, c2, B3, d3, C3, f3, none, 0, rfl, ((((((R3.far zz _).far zz _).far zz _).far zz _).far zz _).far zz _).mono (by omega), ⟨Nat.le_refl _, fun _ => rfl⟩⟩, (((((B3'.setCell (Nat.le_succ _) _).setCell (Nat.le_succ _) _).setCell (Nat.le_succ _) _).setCell (Nat.le_succ _) _).setCell (Nat.le_succ _) _).setCell (Nat.le_succ _) _⟩
  · have en := fun n => (cod_neg hz n []).1
    have el := fun l => (cod_neg hz 0 l).2
    simp only [en, el]
    have hp : (askedC h d q k m != 0) = true := by rw [bne_iff_ne]; exact hz
    clear en el hz S0
    generalize askedC h d q k m = Z at *
    go_enter Tryz.func24, Tryz.ntmps24
    go_wp2_with fail
    refine ca.mono ?_
    rintro e' w1 ⟨rfl, b1⟩
    clear ca
    have B1 := ac B0 b1
    replace S1 := S1.below b1 S1.lt
    have x0 := S1.cell (i := 0) rfl
    have x1 := S1.cell (i := 1) rfl
    have x2 := S1.cell (i := 2) rfl
    have x3 := S1.cell (i := 3) rfl
    have x4 := S1.cell (i := 4) rfl
    have x5 := S1.cell (i := 5) rfl
    have y0 := S1.frozen
    go_wp2
    refine bodyPost_ret (v := .agg #[.int .i64 Z, .slice none 0 0, .slice none 0 0, .slice none 0 0, .int .i64 0, .slice none 0 0]) (by simp [results, Tryz.results24, go_sem, x0, x1, x2, x3, x4, x5]) rfl ?_
    exact SymAns.none_ _ w _ ((((((B1.setCell (Nat.le_succ _) _).setCell (Nat.le_succ _) _).setCell (Nat.le_succ _) _).setCell (Nat.le_succ _) _).setCell (Nat.le_succ _) _).setCell (Nat.le_succ _) _)

end Go.Proofs.YtabhcolfkkfonaaGreatDoor
