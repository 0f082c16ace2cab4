/- OpenHash, of the model and of the program. -/
import Derived.Test.YtabhcolfkkfonaaGreatDoorOpenY
namespace Go.Proofs.YtabhcolfkkfonaaGreatDoor
open Go.RowKit
set_option linter.unusedVariables false

/-- what is asked of OpenHash, and what it tells -/
def olC (h d q : Nat) (k : Int) (m : Nat) (key l u : List Int) : Int := if askedC h d q k m = 0 then (if 0 < q ∧ 1000 ≤ k then 7 else if 0 < q ∧ m < 16 then 2 else if 0 < q ∧ ¬ opT key l k u (m - 16) then 6 else 0) else askedC h d q k m
def olM (q m : Nat) : Nat := if q = 0 then m else m - 16
def olL (q m : Nat) (key l : List Int) (k : Int) (u : List Int) : List Int := if q = 0 then u else opX key l k u (m - 16)
theorem olM_le (q m : Nat) : olM q m ≤ m := by unfold olM; split <;> omega

theorem olC_cases (h d q : Nat) (k : Int) (m : Nat) (key l u : List Int) :
    (askedC h d q k m = 0 ∧ olC h d q k m key l u = 0 ∧ (q = 0 ∨ (k < 1000 ∧ 16 ≤ m ∧ opT key l k u (m - 16)))) ∨ (askedC h d q k m = 0 ∧ olC h d q k m key l u = 7 ∧ 0 < q ∧ 1000 ≤ k) ∨
    (askedC h d q k m = 0 ∧ olC h d q k m key l u = 2 ∧ 0 < q ∧ k < 1000 ∧ m < 16) ∨ (askedC h d q k m = 0 ∧ olC h d q k m key l u = 6 ∧ 0 < q ∧ k < 1000 ∧ 16 ≤ m ∧ ¬ opT key l k u (m - 16)) ∨ (¬ askedC h d q k m = 0 ∧ olC h d q k m key l u = askedC h d q k m) := by
  unfold olC
  by_cases h0 : askedC h d q k m = 0
  · rw [if_pos h0]
    by_cases h1 : 0 < q ∧ 1000 ≤ k
    · rw [if_pos h1]; exact .inr (.inl ⟨h0, rfl, h1⟩)
    · rw [if_neg h1]
      by_cases h2 : 0 < q ∧ m < 16
      · rw [if_pos h2]; exact .inr (.inr (.inl ⟨h0, rfl, h2.1, by omega, h2.2⟩))
      · rw [if_neg h2]
        by_cases h3 : 0 < q ∧ ¬ opT key l k u (m - 16)
        · rw [if_pos h3]; exact .inr (.inr (.inr (.inl ⟨h0, rfl, h3.1, by omega, by omega, h3.2⟩)))
        · rw [if_neg h3]
          refine .inl ⟨h0, rfl, ?_⟩
          by_cases h4 : q = 0
          · exact .inl h4
          · refine .inr ⟨by omega, by omega, ?_⟩
            by_cases h5 : opT key l k u (m - 16)
            · exact h5
            · exact absurd ⟨by omega, h5⟩ h3
  · exact .inr (.inr (.inr (.inr ⟨h0, by rw [if_neg h0]⟩)))

def OpenOut (mk : Value → Value) (b : Nat) (B C : Option Addr) (e q f m : Nat) (k : Int) (l s u : List Int) (t : TypeId) (w : World) (e' : Ending) (w' : World) : Prop :=
  ∃ A' c' B' d', e' = .returned (mk (.slice B' (olM q m) d')) ∧ Stc w' b [.slice A' 32 c', .slice B 32 e, .slice C q f, .int .i64 (slK q k)] t ∧ Rs w' w.heap.size [(A', 32, hashW (l ++ u)), (B', olM q m, olL q m s l k u)] ∧ Roomy A' 32 c' ∧ Roomy B' (olM q m) d' ∧ Save b w w'

theorem l5Open_both (b : Nat) (t : TypeId) (A B C : Option Addr) (c e q f : Nat) (l s : List Int) (k : Int) (D : Option Addr) (m g : Nat) (u : List Int) (w : World) (hs : Stc w b [.slice A 32 c, .slice B 32 e, .slice C q f, .int .i64 k] t)
    (hq : q = 0 ∨ (q = 32 ∧ 0 ≤ k ∧ k < 1000 ∧ 16 ≤ m ∧ opT s l k u (m - 16))) (h1 : Bs w A 32 l) (e1 : A = none → c = 0) (h3 : Bs w C q s) (e3 : q ≤ f) (h4 : Bs w D m u) (e4 : m ≤ g) (e5 : D = none → g = 0) (hm : m ≤ 900) :
    Calls Tryz.prog 83 #[.pointer (some ⟨b, 0, none⟩), .slice D m g] w (OpenOut (fun v => .tuple #[v, .bool true]) b B C e q f m k l s u t w) := by
  rcases hq with rfl | ⟨rfl, h0, hk, h16, ht⟩
  · refine (l5Open_plain b 0 _ t A c l C f D m g u w hs (noByteS _ _ _ _ _ _ _ _ _ _) rfl rfl h1 e1 h4 e5 hm).mono ?_
    rintro e' w' ⟨A', c', B', d', he, S', R, r1, r2, sv⟩
    exact ⟨A', c', B', d', he, S', R, r1, r2, sv⟩
  · obtain ⟨n, rfl⟩ : ∃ n, m = n + 16 := ⟨m - 16, by omega⟩
    rw [Nat.add_sub_cancel] at ht
    refine (l5Open_key b 0 _ t A c l C f s k D n g u w hs (noByteS _ _ _ _ _ _ _ _ _ _) rfl rfl rfl h0 hk h1 e1 h3 e3 h4 e4 hm ht).mono ?_
    rintro e' w' ⟨A', c', B', d', he, S', R, r1, r2, sv⟩
    exact ⟨A', c', B', d', he, S', R, r1, r2, sv⟩

theorem open_both (b : Nat) (t : TypeId) (A B C : Option Addr) (c e q f : Nat) (l s : List Int) (k : Int) (D : Option Addr) (m g : Nat) (u : List Int) (w : World) (hT : ∀ W : World, Save b w W → Tabs W) (hQ : ∀ W : World, Save b w W → Quar W) (hE : ∀ W : World, Save b w W → Sent W) (hs : Stc w b [.slice A 32 c, .slice B 32 e, .slice C q f, .int .i64 k] t)
    (hq : q = 0 ∨ (q = 32 ∧ 0 ≤ k ∧ k < 1000 ∧ 16 ≤ m ∧ opT s l k u (m - 16))) (h1 : Bs w A 32 l) (e1 : A = none → c = 0) (h3 : Bs w C q s) (e3 : q ≤ f) (h4 : Bs w D m u) (e4 : m ≤ g) (e5 : D = none → g = 0) (hm : m ≤ 900) :
    Calls Tryz.prog 72 #[.pointer (some ⟨b, 0, none⟩), .slice D m g] w (OpenOut (fun v => v) b B C e q f m k l s u t w) := by
  rcases hq with rfl | ⟨rfl, h0, hk, h16, ht⟩
  · refine (open_plain b 0 _ t A c l C f D m g u w hT hs (noByteS _ _ _ _ _ _ _ _ _ _) rfl rfl h1 e1 h4 e5 hm).mono ?_
    rintro e' w' ⟨A', c', B', d', he, S', R, r1, r2, sv⟩
    exact ⟨A', c', B', d', he, S', R, r1, r2, sv⟩
  · obtain ⟨n, rfl⟩ : ∃ n, m = n + 16 := ⟨m - 16, by omega⟩
    rw [Nat.add_sub_cancel] at ht
    refine (open_key b 0 _ t A c l C f s k D n g u w hT hQ hE hs (noByteS _ _ _ _ _ _ _ _ _ _) rfl rfl rfl h0 hk h1 e1 h3 e3 h4 e4 hm ht).mono ?_
    rintro e' w' ⟨A', c', B', d', he, S', R, r1, r2, sv⟩
    exact ⟨A', c', B', d', he, S', R, r1, r2, sv⟩

set_option maxHeartbeats 2000000 in
theorem specOpenHash_any (A B C : Option Addr) (h c d e q f : Nat) (l r s : List Int) (k : Int) (D : Option Addr) (m g : Nat) (u : List Int) (w : World) (h1 : Bs w A h l) (h2 : Bs w B d r) (h3 : Bs w C q s) (e1 : A = none → c = 0) (e2 : B = none → e = 0) (e3 : C = none → f = 0) (h4 : Bs w D m u) (e4 : D = none → g = 0) (x4 : m ≤ g) :
    Calls Tryz.prog 22 #[.agg #[.slice A h c, .slice B d e, .slice C q f, .int .i64 k], .slice D m g] w (SymAns (olC h d q k m s l u) (codN (olC h d q k m s l u) 32) (codN (olC h d q k m s l u) d) (codN (olC h d q k m s l u) q) (codN (olC h d q k m s l u) (olM q m)) (codL (olC h d q k m s l u) (hashW (l ++ u))) (codL (olC h d q k m s l u) r) (codL (olC h d q k m s l u) s) (codL (olC h d q k m s l u) (olL q m s l k u)) (codK (olC h d q k m s l u) (slK q k)) w) := by
  have S0 := (Stc.new w 25 [.slice A h c, .slice B d e, .slice C q f, .int .i64 k] _ rfl).alloc (.cells #[.int .i64 0, .slice none 0 0, .slice none 0 0, .slice none 0 0, .int .i64 0, .slice none 0 0] 29)
  have S1 := Stc.new (w.alloc (.cells #[.slice A h c, .slice B d e, .slice C q f, .int .i64 k] 25)) 29 [.int .i64 0, .slice none 0 0, .slice none 0 0, .slice none 0 0, .int .i64 0, .slice none 0 0] _ rfl
  have B0 := ab (ab (Below.refl _ w) (.cells #[.slice A h c, .slice B d e, .slice C q f, .int .i64 k] 25)) (.cells #[.int .i64 0, .slice none 0 0, .slice none 0 0, .slice none 0 0, .int .i64 0, .slice none 0 0] 29)
  simp only [World.size_alloc] at S1
  have ca := l5Asked_any w.heap.size A B C h c d e q f k _ D m g _ S0
  rcases olC_cases h d q k m s l u with ⟨hz, hc, hq⟩ | ⟨hz, hc, hq⟩ | ⟨hz, hc, hq, hk9, hm9⟩ | ⟨hz, hc, hq, hk9, hm9, ht9⟩ | ⟨hz, hc⟩
  · obtain ⟨hs0, hm⟩ := askedC_zero hz
    have en := fun n => (cod_pos hc n []).1
    have el := fun l => (cod_pos hc 0 l).2
    simp only [en, el, codK, if_pos hc]
    rw [hc]
    rw [hz] at ca
    have hsz := symC_zero hs0
    obtain ⟨hh, hd, hk⟩ := symC_zero hs0
    have hq32 : q ≤ 32 := by omega
    have hqk : q = 0 ∨ (q = 32 ∧ 0 ≤ k ∧ k < 1000 ∧ 16 ≤ m ∧ opT s l k u (m - 16)) := by
      rcases hq with h | ⟨h5, h6, h7⟩
      · exact .inl h
      · by_cases h8 : q = 0
        · exact .inl h8
        · exact .inr ⟨by omega, by omega, h5, h6, h7⟩
    have hfull := Shut.mk (show false = (decide (0 < q) && decide (1000 ≤ k)) from by
      rcases hqk with h | h
      · simp [h]
      · have : ¬ 1000 ≤ k := by omega
        simp [this])
    clear en el hz hs0 hsz hq hk hc
    subst hh hd
    have cf := l5Full_any w.heap.size 0 [.slice A 32 c, .slice B 32 e, .slice C q f, .int .i64 k] 25 C q f k false
    go_enter Tryz.func22, Tryz.ntmps22
    go_wp2_with fail
    refine ca.mono ?_
    rintro e' w1 ⟨rfl, b1⟩
    clear ca
    have B1 := ac B0 b1
    replace S0 := S0.below b1 S0.lt
    replace S1 := S1.below b1 S1.lt
    go_wp2_with fail
    refine (cf _ S0 rfl rfl hfull.out).mono ?_
    rintro e' w1' ⟨rfl, b1'⟩
    have zq := b1.size
    simp only [World.size_alloc] at zq
    replace S0 := S0.below b1' S0.lt
    replace S1 := S1.below b1' S1.lt
    replace B1 := ac B1 b1'
    have zq' := b1'.size
    have HU := Shut.mk hqk
    have cc := l5Copy_any _ A B C 32 32 q c e f l r s k _ w1' S0 (h1.below B1) (h2.below B1) (h3.below B1) e1 e2 e3 (by omega) (by omega) (by omega)
    have s2 := S0.cell (i := 2) rfl
    have gq : ((0 : Int) < (q : Int)) ∧ ¬ ((m : Int) < 16) ∨ ¬ ((0 : Int) < (q : Int)) := by rcases hqk with h | h <;> omega
    clear cf hfull b1 b1' hqk
    rcases gq with ⟨gq, gm⟩ | gq
    all_goals
     go_wp2_with fail
     refine cc.mono ?_
     rintro e' w2 ⟨⟨A2, c2, B2, d2, C2, f2, rfl, R2, r1, r2, r3⟩, b2⟩
     clear cc S0 s2
     have zz : w.heap.size + 1 < w1'.heap.size := by omega
     have z2 : w1'.heap.size ≤ w2.heap.size := b2.size
     replace S1 := (S1.below b2 S1.lt).alloc (.cells #[.slice A2 32 c2, .slice B2 32 d2, .slice C2 q f2, .int .i64 k] 25)
     have BB := ab (ac B1 b2) (.cells #[.slice A2 32 c2, .slice B2 32 d2, .slice C2 q f2, .int .i64 k] 25)
     replace R2 := R2.alloc (.cells #[.slice A2 32 c2, .slice B2 32 d2, .slice C2 q f2, .int .i64 k] 25)
     have T2 := Stc.new w2 25 [.slice A2 32 c2, .slice B2 32 d2, .slice C2 q f2, .int .i64 k] _ rfl
     have cm := Shut.mk (l5Open_both w2.heap.size _ A2 B2 C2 c2 d2 q f2 l s k D m g u _ T2 HU.out R2.head.bs r1.2 R2.rest.rest.head.bs r3.1 (h4.below BB) x4 e4 hm)
     go_wp2_with fail
     refine cm.out.mono ?_
     rintro e' w3 ⟨A3, c3, D3, g3, rfl, T3, R3, r4, r5, sv⟩
     clear cm
     have R4 := four_runs R2 T2 (noByteS _ _ _ _ _ _ _ _ _ _) sv R3 (by simp; omega)
     generalize olM q m = N3 at *
     generalize olL q m s l k u = X3 at *
     generalize slK q k = K3 at *
     replace S1 := S1.save sv (by omega)
     have x0 := S1.cell (i := 0) rfl
     have x1 := S1.cell (i := 1) rfl
     have x2 := S1.cell (i := 2) rfl
     have x3 := S1.cell (i := 3) rfl
     have x4 := S1.cell (i := 4) rfl
     have x5 := S1.cell (i := 5) rfl
     have y0 := S1.frozen
     have v0 := T3.cell (i := 0) rfl
     have v1 := T3.cell (i := 1) rfl
     have v2 := T3.cell (i := 2) rfl
     have v3 := T3.cell (i := 3) rfl
     have B3' := BB.trans (sv.below (B := w.heap.size) (by omega) (by simp; omega))
     have hne : ¬ w2.heap.size = w.heap.size + 1 := by omega
     clear S1 T2 T3 R3 R2
     go_wp2
     refine bodyPost_ret (v := .agg #[.int .i64 0, .slice A3 32 c3, .slice B2 32 d2, .slice C2 q f2, .int .i64 K3, .slice D3 N3 g3]) (by simp [results, Tryz.results22, go_sem, x0, x1, x2, x3, x4, x5]) rfl ?_
     exact ⟨⟨A3, c3, B2, d2, C2, f2, D3, g3, rfl, ((((((R4.far zz _).far zz _).far zz _).far zz _).far zz _).far zz _).mono (by omega), r5⟩, (((((B3'.setCell (Nat.le_succ _) _).setCell (Nat.le_succ _) _).setCell (Nat.le_succ _) _).setCell (Nat.le_succ _) _).setCell (Nat.le_succ _) _).setCell (Nat.le_succ _) _⟩
  · have hc0 : ¬ olC h d q k m s l u = 0 := by omega
    have en := fun n => (cod_neg hc0 n []).1
    have el := fun l => (cod_neg hc0 0 l).2
    simp only [en, el, codK, if_neg hc0]
    rw [hc]
    rw [hz] at ca
    have hfull : true = (decide (0 < q) && decide (1000 ≤ k)) := by
      have h1 : 1000 ≤ k := hq.2
      have h2 : 0 < q := hq.1
      simp [h1, h2]
    have cf := l5Full_any w.heap.size 0 [.slice A h c, .slice B d e, .slice C q f, .int .i64 k] 25 C q f k true
    clear en el hz hc hc0 hq
    go_enter Tryz.func22, Tryz.ntmps22
    go_wp2_with fail
    refine ca.mono ?_
    rintro e' w1 ⟨rfl, b1⟩
    clear ca
    have B1 := ac B0 b1
    replace S0 := S0.below b1 S0.lt
    replace S1 := S1.below b1 S1.lt
    go_wp2_with fail
    refine (cf _ S0 rfl rfl hfull).mono ?_
    rintro e' w1' ⟨rfl, b1'⟩
    replace S1 := S1.below b1' S1.lt
    replace B1 := ac B1 b1'
    clear cf hfull S0 b1 b1'
    have x0 := S1.cell (i := 0) rfl
    have x1 := S1.cell (i := 1) rfl
    have x2 := S1.cell (i := 2) rfl
    have x3 := S1.cell (i := 3) rfl
    have x4 := S1.cell (i := 4) rfl
    have x5 := S1.cell (i := 5) rfl
    have y0 := S1.frozen
    go_wp2
    refine bodyPost_ret (v := .agg #[.int .i64 7, .slice none 0 0, .slice none 0 0, .slice none 0 0, .int .i64 0, .slice none 0 0]) (by simp [results, Tryz.results22, go_sem, x0, x1, x2, x3, x4, x5]) rfl ?_
    exact SymAns.none_ _ w _ ((((((B1.setCell (Nat.le_succ _) _).setCell (Nat.le_succ _) _).setCell (Nat.le_succ _) _).setCell (Nat.le_succ _) _).setCell (Nat.le_succ _) _).setCell (Nat.le_succ _) _)
  · have hc0 : ¬ olC h d q k m s l u = 0 := by omega
    have en := fun n => (cod_neg hc0 n []).1
    have el := fun l => (cod_neg hc0 0 l).2
    simp only [en, el, codK, if_neg hc0]
    rw [hc]
    rw [hz] at ca
    have hfull := Shut.mk (show false = (decide (0 < q) && decide (1000 ≤ k)) from by
      have : ¬ 1000 ≤ k := by omega
      simp [this])
    have cf := l5Full_any w.heap.size 0 [.slice A h c, .slice B d e, .slice C q f, .int .i64 k] 25 C q f k false
    have gq : (0 : Int) < (q : Int) := by omega
    have gm : (m : Int) < 16 := by omega
    clear en el hz hc hc0 hq hk9 hm9
    go_enter Tryz.func22, Tryz.ntmps22
    go_wp2_with fail
    refine ca.mono ?_
    rintro e' w1 ⟨rfl, b1⟩
    clear ca
    have B1 := ac B0 b1
    replace S0 := S0.below b1 S0.lt
    replace S1 := S1.below b1 S1.lt
    go_wp2_with fail
    refine (cf _ S0 rfl rfl hfull.out).mono ?_
    rintro e' w1' ⟨rfl, b1'⟩
    replace S1 := S1.below b1' S1.lt
    replace B1 := ac B1 b1'
    have s2 := (S0.below b1' S0.lt).cell (i := 2) rfl
    clear cf hfull S0 b1 b1'
    have x0 := S1.cell (i := 0) rfl
    have x1 := S1.cell (i := 1) rfl
    have x2 := S1.cell (i := 2) rfl
    have x3 := S1.cell (i := 3) rfl
    have x4 := S1.cell (i := 4) rfl
    have x5 := S1.cell (i := 5) rfl
    have y0 := S1.frozen
    go_wp2
    refine bodyPost_ret (v := .agg #[.int .i64 2, .slice none 0 0, .slice none 0 0, .slice none 0 0, .int .i64 0, .slice none 0 0]) (by simp [results, Tryz.results22, go_sem, x0, x1, x2, x3, x4, x5]) rfl ?_
    exact SymAns.none_ _ w _ ((((((B1.setCell (Nat.le_succ _) _).setCell (Nat.le_succ _) _).setCell (Nat.le_succ _) _).setCell (Nat.le_succ _) _).setCell (Nat.le_succ _) _).setCell (Nat.le_succ _) _)
  · have hc0 : ¬ olC h d q k m s l u = 0 := by omega
    have en := fun n => (cod_neg hc0 n []).1
    have el := fun l => (cod_neg hc0 0 l).2
    simp only [en, el, codK, if_neg hc0]
    rw [hc]
    rw [hz] at ca
    obtain ⟨hs0, hm⟩ := askedC_zero hz
    obtain ⟨hh, hd, hk⟩ := symC_zero hs0
    obtain rfl : q = 32 := by omega
    obtain ⟨n9, rfl⟩ : ∃ n, m = n + 16 := ⟨m - 16, by omega⟩
    rw [Nat.add_sub_cancel] at ht9
    have hfull := Shut.mk (show false = (decide (0 < 32) && decide (1000 ≤ k)) from by
      have : ¬ 1000 ≤ k := by omega
      simp [this])
    have hk0 : 0 ≤ k := by omega
    have gm : ¬ ((n9 : Int) + 16 < 16) := by omega
    clear en el hz hs0 hq hk hc hc0
    subst hh hd
    have cf := l5Full_any w.heap.size 0 [.slice A 32 c, .slice B 32 e, .slice C 32 f, .int .i64 k] 25 C 32 f k false
    go_enter Tryz.func22, Tryz.ntmps22
    go_wp2_with fail
    refine ca.mono ?_
    rintro e' w1 ⟨rfl, b1⟩
    clear ca
    have B1 := ac B0 b1
    replace S0 := S0.below b1 S0.lt
    replace S1 := S1.below b1 S1.lt
    go_wp2_with fail
    refine (cf _ S0 rfl rfl hfull.out).mono ?_
    rintro e' w1' ⟨rfl, b1'⟩
    have zq := b1.size
    simp only [World.size_alloc] at zq
    replace S0 := S0.below b1' S0.lt
    replace S1 := S1.below b1' S1.lt
    replace B1 := ac B1 b1'
    have zq' := b1'.size
    have cc := l5Copy_any _ A B C 32 32 32 c e f l r s k _ w1' S0 (h1.below B1) (h2.below B1) (h3.below B1) e1 e2 e3 (by omega) (by omega) (by omega)
    have s2 := S0.cell (i := 2) rfl
    clear cf hfull b1 b1'
    go_wp2_with fail
    refine cc.mono ?_
    rintro e' w2 ⟨⟨A2, c2, B2, d2, C2, f2, rfl, R2, r1, r2, r3⟩, b2⟩
    clear cc S0 s2
    have zz : w.heap.size + 1 < w1'.heap.size := by omega
    have z2 : w1'.heap.size ≤ w2.heap.size := b2.size
    replace S1 := (S1.below b2 S1.lt).alloc (.cells #[.slice A2 32 c2, .slice B2 32 d2, .slice C2 32 f2, .int .i64 k] 25)
    have BB := ab (ac B1 b2) (.cells #[.slice A2 32 c2, .slice B2 32 d2, .slice C2 32 f2, .int .i64 k] 25)
    replace R2 := R2.alloc (.cells #[.slice A2 32 c2, .slice B2 32 d2, .slice C2 32 f2, .int .i64 k] 25)
    have T2 := Stc.new w2 25 [.slice A2 32 c2, .slice B2 32 d2, .slice C2 32 f2, .int .i64 k] _ rfl
    have cm := Shut.mk (l5Open_bad w2.heap.size 0 _ _ A2 c2 l C2 f2 s k D n9 g u _ T2 (noByteS _ _ _ _ _ _ _ _ _ _) rfl rfl rfl hk0 hk9 R2.head.bs r1.2 R2.rest.rest.head.bs r3.1 (h4.below BB) x4 hm ht9)
    go_wp2_with fail
    refine cm.out.mono ?_
    rintro e' w3 ⟨rfl, b3⟩
    clear cm
    replace S1 := S1.below b3 S1.lt
    have B3' := ac BB b3
    have x0 := S1.cell (i := 0) rfl
    have x1 := S1.cell (i := 1) rfl
    have x2 := S1.cell (i := 2) rfl
    have x3 := S1.cell (i := 3) rfl
    have x4 := S1.cell (i := 4) rfl
    have x5 := S1.cell (i := 5) rfl
    have y0 := S1.frozen
    go_wp2
    refine bodyPost_ret (v := .agg #[.int .i64 6, .slice none 0 0, .slice none 0 0, .slice none 0 0, .int .i64 0, .slice none 0 0]) (by simp [results, Tryz.results22, go_sem, x0, x1, x2, x3, x4, x5]) rfl ?_
    exact SymAns.none_ _ w _ ((((((B3'.setCell (Nat.le_succ _) _).setCell (Nat.le_succ _) _).setCell (Nat.le_succ _) _).setCell (Nat.le_succ _) _).setCell (Nat.le_succ _) _).setCell (Nat.le_succ _) _)
  · have hc0 : ¬ olC h d q k m s l u = 0 := by rw [hc]; exact hz
    have en := fun n => (cod_neg hc0 n []).1
    have el := fun l => (cod_neg hc0 0 l).2
    simp only [en, el, codK, if_neg hc0]
    rw [hc]
    have hp : (askedC h d q k m != 0) = true := by rw [bne_iff_ne]; exact hz
    clear en el hz hc hc0 S0
    generalize askedC h d q k m = Z at *
    go_enter Tryz.func22, Tryz.ntmps22
    go_wp2_with fail
    refine ca.mono ?_
    rintro e' w1 ⟨rfl, b1⟩
    clear ca
    have B1 := ac B0 b1
    replace S1 := S1.below b1 S1.lt
    have x0 := S1.cell (i := 0) rfl
    have x1 := S1.cell (i := 1) rfl
    have x2 := S1.cell (i := 2) rfl
    have x3 := S1.cell (i := 3) rfl
    have x4 := S1.cell (i := 4) rfl
    have x5 := S1.cell (i := 5) rfl
    have y0 := S1.frozen
    go_wp2
    refine bodyPost_ret (v := .agg #[.int .i64 Z, .slice none 0 0, .slice none 0 0, .slice none 0 0, .int .i64 0, .slice none 0 0]) (by simp [results, Tryz.results22, go_sem, x0, x1, x2, x3, x4, x5]) rfl ?_
    exact SymAns.none_ _ w _ ((((((B1.setCell (Nat.le_succ _) _).setCell (Nat.le_succ _) _).setCell (Nat.le_succ _) _).setCell (Nat.le_succ _) _).setCell (Nat.le_succ _) _).setCell (Nat.le_succ _) _)

set_option maxRecDepth 100000 in
set_option maxHeartbeats 2000000 in
theorem ansOpenHash_any (A B C : Option Addr) (h c d e q f : Nat) (l r s : List Int) (k : Int) (D : Option Addr) (m g : Nat) (u : List Int) (w : World) (hT : Tabs w) (hQ : Quar w) (hE : Sent w) (h1 : Bs w A h l) (h2 : Bs w B d r) (h3 : Bs w C q s) (e1 : A = none → c = 0) (e2 : B = none → e = 0) (e3 : C = none → f = 0) (h4 : Bs w D m u) (e4 : D = none → g = 0) (x4 : m ≤ g) :
    Calls Tryz.prog 65 #[.agg #[.slice A h c, .slice B d e, .slice C q f, .int .i64 k], .slice D m g, .func (.func 72) #[] #[]] w (SymAns (olC h d q k m s l u) (codN (olC h d q k m s l u) 32) (codN (olC h d q k m s l u) d) (codN (olC h d q k m s l u) q) (codN (olC h d q k m s l u) (olM q m)) (codL (olC h d q k m s l u) (hashW (l ++ u))) (codL (olC h d q k m s l u) r) (codL (olC h d q k m s l u) s) (codL (olC h d q k m s l u) (olL q m s l k u)) (codK (olC h d q k m s l u) (slK q k)) w) := by
  rcases olC_cases h d q k m s l u with ⟨hz, hc, hq⟩ | ⟨hz, hc, hq⟩ | ⟨hz, hc, hq, hk9, hm9⟩ | ⟨hz, hc, hq, hk9, hm9, ht9⟩ | ⟨hz, hc⟩
  · obtain ⟨hs0, hm⟩ := askedC_zero hz
    have en := fun n => (cod_pos hc n []).1
    have el := fun l => (cod_pos hc 0 l).2
    simp only [en, el, codK, if_pos hc]
    rw [hc]
    obtain ⟨hh, hd, hk⟩ := symC_zero hs0
    have hqk : q = 0 ∨ (q = 32 ∧ 0 ≤ k ∧ k < 1000 ∧ 16 ≤ m ∧ opT s l k u (m - 16)) := by
      rcases hq with h | ⟨h5, h6, h7⟩
      · exact .inl h
      · by_cases h8 : q = 0
        · exact .inl h8
        · exact .inr ⟨by omega, by omega, h5, h6, h7⟩
    clear en el hz hc hq hk
    subst hh hd
    refine answered_ok 72 A B C 32 c 32 e q f l r s k D m g _ _ _ _ _ _ _ _ _ w hs0 hm h1 h2 h3 e1 e2 e3 (fun _ _ => rfl) copyOk ?_
    intro b A B C c e f W hW hS X hX hR ro hwX
    have hbw : w.heap.size ≤ W.heap.size := hW.size
    have kT : ∀ W2 : World, Save b W W2 → Below w.heap.size w W2 := fun W2 sv => hW.trans (sv.below (Nat.le_trans hwX hX) hbw)
    refine (open_both b _ A B C c e q f l s k D m g u W (fun W2 sv => hT.keep (kT W2 sv)) (fun W2 sv => hQ.keep (kT W2 sv)) (fun W2 sv => hE.keep (kT W2 sv)) hS hqk hR.head.bs ro.1.2 hR.rest.rest.head.bs ro.2.2.1 (h4.below hW) x4 e4 hm).mono ?_
    rintro e' w' ⟨A', c', D', g', rfl, S', R', r1, r2, sv⟩
    exact ⟨A', c', B, e, C, f, D', g', rfl, S', four_runs hR hS (noByteS _ _ _ _ _ _ _ _ _ _) sv R' (Nat.le_trans hX (Nat.le_of_lt hS.lt)), r2, sv⟩
  · have hc0 : ¬ olC h d q k m s l u = 0 := by omega
    have en := fun n => (cod_neg hc0 n []).1
    have el := fun l => (cod_neg hc0 0 l).2
    simp only [en, el, codK, if_neg hc0]
    rw [hc]
    obtain ⟨hs0, hm⟩ := askedC_zero hz
    obtain ⟨hh, hd, hk⟩ := symC_zero hs0
    obtain ⟨rfl, rfl⟩ : q = 32 ∧ k = 1000 := by omega
    clear en el hz hc hq hk hc0
    subst hh hd
    refine answered_stop 72 A B C 32 c 32 e 32 f l r s 1000 D m g 7 w hs0 hm h1 h2 h3 e1 e2 e3 (fun _ _ => rfl) copyOk ?_
    intro b A B C c e f W hW hS X hX hR ro hwX
    exact open_full b 0 _ _ A c C f D m g u W hS rfl rfl rfl (h4.below hW) e4 hm
  · have hc0 : ¬ olC h d q k m s l u = 0 := by omega
    have en := fun n => (cod_neg hc0 n []).1
    have el := fun l => (cod_neg hc0 0 l).2
    simp only [en, el, codK, if_neg hc0]
    rw [hc]
    obtain ⟨hs0, hm⟩ := askedC_zero hz
    obtain ⟨hh, hd, hk⟩ := symC_zero hs0
    obtain rfl : q = 32 := by omega
    have hk0 : 0 ≤ k := by omega
    have hu := h4.len
    have hcod : openCode (askCode 32 0 12 (maxN 32 m : Int)) s (nonceL k) l u = 2 := by
      rw [ask_seal m (by omega)]
      unfold openCode
      rw [if_pos rfl, hu, if_pos hm9]
    clear en el hz hc hq hk hc0
    subst hh hd
    refine answered_stop 72 A B C 32 c 32 e 32 f l r s k D m g 2 w hs0 hm h1 h2 h3 e1 e2 e3 (fun _ _ => rfl) copyOk ?_
    intro b A B C c e f W hW hS X hX hR ro hwX
    have hbw : w.heap.size ≤ W.heap.size := hW.size
    have kT : ∀ W2 : World, Save b W W2 → Below w.heap.size w W2 := fun W2 sv => hW.trans (sv.below (Nat.le_trans hwX hX) hbw)
    exact open_bad 2 (by decide) b 0 _ _ A c l C f s k D m g u W (fun W2 sv => hQ.keep (kT W2 sv)) (fun W2 sv => hE.keep (kT W2 sv)) hS (noByteS _ _ _ _ _ _ _ _ _ _) rfl rfl rfl hk0 hk9 hR.head.bs ro.1.2 hR.rest.rest.head.bs ro.2.2.1 (h4.below hW) x4 e4 hm hcod
  · have hc0 : ¬ olC h d q k m s l u = 0 := by omega
    have en := fun n => (cod_neg hc0 n []).1
    have el := fun l => (cod_neg hc0 0 l).2
    simp only [en, el, codK, if_neg hc0]
    rw [hc]
    obtain ⟨hs0, hm⟩ := askedC_zero hz
    obtain ⟨hh, hd, hk⟩ := symC_zero hs0
    obtain rfl : q = 32 := by omega
    have hk0 : 0 ≤ k := by omega
    have hu := h4.len
    have hcod : openCode (askCode 32 0 12 (maxN 32 m : Int)) s (nonceL k) l u = 6 := by
      obtain ⟨n9, rfl⟩ : ∃ n, m = n + 16 := ⟨m - 16, by omega⟩
      rw [Nat.add_sub_cancel] at ht9
      rw [open_codes hu hm, if_neg ht9]
    clear en el hz hc hq hk hc0
    subst hh hd
    refine answered_stop 72 A B C 32 c 32 e 32 f l r s k D m g 6 w hs0 hm h1 h2 h3 e1 e2 e3 (fun _ _ => rfl) copyOk ?_
    intro b A B C c e f W hW hS X hX hR ro hwX
    have hbw : w.heap.size ≤ W.heap.size := hW.size
    have kT : ∀ W2 : World, Save b W W2 → Below w.heap.size w W2 := fun W2 sv => hW.trans (sv.below (Nat.le_trans hwX hX) hbw)
    exact open_bad 6 (by decide) b 0 _ _ A c l C f s k D m g u W (fun W2 sv => hQ.keep (kT W2 sv)) (fun W2 sv => hE.keep (kT W2 sv)) hS (noByteS _ _ _ _ _ _ _ _ _ _) rfl rfl rfl hk0 hk9 hR.head.bs ro.1.2 hR.rest.rest.head.bs ro.2.2.1 (h4.below hW) x4 e4 hm hcod
  · have hc0 : ¬ olC h d q k m s l u = 0 := by rw [hc]; exact hz
    have en := fun n => (cod_neg hc0 n []).1
    have el := fun l => (cod_neg hc0 0 l).2
    simp only [en, el, codK, if_neg hc0]
    rw [hc]
    exact answered_not _ A B C h c d e q f k D m g w hz


set_option maxHeartbeats 2000000 in
theorem implOpenHash_any (A B C : Option Addr) (h c d e q f : Nat) (l r s : List Int) (k : Int) (D : Option Addr) (m g : Nat) (u : List Int) (w : World) (hT : Tabs w) (hQ : Quar w) (hE : Sent w) (h1 : Bs w A h l) (h2 : Bs w B d r) (h3 : Bs w C q s) (e1 : A = none → c = 0) (e2 : B = none → e = 0) (e3 : C = none → f = 0) (h4 : Bs w D m u) (e4 : D = none → g = 0) (x4 : m ≤ g) :
    Calls Tryz.prog 14 #[.agg #[.slice A h c, .slice B d e, .slice C q f, .int .i64 k], .slice D m g] w (SymAns (olC h d q k m s l u) (codN (olC h d q k m s l u) 32) (codN (olC h d q k m s l u) d) (codN (olC h d q k m s l u) q) (codN (olC h d q k m s l u) (olM q m)) (codL (olC h d q k m s l u) (hashW (l ++ u))) (codL (olC h d q k m s l u) r) (codL (olC h d q k m s l u) s) (codL (olC h d q k m s l u) (olL q m s l k u)) (codK (olC h d q k m s l u) (slK q k)) w) := by
  have ca := fun W (hW : Below w.heap.size w W) => ansOpenHash_any A B C h c d e q f l r s k D m g u W (hT.keep hW) (hQ.keep hW) (hE.keep hW) (h1.below hW) (h2.below hW) (h3.below hW) e1 e2 e3 (h4.below hW) e4 x4
  generalize codN (olC h d q k m s l u) 32 = N0 at *
  generalize codN (olC h d q k m s l u) d = N1 at *
  generalize codN (olC h d q k m s l u) q = N2 at *
  generalize codN (olC h d q k m s l u) (olM q m) = N3 at *
  generalize codL (olC h d q k m s l u) (hashW (l ++ u)) = L0 at *
  generalize codL (olC h d q k m s l u) r = L1 at *
  generalize codL (olC h d q k m s l u) s = L2 at *
  generalize codL (olC h d q k m s l u) (olL q m s l k u) = L3 at *
  generalize codK (olC h d q k m s l u) (slK q k) = K at *
  generalize olC h d q k m s l u = Z at *
  clear h1 h2 h3 h4 hT hQ hE e1 e2 e3 e4
  have B0 := ab (ab (Below.refl _ w) (.cells #[.slice A h c, .slice B d e, .slice C q f, .int .i64 k] 25)) (.cells #[.int .i64 0, .slice none 0 0, .slice none 0 0, .slice none 0 0, .int .i64 0, .slice none 0 0] 29)
  have S1 := Stc.new (w.alloc (.cells #[.slice A h c, .slice B d e, .slice C q f, .int .i64 k] 25)) 29 [.int .i64 0, .slice none 0 0, .slice none 0 0, .slice none 0 0, .int .i64 0, .slice none 0 0] _ rfl
  simp only [World.size_alloc] at S1
  go_enter Tryz.func14, Tryz.ntmps14
  go_wp2_with fail
  refine (ca _ B0).mono ?_
  rintro e' w1 ⟨⟨A1, c1, B1, d1, C1, f1, D1, g1, rfl, R, ro⟩, b1⟩
  clear ca
  have BB := ac B0 b1
  replace S1 := S1.below b1 S1.lt
  simp only [World.size_alloc] at R
  have x0 := S1.cell (i := 0) rfl
  have x1 := S1.cell (i := 1) rfl
  have x2 := S1.cell (i := 2) rfl
  have x3 := S1.cell (i := 3) rfl
  have x4 := S1.cell (i := 4) rfl
  have x5 := S1.cell (i := 5) rfl
  have y0 := S1.frozen
  go_wp2
  refine bodyPost_ret (v := .agg #[.int .i64 Z, .slice A1 N0 c1, .slice B1 N1 d1, .slice C1 N2 f1, .int .i64 K, .slice D1 N3 g1]) (by simp [results, Tryz.results14, go_sem, x0, x1, x2, x3, x4, x5]) rfl ?_
  have zz : w.heap.size + 1 < w.heap.size + 1 + 1 := Nat.lt_succ_self _
  exact ⟨⟨A1, c1, B1, d1, C1, f1, D1, g1, rfl, ((((((R.far zz _).far zz _).far zz _).far zz _).far zz _).far zz _).mono (by omega), ro⟩, (((((BB.setCell (Nat.le_succ _) _).setCell (Nat.le_succ _) _).setCell (Nat.le_succ _) _).setCell (Nat.le_succ _) _).setCell (Nat.le_succ _) _).setCell (Nat.le_succ _) _⟩
end Go.Proofs.YtabhcolfkkfonaaGreatDoor
