/- The laws' helpers for an end: made, counted. -/
import Derived.Test.YtgmbofoneeagiaaBytC
import Derived.Test.YtgmbofoneeagiaaSndC
import Derived.Test.YtgmbofoneeagiaaRcvC
namespace Go.Proofs.Ytgmbofoneeagiaa
open Go.RowKit

set_option maxRecDepth 100000 in
set_option maxHeartbeats 4000000 in
theorem toEnd_any (x0 x1 x3 x7 : Int) (A0 : Option Addr) (n0 c0 : Nat) (d0 : List PartD) (A1 : Option Addr) (n1 c1 : Nat) (d1 : List HeldD) (A2 : Option Addr) (n2 c2 : Nat) (d2 : List Int) (A3 : Option Addr) (n3 c3 : Nat) (d3 : List (List Int)) (w : World)
    (h0 : Lst PartD.cels 4 w A0 n0 d0) (h1 : Lst HeldD.cels 3 w A1 n1 d1) (h2 : Bs w A2 n2 d2) (h3 : Lst bytC 1 w A3 n3 d3) (hn0 : n0 ≤ 1048576) (hb0 : ∀ e ∈ d0, e.f0.length ≤ 1048576) (hn1 : n1 ≤ 1048576) (hb1 : ∀ e ∈ d1, e.f1.length ≤ 1048576) (hn2 : n2 ≤ 1048576) (hn3 : n3 ≤ 1048576) (hb3 : ∀ e ∈ d3, e.length ≤ 1048576) :
    Calls Try.prog 74 #[.agg #[.int .i64 x0, .int .i64 x1, .slice A0 n0 c0, .int .i64 x3, .slice A1 n1 c1, .slice A2 n2 c2, .slice A3 n3 c3, .int .i64 x7]] w fun e w' =>
      (∃ g0 g1 g2 g3, e = .returned (.agg #[.int .i64 x0, .int .i64 x1, .slice (some ⟨g0, 0, none⟩) n0 n0, .int .i64 x3, .slice (some ⟨g1, 0, none⟩) n1 n1, .slice (some ⟨g2, 0, none⟩) n2 n2, .slice (some ⟨g3, 0, none⟩) n3 n3, .int .i64 x7]) ∧
        (Thing.sep (tP (some ⟨g0, 0, none⟩) n0 d0) (Thing.sep (Thing.sep (tH (some ⟨g1, 0, none⟩) n1 d1) (tR (some ⟨g2, 0, none⟩) n2 d2)) (tB (some ⟨g3, 0, none⟩) n3 d3))) w' (rng w.heap.size w'.heap.size)) ∧ Below w.heap.size w w' := by
  have hts := fun W L => toSender_any x1 A0 n0 c0 d0 W L hn0 hb0
  have htr := fun W L L2 => toReceiver_any x3 A1 n1 c1 d1 A2 n2 c2 d2 W L L2 hn1 hb1 hn2
  have htb := fun W L => toByteSS_any A3 n3 c3 d3 W L hn3 hb3
  have B0 := ab (ab (ab (Below.refl _ w) (.cells #[.int .i64 x0, .int .i64 x1, .slice A0 n0 c0, .int .i64 x3, .slice A1 n1 c1, .slice A2 n2 c2, .slice A3 n3 c3, .int .i64 x7] 116)) (.cells #[.int .i64 0, .int .i64 0, .slice none 0 0, .int .i64 0, .slice none 0 0, .slice none 0 0, .slice none 0 0, .int .i64 0] 119)) (.cells #[.int .i64 x0, .int .i64 0, .slice none 0 0, .int .i64 0, .slice none 0 0, .slice none 0 0, .slice none 0 0, .int .i64 0] 119)
  have S0 := ((Stc.new w 116 [.int .i64 x0, .int .i64 x1, .slice A0 n0 c0, .int .i64 x3, .slice A1 n1 c1, .slice A2 n2 c2, .slice A3 n3 c3, .int .i64 x7] _ rfl).alloc (.cells #[.int .i64 0, .int .i64 0, .slice none 0 0, .int .i64 0, .slice none 0 0, .slice none 0 0, .slice none 0 0, .int .i64 0] 119)).alloc (.cells #[.int .i64 x0, .int .i64 0, .slice none 0 0, .int .i64 0, .slice none 0 0, .slice none 0 0, .slice none 0 0, .int .i64 0] 119)
  have S1 := (Stc.new (w.alloc (.cells #[.int .i64 x0, .int .i64 x1, .slice A0 n0 c0, .int .i64 x3, .slice A1 n1 c1, .slice A2 n2 c2, .slice A3 n3 c3, .int .i64 x7] 116)) 119 [.int .i64 0, .int .i64 0, .slice none 0 0, .int .i64 0, .slice none 0 0, .slice none 0 0, .slice none 0 0, .int .i64 0] _ rfl).alloc (.cells #[.int .i64 x0, .int .i64 0, .slice none 0 0, .int .i64 0, .slice none 0 0, .slice none 0 0, .slice none 0 0, .int .i64 0] 119)
  have S2 := Stc.new ((w.alloc (.cells #[.int .i64 x0, .int .i64 x1, .slice A0 n0 c0, .int .i64 x3, .slice A1 n1 c1, .slice A2 n2 c2, .slice A3 n3 c3, .int .i64 x7] 116)).alloc (.cells #[.int .i64 0, .int .i64 0, .slice none 0 0, .int .i64 0, .slice none 0 0, .slice none 0 0, .slice none 0 0, .int .i64 0] 119)) 119 [.int .i64 x0, .int .i64 0, .slice none 0 0, .int .i64 0, .slice none 0 0, .slice none 0 0, .slice none 0 0, .int .i64 0] _ rfl
  simp only [World.size_alloc] at S1 S2
  have H0 := h0.below B0
  go_enter Try.func74, Try.ntmps74
  go_wp2_with fail
  refine (hts _ H0).mono ?_
  rintro e w1 ⟨⟨g0, rfl, R0⟩, b1⟩
  have z1 := b1.size
  simp only [World.size_alloc] at z1 R0
  have B1 := ac B0 b1
  replace S0 := S0.below b1 S0.lt
  replace S1 := S1.below b1 S1.lt
  replace S2 := S2.below b1 S2.lt
  have v3 := S0.cell (i := 3) rfl
  have v4 := S0.cell (i := 4) rfl
  have v5 := S0.cell (i := 5) rfl
  have u1 := S2.cell (i := 1) rfl
  have u2 := S2.cell (i := 2) rfl
  have uf := S2.frozen
  clear B0 b1
  go_wp2_with fail
  clear v3 v4 v5 u1 u2 uf
  generalize hW : (w1.setCell ⟨w.heap.size + 1 + 1, 1, none⟩ (.int .i64 x1)).setCell ⟨w.heap.size + 1 + 1, 2, none⟩ (.slice (some ⟨g0, 0, none⟩) n0 n0) = W1
  have T1 : Tu (fun b => b = w.heap.size + 1 + 1) w1 W1 := by rw [← hW]; exact ((Tu.refl (fun b => b = w.heap.size + 1 + 1) w1).set_ (p := ⟨w.heap.size + 1 + 1, 1, none⟩) rfl _).set_ (p := ⟨w.heap.size + 1 + 1, 2, none⟩) rfl _
  have y1 := T1.size
  have B2 : Below w.heap.size w W1 := B1.trans (T1.below (by omega) (fun b e => by omega))
  replace S0 := S0.tu T1 (by omega)
  replace S1 := S1.tu T1 (by omega)
  replace S2 : Stc W1 (w.heap.size + 1 + 1) [.int .i64 x0, .int .i64 x1, .slice (some ⟨g0, 0, none⟩) n0 n0, .int .i64 0, .slice none 0 0, .slice none 0 0, .slice none 0 0, .int .i64 0] 119 := by rw [← hW]; exact (S2.set_ (i := 1) _).set_ (i := 2) _
  replace R0 := (okP _ _ _).tu R0 T1 (fun b hF e => by have := hF.1; omega)
  have zW : w1.heap.size = W1.heap.size := by rw [← hW]; simp
  rw [zW] at R0
  clear hW T1 B1
  refine (htr _ (h1.below B2) (h2.below B2)).mono ?_
  rintro e w2 ⟨⟨g1, g2, rfl, R1⟩, b2⟩
  have z2 := b2.size
  have B3 := ac B2 b2
  replace S0 := S0.below b2 S0.lt
  replace S1 := S1.below b2 S1.lt
  replace S2 := S2.below b2 S2.lt
  replace R0 := (okP _ _ _).below R0 b2
  have v6 := S0.cell (i := 6) rfl
  have u3 := S2.cell (i := 3) rfl
  have u4 := S2.cell (i := 4) rfl
  have u5 := S2.cell (i := 5) rfl
  have uf := S2.frozen
  go_wp2_with fail
  clear v6 u3 u4 u5 uf
  generalize hW : ((w2.setCell ⟨w.heap.size + 1 + 1, 3, none⟩ (.int .i64 x3)).setCell ⟨w.heap.size + 1 + 1, 4, none⟩ (.slice (some ⟨g1, 0, none⟩) n1 n1)).setCell ⟨w.heap.size + 1 + 1, 5, none⟩ (.slice (some ⟨g2, 0, none⟩) n2 n2) = W2
  have T2 : Tu (fun b => b = w.heap.size + 1 + 1) w2 W2 := by rw [← hW]; exact (((Tu.refl (fun b => b = w.heap.size + 1 + 1) w2).set_ (p := ⟨w.heap.size + 1 + 1, 3, none⟩) rfl _).set_ (p := ⟨w.heap.size + 1 + 1, 4, none⟩) rfl _).set_ (p := ⟨w.heap.size + 1 + 1, 5, none⟩) rfl _
  have y2 := T2.size
  have B4 : Below w.heap.size w W2 := B3.trans (T2.below (by omega) (fun b e => by omega))
  replace S0 := S0.tu T2 (by omega)
  replace S1 := S1.tu T2 (by omega)
  replace S2 : Stc W2 (w.heap.size + 1 + 1) [.int .i64 x0, .int .i64 x1, .slice (some ⟨g0, 0, none⟩) n0 n0, .int .i64 x3, .slice (some ⟨g1, 0, none⟩) n1 n1, .slice (some ⟨g2, 0, none⟩) n2 n2, .slice none 0 0, .int .i64 0] 119 := by rw [← hW]; exact ((S2.set_ (i := 3) _).set_ (i := 4) _).set_ (i := 5) _
  replace R0 := (okP _ _ _).tu R0 T2 (fun b hF e => by have := hF.1; omega)
  replace R1 := ((okH _ _ _).sep (okR _ _ _)).tu R1 T2 (fun b hF e => by have := hF.1; omega)
  have zW2 : w2.heap.size = W2.heap.size := by rw [← hW]; simp
  rw [zW2] at R1
  clear hW T2 B3
  refine (htb _ (h3.below B4)).mono ?_
  rintro e w3 ⟨⟨rfl, R2⟩, b3⟩
  have z3 := b3.size
  have B5 := ac B4 b3
  replace S0 := S0.below b3 S0.lt
  replace S1 := S1.below b3 S1.lt
  replace S2 := S2.below b3 S2.lt
  replace R0 := (okP _ _ _).below R0 b3
  replace R1 := ((okH _ _ _).sep (okR _ _ _)).below R1 b3
  have R2' : tB (some ⟨W2.heap.size, 0, none⟩) n3 d3 w3 (rng W2.heap.size w3.heap.size) := R2
  have v7 := S0.cell (i := 7) rfl
  have u0 := S2.cell (i := 0) rfl
  have u1 := S2.cell (i := 1) rfl
  have u2 := S2.cell (i := 2) rfl
  have u3 := S2.cell (i := 3) rfl
  have u4 := S2.cell (i := 4) rfl
  have u5 := S2.cell (i := 5) rfl
  have u6 := S2.cell (i := 6) rfl
  have u7 := S2.cell (i := 7) rfl
  have uf := S2.frozen
  have t0 := S1.cell (i := 0) rfl
  have t1 := S1.cell (i := 1) rfl
  have t2 := S1.cell (i := 2) rfl
  have t3 := S1.cell (i := 3) rfl
  have t4 := S1.cell (i := 4) rfl
  have t5 := S1.cell (i := 5) rfl
  have t6 := S1.cell (i := 6) rfl
  have t7 := S1.cell (i := 7) rfl
  have tf := S1.frozen
  go_wp2
  refine bodyPost_ret (v := .agg #[.int .i64 x0, .int .i64 x1, .slice (some ⟨g0, 0, none⟩) n0 n0, .int .i64 x3, .slice (some ⟨g1, 0, none⟩) n1 n1, .slice (some ⟨g2, 0, none⟩) n2 n2, .slice (some ⟨W2.heap.size, 0, none⟩) n3 n3, .int .i64 x7]) (by simp [results, Try.results74, go_sem, t0, t1, t2, t3, t4, t5, t6, t7]) rfl ?_
  have TF : Tu (fun b => b = w.heap.size + 1 + 1 ∨ b = w.heap.size + 1) w3 _ := ((((((((((Tu.refl (fun b => b = w.heap.size + 1 + 1 ∨ b = w.heap.size + 1) w3).set_ (p := ⟨w.heap.size + 1 + 1, 6, none⟩) (.inl rfl) (.slice (some ⟨W2.heap.size, 0, none⟩) n3 n3)).set_ (p := ⟨w.heap.size + 1 + 1, 7, none⟩) (.inl rfl) (.int .i64 x7)).set_ (p := ⟨w.heap.size + 1, 0, none⟩) (.inr rfl) (.int .i64 x0)).set_ (p := ⟨w.heap.size + 1, 1, none⟩) (.inr rfl) (.int .i64 x1)).set_ (p := ⟨w.heap.size + 1, 2, none⟩) (.inr rfl) (.slice (some ⟨g0, 0, none⟩) n0 n0)).set_ (p := ⟨w.heap.size + 1, 3, none⟩) (.inr rfl) (.int .i64 x3)).set_ (p := ⟨w.heap.size + 1, 4, none⟩) (.inr rfl) (.slice (some ⟨g1, 0, none⟩) n1 n1)).set_ (p := ⟨w.heap.size + 1, 5, none⟩) (.inr rfl) (.slice (some ⟨g2, 0, none⟩) n2 n2)).set_ (p := ⟨w.heap.size + 1, 6, none⟩) (.inr rfl) (.slice (some ⟨W2.heap.size, 0, none⟩) n3 n3)).set_ (p := ⟨w.heap.size + 1, 7, none⟩) (.inr rfl) (.int .i64 x7)
  have RR := Thing.sep.mk R0 (Thing.sep.mk R1 R2' (by omega) (by omega)) (by omega) (by omega)
  have OK := (okP (some ⟨g0, 0, none⟩) n0 d0).sep (((okH (some ⟨g1, 0, none⟩) n1 d1).sep (okR (some ⟨g2, 0, none⟩) n2 d2)).sep (okB (some ⟨W2.heap.size, 0, none⟩) n3 d3))
  refine ⟨⟨g0, g1, g2, W2.heap.size, rfl, ?_⟩, B5.trans (TF.below (by omega) (fun b e => by omega))⟩
  simp only [World.size_setCell]
  exact OK.widen (OK.tu RR TF (fun b hF hG => by unfold rng at hF; omega)) (by omega) (Nat.le_refl _)

def totEnd (n0 : Nat) (d0 : List PartD) (n1 : Nat) (d1 : List HeldD) (n2 n3 : Nat) (d3 : List (List Int)) : Nat := n0 + sumE PartD.len d0 + n1 + sumE HeldD.len d1 + n2 + n3 + sumE List.length d3
set_option maxRecDepth 100000 in
set_option linter.unusedVariables false in
set_option maxHeartbeats 2000000 in
theorem szEnd_any (x0 x1 x3 x7 : Int) (A0 : Option Addr) (n0 c0 : Nat) (d0 : List PartD) (A1 : Option Addr) (n1 c1 : Nat) (d1 : List HeldD) (A2 : Option Addr) (n2 c2 : Nat) (d2 : List Int) (A3 : Option Addr) (n3 c3 : Nat) (d3 : List (List Int)) (x : Int) (w : World)
    (h0 : Lst PartD.cels 4 w A0 n0 d0) (h1 : Lst HeldD.cels 3 w A1 n1 d1) (h2 : Bs w A2 n2 d2) (h3 : Lst bytC 1 w A3 n3 d3) (hx0 : 0 ≤ x) (hx1 : x ≤ 1048576) (hn0 : n0 ≤ 9223372036854775807) (hb0 : ∀ e ∈ d0, e.f0.length ≤ 9223372036854775807) (hn1 : n1 ≤ 9223372036854775807) (hb1 : ∀ e ∈ d1, e.f1.length ≤ 9223372036854775807) (hn2 : n2 ≤ 9223372036854775807) (hn3 : n3 ≤ 9223372036854775807) (hb3 : ∀ e ∈ d3, e.length ≤ 9223372036854775807) :
    Calls Try.prog 72 #[.agg #[.int .i64 x0, .int .i64 x1, .slice A0 n0 c0, .int .i64 x3, .slice A1 n1 c1, .slice A2 n2 c2, .slice A3 n3 c3, .int .i64 x7], .int .i64 x] w fun e w' => e = .returned (.int .i64 (leftC x (totEnd n0 d0 n1 d1 n2 n3 d3))) ∧ Below w.heap.size w w' := by
  have S0 := Stc.new w 116 [.int .i64 x0, .int .i64 x1, .slice A0 n0 c0, .int .i64 x3, .slice A1 n1 c1, .slice A2 n2 c2, .slice A3 n3 c3, .int .i64 x7] _ rfl
  have B0 := ab (Below.refl _ w) (.cells #[.int .i64 x0, .int .i64 x1, .slice A0 n0 c0, .int .i64 x3, .slice A1 n1 c1, .slice A2 n2 c2, .slice A3 n3 c3, .int .i64 x7] 116)
  obtain ⟨a, ha⟩ : ∃ a, a = totSender n0 d0 := ⟨_, rfl⟩
  obtain ⟨b, hb⟩ : ∃ b, b = totReceiver n1 d1 n2 := ⟨_, rfl⟩
  obtain ⟨c, hc⟩ : ∃ c, c = n3 + sumE List.length d3 := ⟨_, rfl⟩
  have HT : Shut (totEnd n0 d0 n1 d1 n2 n3 d3 = a + b + c) := ⟨by rw [ha, hb, hc]; unfold totEnd totSender totReceiver; omega⟩
  generalize totEnd n0 d0 n1 d1 n2 n3 d3 = TT at HT ⊢
  have m0 := fun W (hh : Below w.heap.size w W) => szSender_any x1 A0 n0 c0 d0 x W (h0.below hh) hx0 hx1 hn0 hb0
  rw [← ha] at m0
  clear ha
  by_cases f0 : x - (a : Int) < 0
  · have e0 : leftC x a = -1 := by unfold leftC; rw [if_pos f0]
    rw [e0] at m0
    have E : Shut (leftC x TT = -1) := ⟨by have h9 := HT.out; unfold leftC; rw [if_pos (by omega)]⟩
    clear f0 e0
    go_enter Try.func72, Try.ntmps72
    go_wp2_with fail
    refine (m0 _ B0).mono ?_
    rintro e w1 ⟨rfl, b1⟩
    go_wp2
    go_ret
    exact ⟨by rw [E.out]; rfl, ac B0 b1⟩
  have e0 : leftC x a = x - (a : Int) := by unfold leftC; rw [if_neg f0]
  rw [e0] at m0
  obtain ⟨y, hy⟩ : ∃ y, y = x - (a : Int) := ⟨_, rfl⟩
  rw [← hy] at m0
  have g0 : 0 ≤ y ∧ y ≤ 1048576 := by omega
  have m1 := fun W (hh : Below w.heap.size w W) => szReceiver_any x3 A1 n1 c1 d1 A2 n2 c2 d2 y W (h1.below hh) (h2.below hh) g0.1 g0.2 hn1 hb1 hn2
  rw [← hb] at m1
  clear hb e0
  by_cases f1 : y - (b : Int) < 0
  · have e1 : leftC y b = -1 := by unfold leftC; rw [if_pos f1]
    rw [e1] at m1
    have E : Shut (leftC x TT = -1) := ⟨by have h9 := HT.out; unfold leftC; rw [if_pos (by omega)]⟩
    clear f0 f1 e1 hy
    go_enter Try.func72, Try.ntmps72
    go_wp2_with fail
    refine (m0 _ B0).mono ?_
    rintro e w1 ⟨rfl, b1⟩
    have B1 := ac B0 b1
    replace S0 := S0.below b1 S0.lt
    have v3 := S0.cell (i := 3) rfl
    have v4 := S0.cell (i := 4) rfl
    have v5 := S0.cell (i := 5) rfl
    go_wp2_with fail
    refine (m1 _ B1).mono ?_
    rintro e w2 ⟨rfl, b2⟩
    go_wp2
    go_ret
    exact ⟨by rw [E.out]; rfl, ac B1 b2⟩
  have e1 : leftC y b = y - (b : Int) := by unfold leftC; rw [if_neg f1]
  rw [e1] at m1
  obtain ⟨z, hz⟩ : ∃ z, z = y - (b : Int) := ⟨_, rfl⟩
  rw [← hz] at m1
  have g1 : 0 ≤ z ∧ z ≤ 1048576 := by omega
  have m2 := fun W (hh : Below w.heap.size w W) => szByteSS_any A3 n3 c3 d3 z W (h3.below hh) g1.1 g1.2 hn3 hb3
  unfold leftE at m2
  rw [← hc] at m2
  have q0 : ¬ y < 0 := by omega
  have q1 : ¬ z < 0 := by omega
  clear hc e1
  by_cases f2 : z - (c : Int) < 0
  · have e2 : leftC z c = -1 := by unfold leftC; rw [if_pos f2]
    rw [e2] at m2
    have E : Shut (leftC x TT = -1) := ⟨by have h9 := HT.out; unfold leftC; rw [if_pos (by omega)]⟩
    clear f0 f1 f2 e2 hy hz
    go_enter Try.func72, Try.ntmps72
    go_wp2_with fail
    refine (m0 _ B0).mono ?_
    rintro e w1 ⟨rfl, b1⟩
    have B1 := ac B0 b1
    replace S0 := S0.below b1 S0.lt
    have v3 := S0.cell (i := 3) rfl
    have v4 := S0.cell (i := 4) rfl
    have v5 := S0.cell (i := 5) rfl
    go_wp2_with fail
    refine (m1 _ B1).mono ?_
    rintro e w2 ⟨rfl, b2⟩
    have B2 := ac B1 b2
    replace S0 := S0.below b2 S0.lt
    have v6 := S0.cell (i := 6) rfl
    go_wp2_with fail
    refine (m2 _ B2).mono ?_
    rintro e w3 ⟨rfl, b3⟩
    go_wp2
    go_ret
    exact ⟨by rw [E.out]; rfl, ac B2 b3⟩
  have e2 : leftC z c = z - (c : Int) := by unfold leftC; rw [if_neg f2]
  rw [e2] at m2
  obtain ⟨u, hu⟩ : ∃ u, u = z - (c : Int) := ⟨_, rfl⟩
  rw [← hu] at m2
  have q2 : ¬ u < 0 := by omega
  have E : Shut (leftC x TT = u) := ⟨by have h9 := HT.out; unfold leftC; rw [if_neg (by omega), h9]; omega⟩
  clear f0 f1 f2 e2 hy hz hu
  go_enter Try.func72, Try.ntmps72
  go_wp2_with fail
  refine (m0 _ B0).mono ?_
  rintro e w1 ⟨rfl, b1⟩
  have B1 := ac B0 b1
  replace S0 := S0.below b1 S0.lt
  have v3 := S0.cell (i := 3) rfl
  have v4 := S0.cell (i := 4) rfl
  have v5 := S0.cell (i := 5) rfl
  go_wp2_with fail
  refine (m1 _ B1).mono ?_
  rintro e w2 ⟨rfl, b2⟩
  have B2 := ac B1 b2
  replace S0 := S0.below b2 S0.lt
  have v6 := S0.cell (i := 6) rfl
  go_wp2_with fail
  refine (m2 _ B2).mono ?_
  rintro e w3 ⟨rfl, b3⟩
  go_wp2
  go_ret
  exact ⟨by rw [E.out]; rfl, ac B2 b3⟩
end Go.Proofs.Ytgmbofoneeagiaa
