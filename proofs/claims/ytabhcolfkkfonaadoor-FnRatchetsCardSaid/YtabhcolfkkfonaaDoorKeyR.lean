/- KeyAt, of the program and of the model. -/
import Derived.Test.YtabhcolfkkfonaaDoorKeyQ
namespace Go.Proofs.YtabhcolfkkfonaaDoor
open Go.RowKit Go.Maps

theorem implKeyAt_len (A : Option Addr) (n c : Nat) (s : Int) (w : World) (hn : ¬ n = 32) :
    Calls Tryd.prog 8 #[.slice A n c, .int .i64 s] w (KeyRs 3 0 0 [] [] w) := by
  have hb : ((n : Int) != 32) = true := by rw [bne_iff_ne]; omega
  go_enter Tryd.func8, Tryd.ntmps8
  go_wp2
  go_returns
  exact ⟨⟨none, 0, none, 0, rfl, Rs.two (Ow.nil_ _ _) (Ow.nil_ _ _) (fun h0 => absurd h0 (by omega))⟩, by go_grown⟩

theorem implKeyAt_slot (A : Option Addr) (c : Nat) (s : Int) (w : World) (hs : inB s 0 400 = false) :
    Calls Tryd.prog 8 #[.slice A 32 c, .int .i64 s] w (KeyRs 3 0 0 [] [] w) := by
  have ce := implEpochOf_any s
  simp only [epC, epV, hs, Bool.false_eq_true, if_false] at ce
  have B0 := ab (Below.refl _ w) (.cells #[.int .i64 0, .slice none 0 0, .slice none 0 0] 27)
  have S0 := Stc.new w 27 [.int .i64 0, .slice none 0 0, .slice none 0 0] _ rfl
  clear hs
  go_enter Tryd.func8, Tryd.ntmps8
  go_wp2_with fail
  refine (ce _).mono ?_
  rintro e w1 ⟨rfl, b1⟩
  have B1 := ac B0 b1
  replace S0 := (S0.below b1 S0.lt).alloc (.cells #[.int .i64 3, .int .i64 0] 34)
  have S1 := Stc.new w1 34 [.int .i64 3, .int .i64 0] _ rfl
  have x0 := S0.cell (i := 0) rfl
  have x1 := S0.cell (i := 1) rfl
  have x2 := S0.cell (i := 2) rfl
  have xf := S0.frozen
  have y0 := S1.cell (i := 0) rfl
  have hne : ¬ w1.heap.size = w.heap.size := by have := b1.size; simp at this; omega
  clear ce b1 B0
  go_wp2
  refine bodyPost_ret (v := .agg #[.int .i64 3, .slice none 0 0, .slice none 0 0]) (by simp [results, Tryd.results8, go_sem, x0, x1, x2]) rfl ?_
  exact ⟨⟨none, 0, none, 0, rfl, Rs.two (Ow.nil_ _ _) (Ow.nil_ _ _) (fun h0 => absurd h0 (by omega))⟩, (((ab B1 _).setCell (p := ⟨w.heap.size, 0, none⟩) (Nat.le_refl _) _).setCell (p := ⟨w.heap.size, 1, none⟩) (Nat.le_refl _) _).setCell (p := ⟨w.heap.size, 2, none⟩) (Nat.le_refl _) _⟩

set_option maxHeartbeats 2000000 in
theorem implKeyAt_yes (A : Option Addr) (c : Nat) (root : List Int) (s : Int) (w : World) (hT : Tabs w) (h : Bs w A 32 root) (hs : inB s 0 400 = true) :
    Calls Tryd.prog 8 #[.slice A 32 c, .int .i64 s] w (KeyRs 0 32 32 (chK root (kaK s)).1 (chK root (kaK s)).2 w) := by
  have h4 : 0 ≤ s ∧ s ≤ 400 := by simpa [inB] using hs
  have ce := implEpochOf_any s
  simp only [epC, epV, hs, if_true] at ce
  have HK : Shut (kaK s = (s / 16).toNat + 1) := ⟨rfl⟩
  obtain ⟨m, hm⟩ : ∃ m : Nat, s / 16 = (m : Int) := ⟨(s / 16).toNat, by omega⟩
  have hm2 : m ≤ 25 := by omega
  have HK : Shut (kaK s = m + 1) := ⟨by unfold kaK; rw [hm]; rfl⟩
  rw [hm] at ce
  have B0 := ab (Below.refl _ w) (.cells #[.int .i64 0, .slice none 0 0, .slice none 0 0] 27)
  have S0 := Stc.new w 27 [.int .i64 0, .slice none 0 0, .slice none 0 0] _ rfl
  have wr : IntKind.i64.wrap ((m : Int) + 1) = (m : Int) + 1 := IntWalk.i64_in _ (by omega)
  have hmm := @run_makeMap Tryd.prog
  have K0 := key64 0 (by omega) (by omega)
  rw [HK.out]
  clear hs h4 hm
  go_enter Tryd.func8, Tryd.ntmps8
  go_wp2_with fail
  refine (ce _).mono ?_
  rintro e w1 ⟨rfl, b1⟩
  have B1 := ac B0 b1
  have z1 := b1.size
  simp only [World.size_alloc] at z1
  replace S0 := (S0.below b1 S0.lt).alloc (.cells #[.int .i64 0, .int .i64 (m : Int)] 34)
  have S1 := Stc.new w1 34 [.int .i64 0, .int .i64 (m : Int)] _ rfl
  replace B1 := ab B1 (.cells #[.int .i64 0, .int .i64 (m : Int)] 34)
  have y0 := S1.cell (i := 0) rfl
  have y1 := S1.cell (i := 1) rfl
  clear ce b1 B0
  have M0 := World.ownsMap_made (H := Value) (w1.alloc (.cells #[.int .i64 0, .int .i64 (m : Int)] 34)) Tryd.prog 2 told
  simp only [World.size_alloc] at M0
  obtain ⟨b, hb⟩ : ∃ b, b = w1.heap.size + 1 := ⟨_, rfl⟩
  go_wp2_with (first
    | (refine wpList_insert_own _ rfl _ _ _ 45 rfl 2 22 law64 Tryd.underlying45 told (w1.heap.size + 1) 0 _ rfl M0 (by unfold maxLen; omega) _ (.slice A 32 c) _ rfl rfl K0 (.held (.slice A 32 c)) [] rfl ?_; intro w2 m2 g2; rw [put_nil] at m2; have v2 := Save.grown g2; have T0 := (S0.alloc (.map #[] 0)).save v2 (by omega); have T1 := (((S1.alloc (.map #[] 0)).save v2 (by omega)).alloc (.cells #[.int .i64 0, .slice none 0 0, .slice none 0 0] 27)).cell (i := 1) rfl)
    | fail)
  have B2 : Below w.heap.size w w2 := (ab B1 (.map #[] 0)).trans (v2.below (by omega) (by simp; omega))
  have z2 := v2.size
  simp only [World.size_alloc] at z2
  have O2 : OneKey w2 b 0 (.slice A 32 c) := ⟨1, Nat.le_refl _, by rw [hb]; exact ownsMap_tight m2⟩
  have S2 := Stc.new w2 27 [.int .i64 0, .slice none 0 0, .slice none 0 0] _ rfl
  rw [← hb]
  have O3 := O2.below (ab (Below.refl _ w2) (.cells #[.int .i64 0, .slice none 0 0, .slice none 0 0] 27)) O2.lt
  have T3 := T0.alloc (.cells #[.int .i64 0, .slice none 0 0, .slice none 0 0] 27)
  have B3 := ab B2 (.cells #[.int .i64 0, .slice none 0 0, .slice none 0 0] 27)
  have hbT : b < w2.heap.size := O2.lt
  have hbw : w.heap.size < b := by omega
  obtain ⟨T, hTT⟩ : ∃ T, T = w2.heap.size := ⟨_, rfl⟩
  rw [← hTT] at S2 hbT
  rw [← hTT]
  have hT3 : w2.heap.size < (w2.alloc (.cells #[.int .i64 0, .slice none 0 0, .slice none 0 0] 27)).heap.size := by simp
  generalize w2.alloc (.cells #[.int .i64 0, .slice none 0 0, .slice none 0 0] 27) = w3 at *
  have hTw : w.heap.size < T := by omega
  clear M0 hmm m2 g2 v2 T0 S0 S1 B1 B2 O2 y0 y1 K0 hb hTT hT3
  go_loopw [8, 27] (fun _ i wr => ∃ (k : Nat) (A' : Option Addr) (c' : Nat) (U V : Value), k ≤ m + 1 ∧ i = .int .i64 (k : Int) ∧ OneKey wr b (k : Int) (.slice A' 32 c') ∧ Bs wr A' 32 (chK root k).1 ∧ Stc wr T [.int .i64 0, U, V] 27 ∧ Stc wr w.heap.size [.int .i64 0, .slice none 0 0, .slice none 0 0] 27 ∧ Below w.heap.size w wr ∧ (1 ≤ k → ∃ K' d', U = .slice A' 32 c' ∧ V = .slice K' 32 d' ∧ Rs wr (w.heap.size + 1) [(A', 32, (chK root k).1), (K', 32, (chK root k).2)])) (fun _ i _ => m + 1 - (intOf i).toNat)
  case atStart => exact ⟨0, A, c, _, _, by omega, rfl, O3, h.below B3, S2, T3, B3, fun h0 => absurd h0 (by omega)⟩
  case round =>
    obtain ⟨k, A', c', U, V, hk, rfl, hO, hB, hS, hR, bel, hfin⟩ := hrel
    by_cases hlt : k < m + 1
    · have hpass := Shut.mk (pass_any b (k : Int) A' c' _ wr (hT.keep bel) hO hB (by omega) (by omega))
      have hC := chK_succ root k
      rw [← hC.1, ← hC.2] at hpass
      clear hC hfin
      go_wp2_with fail
      refine hpass.out.mono ?_
      rintro e w4 ⟨A4, c4, K4, d4, rfl, R4, O4, sv4⟩
      have S4 := hS.save sv4 (by omega)
      have x0 := S4.cell (i := 0) rfl
      have x1 := S4.cell (i := 1) rfl
      have x2 := S4.cell (i := 2) rfl
      have xf := S4.frozen
      have zr := hS.lt
      have z4 := sv4.size
      have B4 := bel.trans (sv4.below (by omega) bel.size)
      have Q4 := hR.save sv4 (by omega)
      clear hpass hO hB hS hR sv4
      go_wp2
      have Bc : Below T w4 (((w4.setCell ⟨T, 0, none⟩ (.int .i64 0)).setCell ⟨T, 1, none⟩ (.slice A4 32 c4)).setCell ⟨T, 2, none⟩ (.slice K4 32 d4)) := (((Below.refl T w4).setCell (p := ⟨T, 0, none⟩) (Nat.le_refl _) _).setCell (p := ⟨T, 1, none⟩) (Nat.le_refl _) _).setCell (p := ⟨T, 2, none⟩) (Nat.le_refl _) _
      have R5 := ((R4.far (p := ⟨T, 0, none⟩) zr (.int .i64 0)).far (p := ⟨T, 1, none⟩) zr (.slice A4 32 c4)).far (p := ⟨T, 2, none⟩) zr (.slice K4 32 d4)
      exact ⟨⟨k + 1, A4, c4, .slice A4 32 c4, .slice K4 32 d4, by omega, by go_num, by simpa using O4.below Bc hbT, R5.head.bs, ((S4.set_ (i := 0) (.int .i64 0)).set_ (i := 1) (.slice A4 32 c4)).set_ (i := 2) (.slice K4 32 d4), Q4.below Bc (by omega), B4.trans (Bc.mono (by omega)), fun _ => ⟨K4, d4, rfl, rfl, R5.mono (by have := bel.size; omega)⟩⟩, by simp [intOf]; omega⟩
    · obtain rfl : k = m + 1 := by omega
      obtain ⟨K', d', rfl, rfl, R⟩ := hfin (by omega)
      have x0 := hS.cell (i := 0) rfl
      have x1 := hS.cell (i := 1) rfl
      have x2 := hS.cell (i := 2) rfl
      have y0 := hR.cell (i := 0) rfl
      have y1 := hR.cell (i := 1) rfl
      have y2 := hR.cell (i := 2) rfl
      have yf := hR.frozen
      have hne : ¬ T = w.heap.size := by omega
      have zz : w.heap.size < w.heap.size + 1 := by omega
      clear hO hB
      generalize (chK root (m + 1)).1 = F at *
      generalize (chK root (m + 1)).2 = G at *
      go_wp2
      refine bodyPost_ret (v := .agg #[.int .i64 0, .slice A' 32 c', .slice K' 32 d']) (by simp [results, Tryd.results8, go_sem, y0, y1, y2]) rfl ?_
      exact ⟨⟨A', c', K', d', rfl, (((R.far (p := ⟨w.heap.size, 0, none⟩) zz _).far (p := ⟨w.heap.size, 1, none⟩) zz _).far (p := ⟨w.heap.size, 2, none⟩) zz _).mono (by omega)⟩, ((bel.setCell (p := ⟨w.heap.size, 0, none⟩) (Nat.le_refl _) _).setCell (p := ⟨w.heap.size, 1, none⟩) (Nat.le_refl _) _).setCell (p := ⟨w.heap.size, 2, none⟩) (Nat.le_refl _) _⟩

set_option maxHeartbeats 1000000 in
theorem l7Key_any (A : Option Addr) (c : Nat) (root : List Int) (s : Int) (w : World) (h : Bs w A 32 root) (h0 : 0 ≤ s) (h1 : s ≤ 400) :
    Calls Tryd.prog 29 #[.slice A 32 c, .int .i64 s] w fun e w' => (∃ A1 c1 A2 c2, e = .returned (.tuple #[.slice A1 32 c1, .slice A2 32 c2]) ∧ Rs w' w.heap.size [(A1, 32, (chK root (kaK s)).1), (A2, 32, (chK root (kaK s)).2)]) ∧ Below w.heap.size w w' := by
  obtain ⟨m, hm⟩ : ∃ m : Nat, s / 16 = (m : Int) := ⟨(s / 16).toNat, by omega⟩
  have hm2 : m ≤ 25 := by omega
  have HK : Shut (kaK s = m + 1) := ⟨by unfold kaK; rw [hm]; rfl⟩
  have wr : IntKind.i64.wrap (s.tdiv 16) = (m : Int) := by rw [IntWalk.i64_quo s 16 (by omega)]; exact hm
  rw [HK.out]
  have C1 := Shut.mk (l2Keys_any A none 32 c 0 0 root [] w h (Bs.none_ _) (fun _ => rfl) (by omega))
  have hC := chK_succ root 0
  rw [show (chK root 0).1 = root from rfl] at hC
  rw [← hC.1, ← hC.2] at C1
  clear h hm hC h0 h1
  go_enter Tryd.func29, Tryd.ntmps29
  go_wp2_with fail
  refine C1.out.mono ?_
  rintro e w1 ⟨⟨A1, c1, A2, c2, rfl, o1, o2, ha⟩, b1⟩
  have R1 := Rs.two o1 o2 ha
  clear C1 o1 o2 ha
  go_wp2
  go_loopw [6, 7, 8] (fun x y i wr => ∃ (k : Nat) (A1 : Option Addr) (c1 : Nat) (A2 : Option Addr) (c2 : Nat), k ≤ m ∧ i = .int .i64 ((m : Int) - (k : Int)) ∧ x = .slice A1 32 c1 ∧ y = .slice A2 32 c2 ∧ Rs wr w.heap.size [(A1, 32, (chK root (k + 1)).1), (A2, 32, (chK root (k + 1)).2)] ∧ Below w.heap.size w wr) (fun _ _ i _ => (intOf i).toNat)
  case atStart => exact ⟨0, A1, c1, A2, c2, by omega, by simp, rfl, rfl, R1, b1⟩
  case round =>
    obtain ⟨k, A3, c3, A4, c4, hk, rfl, rfl, rfl, R, bel⟩ := hrel
    by_cases hlt : k < m
    · have hb : (0 : Int) < (m : Int) - (k : Int) := by omega
      have C1 := Shut.mk (l2Keys_any A3 none 32 c3 0 0 _ [] wr R.head.bs (Bs.none_ _) (fun _ => rfl) (by omega))
      have hC := chK_succ root (k + 1)
      rw [← hC.1, ← hC.2] at C1
      clear hC
      go_wp2_with fail
      refine C1.out.mono ?_
      rintro e w4 ⟨⟨A5, c5, A6, c6, rfl, o1, o2, ha⟩, b4⟩
      have R4 := (Rs.two o1 o2 ha).mono bel.size
      go_wp2
      exact ⟨⟨k + 1, A5, c5, A6, c6, by omega, by go_num, rfl, rfl, R4, ac bel b4⟩, by simp [intOf]; omega⟩
    · obtain rfl : k = m := by omega
      have hb : ¬ (0 : Int) < (k : Int) - (k : Int) := by omega
      go_wp2
      go_ret2
      exact ⟨⟨A3, c3, A4, ⟨c4, rfl⟩, R⟩, bel⟩

theorem specKeyAt_len (A : Option Addr) (n c : Nat) (s : Int) (w : World) (hn : ¬ n = 32) :
    Calls Tryd.prog 12 #[.slice A n c, .int .i64 s] w (KeyRs 3 0 0 [] [] w) := by
  have hb : ((n : Int) != 32) = true := by rw [bne_iff_ne]; omega
  go_enter Tryd.func12, Tryd.ntmps12
  go_wp2
  go_returns
  exact ⟨⟨none, 0, none, 0, rfl, Rs.two (Ow.nil_ _ _) (Ow.nil_ _ _) (fun h0 => absurd h0 (by omega))⟩, by go_grown⟩

theorem specKeyAt_slot (A : Option Addr) (c : Nat) (s : Int) (w : World) (hs : inB s 0 400 = false) :
    Calls Tryd.prog 12 #[.slice A 32 c, .int .i64 s] w (KeyRs 3 0 0 [] [] w) := by
  have ce := l7Slot_any s
  rw [hs] at ce
  clear hs
  go_enter Tryd.func12, Tryd.ntmps12
  go_wp2_with fail
  refine (ce _).mono ?_
  rintro e w1 ⟨rfl, rfl⟩
  go_wp2
  go_returns
  exact ⟨⟨none, 0, none, 0, rfl, Rs.two (Ow.nil_ _ _) (Ow.nil_ _ _) (fun h0 => absurd h0 (by omega))⟩, by go_grown⟩

theorem specKeyAt_yes (A : Option Addr) (c : Nat) (root : List Int) (s : Int) (w : World) (h : Bs w A 32 root) (hs : inB s 0 400 = true) :
    Calls Tryd.prog 12 #[.slice A 32 c, .int .i64 s] w (KeyRs 0 32 32 (chK root (kaK s)).1 (chK root (kaK s)).2 w) := by
  have h4 : 0 ≤ s ∧ s ≤ 400 := by simpa [inB] using hs
  have ce := l7Slot_any s
  rw [hs] at ce
  have B0 := ab (Below.refl _ w) (.cells #[.int .i64 0, .slice none 0 0, .slice none 0 0] 27)
  have S0 := Stc.new w 27 [.int .i64 0, .slice none 0 0, .slice none 0 0] _ rfl
  have CK := Shut.mk (l7Key_any A c root s _ (h.below B0) h4.1 h4.2)
  generalize (chK root (kaK s)).1 = F at *
  generalize (chK root (kaK s)).2 = G at *
  clear hs h4 h
  go_enter Tryd.func12, Tryd.ntmps12
  go_wp2_with fail
  refine (ce _).mono ?_
  rintro e w0 ⟨rfl, rfl⟩
  go_wp2_with fail
  refine CK.out.mono ?_
  rintro e w1 ⟨⟨A1, c1, A2, c2, rfl, R⟩, b1⟩
  have B1 := ac B0 b1
  replace S0 := S0.below b1 S0.lt
  simp only [World.size_alloc] at R
  have x0 := S0.cell (i := 0) rfl
  have x1 := S0.cell (i := 1) rfl
  have x2 := S0.cell (i := 2) rfl
  have xf := S0.frozen
  have zz : w.heap.size < w.heap.size + 1 := by omega
  clear CK ce b1 B0
  go_wp2
  refine bodyPost_ret (v := .agg #[.int .i64 0, .slice A1 32 c1, .slice A2 32 c2]) (by simp [results, Tryd.results12, go_sem, x0, x1, x2]) rfl ?_
  exact ⟨⟨A1, c1, A2, c2, rfl, (((R.far (p := ⟨w.heap.size, 0, none⟩) zz _).far (p := ⟨w.heap.size, 1, none⟩) zz _).far (p := ⟨w.heap.size, 2, none⟩) zz _).mono (by omega)⟩, ((B1.setCell (p := ⟨w.heap.size, 0, none⟩) (Nat.le_refl _) _).setCell (p := ⟨w.heap.size, 1, none⟩) (Nat.le_refl _) _).setCell (p := ⟨w.heap.size, 2, none⟩) (Nat.le_refl _) _⟩

theorem implKeyAt_any (A : Option Addr) (n c : Nat) (root : List Int) (s : Int) (w : World) (hT : Tabs w) (h : Bs w A n root) :
    Calls Tryd.prog 8 #[.slice A n c, .int .i64 s] w (KeyRs (kaC n s) (kaN n s) (kaN n s) (kaL n s (chK root (kaK s)).1) (kaL n s (chK root (kaK s)).2) w) := by
  unfold kaC kaN kaL
  by_cases hn : n = 32
  · subst hn
    cases hs : inB s 0 400 with
    | true => simp only [kaOk, hs, decide_true, Bool.and_self, if_true]; exact implKeyAt_yes A c root s w hT h hs
    | false => simp only [kaOk, hs, Bool.and_false, Bool.false_eq_true, if_false]; exact implKeyAt_slot A c s w hs
  · have e : kaOk n s = false := by simp [kaOk, hn]
    simp only [e, Bool.false_eq_true, if_false]
    exact implKeyAt_len A n c s w hn
theorem specKeyAt_any (A : Option Addr) (n c : Nat) (root : List Int) (s : Int) (w : World) (h : Bs w A n root) :
    Calls Tryd.prog 12 #[.slice A n c, .int .i64 s] w (KeyRs (kaC n s) (kaN n s) (kaN n s) (kaL n s (chK root (kaK s)).1) (kaL n s (chK root (kaK s)).2) w) := by
  unfold kaC kaN kaL
  by_cases hn : n = 32
  · subst hn
    cases hs : inB s 0 400 with
    | true => simp only [kaOk, hs, decide_true, Bool.and_self, if_true]; exact specKeyAt_yes A c root s w h hs
    | false => simp only [kaOk, hs, Bool.and_false, Bool.false_eq_true, if_false]; exact specKeyAt_slot A c s w hs
  · have e : kaOk n s = false := by simp [kaOk, hn]
    simp only [e, Bool.false_eq_true, if_false]
    exact specKeyAt_len A n c s w hn
end Go.Proofs.YtabhcolfkkfonaaDoor
