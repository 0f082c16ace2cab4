/- IdealWire of both. -/
import Derived.Test.YtgmbofoneeagiaaDoorIdlS
namespace Go.Proofs.YtgmbofoneeagiaaDoor
open Go.RowKit

theorem pts_three {w : World} {g : Nat} {A B D : Option Addr} {n c m d k f : Nat} {l r t : List Int} (hg : g < w.heap.size) (hc : w.cell? ⟨g, 0, none⟩ = some (.slice A n c)) (hd : w.cell? ⟨g, 1, none⟩ = some (.slice B m d)) (hf : w.cell? ⟨g, 2, none⟩ = some (.slice D k f)) (h : Bs w A n l) (h2 : Bs w B m r) (h3 : Bs w D k t) (h0 : A = none → c = 0) (k0 : B = none → d = 0) (f0 : D = none → f = 0) : Pts w g [⟨A, n, c, l⟩, ⟨B, m, d, r⟩, ⟨D, k, f, t⟩] :=
  ⟨hg, fun i p hp => by
    rcases i with _ | _ | _ | i
    · simp at hp; subst hp; exact hc
    · simp at hp; subst hp; exact hd
    · simp at hp; subst hp; exact hf
    · simp at hp,
   fun i p hp => by
    rcases i with _ | _ | _ | i
    · simp at hp; subst hp; exact h
    · simp at hp; subst hp; exact h2
    · simp at hp; subst hp; exact h3
    · simp at hp,
   fun i p hp => by
    rcases i with _ | _ | _ | i
    · simp at hp; subst hp; exact h0
    · simp at hp; subst hp; exact k0
    · simp at hp; subst hp; exact f0
    · simp at hp⟩
theorem new_three (w : World) (a b c : Value) (t : TypeId) : (w.alloc (.cells #[a, b, c] t)).cell? ⟨w.heap.size, 0, none⟩ = some a ∧ (w.alloc (.cells #[a, b, c] t)).cell? ⟨w.heap.size, 1, none⟩ = some b ∧ (w.alloc (.cells #[a, b, c] t)).cell? ⟨w.heap.size, 2, none⟩ = some c := by
  exact ⟨by simp, by simp, by simp⟩

set_option linter.unusedVariables false in
set_option maxRecDepth 100000 in
set_option maxHeartbeats 4000000 in
theorem idealHash_any (A : Option Addr) (c : Nat) (root : List Int) (side half : Int) (B : Option Addr) (d : Nat) (H : List Int) (w : World) (hT : Tabs w) (h : Bs w A 32 root) (hc : A = none → c = 0) (hd : 0 ≤ side ∧ side < 256) (hf : 0 ≤ half ∧ half < 256) (hH : Bs w B 4 H) (hB : B = none → d = 0) :
    Calls Tryd.prog 19 #[.slice A 32 c, .int .i64 side, .int .u8 half, .slice B 4 d] w fun e w' => (∃ A' c', e = .returned (.slice A' 32 c') ∧ Row w' w.heap.size (.slice A' 32 c') (hashW ((root ++ [side, half]) ++ H))) ∧ Below w.heap.size w w' := by
  have cv : side % 256 = side := by omega
  have B1 := ab (Below.refl w.heap.size w) (.cells #[.int .u8 side, .int .u8 half] 5)
  have B2 := ab B1 (.cells #[.slice A 32 c, .slice (some ⟨w.heap.size, 0, none⟩) 2 2, .slice B 4 d] 22)
  obtain ⟨n0, n1, n2⟩ := new_three (w.alloc (.cells #[.int .u8 side, .int .u8 half] 5)) (.slice A 32 c) (.slice (some ⟨w.heap.size, 0, none⟩) 2 2) (.slice B 4 d) 22
  have P := pts_three (by simp) n0 n1 n2 (h.below B2) ((bs_two w side half hd hf).alloc _) (hH.below B2) hc (fun e => by cases e) hB
  have hcat : catL [⟨A, 32, c, root⟩, ⟨some ⟨w.heap.size, 0, none⟩, 2, 2, [side, half]⟩, ⟨B, 4, d, H⟩] = (root ++ [side, half]) ++ H := by simp [catL]
  have hp := hashParts_any _ 3 3 _ _ (hT.keep B2) P rfl (by omega) (by simp [sumN])
  rw [hcat] at hp
  rw [World.size_alloc] at hp
  clear P hcat n0 n1 n2
  go_enter Tryd.func19, Tryd.ntmps19
  go_wp2_with fail
  refine hp.mono ?_
  rintro e w1 ⟨⟨A3, c3, rfl, r3⟩, b1⟩
  have BB := ac B2 b1
  go_wp2
  go_ret
  exact ⟨⟨A3, c3, rfl, r3.mono B2.size⟩, BB⟩

theorem ow_take {w : World} {B n : Nat} {A : Option Addr} {l : List Int} (h : Ow w B A n l) (k : Nat) (hk : k ≤ n) : Ow w B A k (l.take k) := by
  refine ⟨by rw [List.length_take, h.len]; omega, fun x hx => h.byte x (List.mem_of_mem_take hx), fun hp => ?_⟩
  obtain ⟨b, e, hB, hlt, hc, hf⟩ := h.at_ (by omega)
  refine ⟨b, e, hB, hlt, fun i hi => ?_, hf⟩
  have hi2 : i < k := by first | exact hi | (rw [List.length_take] at hi; omega)
  rw [hc i (by first | omega | (have := h.len; omega))]
  simp [List.getD, hi2]
theorem take_ideal (H X Y : List Int) (hH : H.length = 4) (hX : X.length = 32) : (H ++ (X ++ Y)).take 64 = (H ++ X) ++ Y.take 28 := by
  rw [← List.append_assoc, List.take_append, List.take_of_length_le (by simp; omega)]
  simp [hH, hX]

set_option linter.unusedVariables false in
set_option maxRecDepth 100000 in
set_option maxHeartbeats 4000000 in
theorem implIdeal_ok (A : Option Addr) (c : Nat) (root : List Int) (side s : Int) (w : World) (hT : Tabs w) (h : Bs w A 32 root) (hc : A = none → c = 0) (hs : sideI side = true) (hl : slotI s = true) :
    Calls Tryd.prog 6 #[.slice A 32 c, .int .i64 side, .int .i64 s] w (BytesAns 0 64 (idealL root side s) w) := by
  have ci := isSide_any side
  have cl := isSlot_any s
  rw [hs] at ci
  rw [hl] at cl
  have hd : 0 ≤ side ∧ side < 256 := by
    unfold sideI at hs
    split at hs
    · omega
    · have : side = 1 := by simpa using hs
      omega
  have hb : 0 ≤ s ∧ s ≤ 400 := by simpa [slotI, inB] using hl
  have FW : Shut ((hiI s ++ hashW ((root ++ [side, 0]) ++ hiI s)) ++ (hashW ((root ++ [side, 1]) ++ hiI s)).take 28 = idealL root side s) := ⟨rfl⟩
  have L4 := Shut.mk (hiI_len s)
  have H4 : Shut ((lowOf s 4).reverse = hiI s) := ⟨rfl⟩
  have E0 := Shut.mk (hashW_len ((root ++ [side, 0]) ++ hiI s))
  have E1 := Shut.mk (hashW_len ((root ++ [side, 1]) ++ hiI s))
  have LW := Shut.mk (idealL_len root side s)
  have S4 := Shut.mk (fun W => spreadHigh_any s 4 W (by omega))
  generalize idealL root side s = F at *
  generalize hiI s = H at *
  go_enter Tryd.func6, Tryd.ntmps6
  go_wp2_with fail
  refine (ci _).mono ?_
  rintro e w' ⟨rfl, rfl⟩
  go_wp2_with fail
  refine (cl _).mono ?_
  rintro e w' ⟨rfl, rfl⟩
  go_wp2_with fail
  refine (S4.out _).mono ?_
  rintro e w1 ⟨rfl, o1, b1⟩
  rw [H4.out] at o1
  have B1 := ac (ab (Below.refl w.heap.size w) (.cells #[.int .i64 0, .slice none 0 0] 24)) b1
  have s1 := B1.size
  simp only [World.size_alloc] at o1
  go_wp2_with fail
  refine (idealHash_any A c root side 0 _ 4 H w1 (hT.keep B1) (h.below B1) hc hd (by omega) o1.bs (fun e => by cases e)).mono ?_
  rintro e w2 ⟨⟨A2, c2, rfl, r2⟩, b2⟩
  have B2 := ac B1 b2
  have s2 := B2.size
  go_wp2_with fail
  refine (idealHash_any A c root side 1 _ 4 H w2 (hT.keep B2) (h.below B2) hc hd (by omega) (o1.bs.below b2) (fun e => by cases e)).mono ?_
  rintro e w3 ⟨⟨A3, c3, rfl, r3⟩, b3⟩
  have B3 := ac B2 b3
  have s3 := B3.size
  have p1 := (o1.bs.below b2).below b3
  have p2 := (r2.ow' E0.out).bs.below b3
  have p3 := (r3.ow' E1.out).bs
  have f2 := r2.cap0
  have f3 := r3.cap0
  have D3 := ac (ac b1 b2) b3
  have TK := Shut.mk (take_ideal H _ (hashW ((root ++ [side, 1]) ++ H)) L4.out E0.out)
  rw [FW.out] at TK
  generalize hashW ((root ++ [side, 0]) ++ H) = X5 at *
  generalize hashW ((root ++ [side, 1]) ++ H) = X9 at *
  obtain ⟨n0, n1, n2⟩ := new_three w3 (.slice (some ⟨w.heap.size + 1, 0, none⟩) 4 4) (.slice A2 32 c2) (.slice A3 32 c3) 22
  have P := pts_three (by simp) n0 n1 n2 (p1.alloc _) (p2.alloc _) (p3.alloc _) (fun e => by cases e) f2 f3
  have hp := concat_any w3.heap.size 3 3 _ _ P rfl (by omega) (by simp [sumN])
  have hcat : catL [⟨some ⟨w.heap.size + 1, 0, none⟩, 4, 4, H⟩, ⟨A2, 32, c2, X5⟩, ⟨A3, 32, c3, X9⟩] = H ++ (X5 ++ X9) := by simp [catL]
  have hsum : sumN [⟨some ⟨w.heap.size + 1, 0, none⟩, 4, 4, H⟩, ⟨A2, 32, c2, X5⟩, ⟨A3, 32, c3, X9⟩] = 68 := by simp [sumN]
  rw [hcat, hsum] at hp
  have D4 := ab D3 (.cells #[.slice (some ⟨w.heap.size + 1, 0, none⟩) 4 4, .slice A2 32 c2, .slice A3 32 c3] 22)
  have L68 : Shut ((H ++ (X5 ++ X9)).length = 68) := ⟨by rw [List.length_append, List.length_append, L4.out, E0.out, E1.out]⟩
  clear P hcat hsum n0 n1 n2 p1 p2 p3 f2 f3 r2 r3 b2 b3 o1 b1
  go_wp2_with fail
  refine hp.mono ?_
  rintro e w4 ⟨⟨A4, c4, rfl, r4⟩, b4⟩
  clear hp
  have D5 := ac D4 b4
  have B5 := ac (ab B3 (.cells #[.slice (some ⟨w.heap.size + 1, 0, none⟩) 4 4, .slice A2 32 c2, .slice A3 32 c3] 22)) b4
  simp only [World.size_alloc] at D5
  obtain ⟨hc0, hc1, hf0, hf1, hz⟩ := two_cells D5
  have cap4 := r4.cap_
  have o4 := ow_take (r4.ow' L68.out) 64 (by omega)
  rw [TK.out] at o4
  obtain ⟨g4, rfl, hg4, _⟩ := (r4.ow' L68.out).at_ (by omega)
  have k64 : (64 : Int) ≤ (c4 : Int) := by omega
  have ob := o4.base (by omega) _ rfl
  go_wp2
  refine bodyPost_ret (v := .agg #[.int .i64 0, .slice (some ⟨g4, 0, none⟩) 64 c4]) (by simp [results, Tryd.results6, go_sem, hc0, hc1]) rfl ?_
  refine ⟨⟨_, c4, rfl, ((o4.far (p := ⟨w.heap.size, 0, none⟩) (by simp; omega) _).far (p := ⟨w.heap.size, 1, none⟩) (by simp; omega) _).mono (by simp; omega)⟩, ?_⟩
  exact (B5.setCell (by simp) _).setCell (by simp) _

set_option linter.unusedVariables false in
set_option maxRecDepth 100000 in
set_option maxHeartbeats 4000000 in
theorem specIdeal_ok (A : Option Addr) (c : Nat) (root : List Int) (side s : Int) (w : World) (h : Bs w A 32 root) (hc : A = none → c = 0) (hs : sideI side = true) (hl : slotI s = true) :
    Calls Tryd.prog 4 #[.slice A 32 c, .int .i64 side, .int .i64 s] w (BytesAns 0 64 (idealL root side s) w) := by
  have ci := l10Side_any side
  have cl := l7Slot_any s
  rw [hs] at ci
  rw [hl] at cl
  have hd : 0 ≤ side ∧ side < 256 := by
    unfold sideI at hs
    split at hs
    · omega
    · have : side = 1 := by simpa using hs
      omega
  have hb : 0 ≤ s ∧ s ≤ 400 := by simpa [slotI, inB] using hl
  have LW := Shut.mk (idealL_len root side s)
  have B0 := ab (Below.refl w.heap.size w) (.cells #[.int .i64 0, .slice none 0 0] 24)
  have hp := l10Ideal_any A c root side s _ (h.below B0) hc hd hb.1 hb.2
  generalize idealL root side s = F at *
  go_enter Tryd.func4, Tryd.ntmps4
  go_wp2_with fail
  refine (ci _).mono ?_
  rintro e w' ⟨rfl, rfl⟩
  go_wp2_with fail
  refine (cl _).mono ?_
  rintro e w' ⟨rfl, rfl⟩
  go_wp2_with fail
  refine hp.mono ?_
  rintro e w1 ⟨⟨A1, c1, rfl, r1⟩, b1⟩
  have B1 := ac B0 b1
  have D1 := b1
  simp only [World.size_alloc] at D1 r1
  obtain ⟨hc0, hc1, hf0, hf1, hz⟩ := two_cells D1
  have o1 := r1.ow' LW.out
  go_wp2
  refine bodyPost_ret (v := .agg #[.int .i64 0, .slice A1 64 c1]) (by simp [results, Tryd.results4, go_sem, hc0, hc1]) rfl ?_
  refine ⟨⟨_, c1, rfl, ((o1.far (p := ⟨w.heap.size, 0, none⟩) (by simp) _).far (p := ⟨w.heap.size, 1, none⟩) (by simp) _).mono (by simp)⟩, ?_⟩
  exact (B1.setCell (by simp) _).setCell (by simp) _

theorem implIdeal_no (A : Option Addr) (n c : Nat) (side s : Int) (w : World) (hn : ¬ (n = 32 ∧ sideI side = true ∧ slotI s = true)) :
    Calls Tryd.prog 6 #[.slice A n c, .int .i64 side, .int .i64 s] w (BytesAns 3 0 [] w) := by
  by_cases h1 : n = 32
  · subst h1
    have ci := isSide_any side
    cases hs : sideI side with
    | false =>
      rw [hs] at ci
      clear hs hn
      go_enter Tryd.func6, Tryd.ntmps6
      go_wp2_with fail
      refine (ci _).mono ?_
      rintro e w' ⟨rfl, rfl⟩
      go_wp2
      go_returns
      exact ⟨⟨none, 0, rfl, Ow.nil_ _ _⟩, by go_grown⟩
    | true =>
      have cl := isSlot_any s
      have hl : slotI s = false := by
        cases h : slotI s with
        | false => rfl
        | true => exact absurd ⟨rfl, hs, h⟩ hn
      rw [hs] at ci
      rw [hl] at cl
      clear hs hl hn
      go_enter Tryd.func6, Tryd.ntmps6
      go_wp2_with fail
      refine (ci _).mono ?_
      rintro e w' ⟨rfl, rfl⟩
      go_wp2_with fail
      refine (cl _).mono ?_
      rintro e w' ⟨rfl, rfl⟩
      go_wp2
      go_returns
      exact ⟨⟨none, 0, rfl, Ow.nil_ _ _⟩, by go_grown⟩
  · have hb : ((n : Int) != 32) = true := by rw [bne_iff_ne]; omega
    clear hn
    go_enter Tryd.func6, Tryd.ntmps6
    go_wp2
    go_returns
    exact ⟨⟨none, 0, rfl, Ow.nil_ _ _⟩, by go_grown⟩

theorem specIdeal_no (A : Option Addr) (n c : Nat) (side s : Int) (w : World) (hn : ¬ (n = 32 ∧ sideI side = true ∧ slotI s = true)) :
    Calls Tryd.prog 4 #[.slice A n c, .int .i64 side, .int .i64 s] w (BytesAns 3 0 [] w) := by
  by_cases h1 : n = 32
  · subst h1
    have ci := l10Side_any side
    cases hs : sideI side with
    | false =>
      rw [hs] at ci
      clear hs hn
      go_enter Tryd.func4, Tryd.ntmps4
      go_wp2_with fail
      refine (ci _).mono ?_
      rintro e w' ⟨rfl, rfl⟩
      go_wp2
      go_returns
      exact ⟨⟨none, 0, rfl, Ow.nil_ _ _⟩, by go_grown⟩
    | true =>
      have cl := l7Slot_any s
      have hl : slotI s = false := by
        cases h : slotI s with
        | false => rfl
        | true => exact absurd ⟨rfl, hs, h⟩ hn
      rw [hs] at ci
      rw [hl] at cl
      clear hs hl hn
      go_enter Tryd.func4, Tryd.ntmps4
      go_wp2_with fail
      refine (ci _).mono ?_
      rintro e w' ⟨rfl, rfl⟩
      go_wp2_with fail
      refine (cl _).mono ?_
      rintro e w' ⟨rfl, rfl⟩
      go_wp2
      go_returns
      exact ⟨⟨none, 0, rfl, Ow.nil_ _ _⟩, by go_grown⟩
  · have hb : ((n : Int) != 32) = true := by rw [bne_iff_ne]; omega
    clear hn
    go_enter Tryd.func4, Tryd.ntmps4
    go_wp2
    go_returns
    exact ⟨⟨none, 0, rfl, Ow.nil_ _ _⟩, by go_grown⟩

theorem implIdealWire_any (A : Option Addr) (n c : Nat) (root : List Int) (side s : Int) (w : World) (hT : Tabs w) (h : Bs w A n root) (hc : A = none → c = 0) :
    Calls Tryd.prog 6 #[.slice A n c, .int .i64 side, .int .i64 s] w (BytesAns (idlC n side s) (idlN (idlC n side s)) (idlL (idlC n side s) (idealL root side s)) w) := by
  by_cases hn : n = 32 ∧ sideI side = true ∧ slotI s = true
  · have e : idlC n side s = 0 := if_pos hn
    rw [e]
    obtain ⟨rfl, hs, hl⟩ := hn
    exact implIdeal_ok A c root side s w hT h hc hs hl
  · have e : idlC n side s = 3 := if_neg hn
    rw [e]
    exact implIdeal_no A n c side s w hn
theorem specIdealWire_any (A : Option Addr) (n c : Nat) (root : List Int) (side s : Int) (w : World) (h : Bs w A n root) (hc : A = none → c = 0) :
    Calls Tryd.prog 4 #[.slice A n c, .int .i64 side, .int .i64 s] w (BytesAns (idlC n side s) (idlN (idlC n side s)) (idlL (idlC n side s) (idealL root side s)) w) := by
  by_cases hn : n = 32 ∧ sideI side = true ∧ slotI s = true
  · have e : idlC n side s = 0 := if_pos hn
    rw [e]
    obtain ⟨rfl, hs, hl⟩ := hn
    exact specIdeal_ok A c root side s w h hc hs hl
  · have e : idlC n side s = 3 := if_neg hn
    rw [e]
    exact specIdeal_no A n c side s w hn
end Go.Proofs.YtgmbofoneeagiaaDoor
