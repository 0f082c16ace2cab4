/- A cell read back from its text, of the program. -/
import Derived.Test.YtpoiecdifhkegaaDecA
import Derived.Lib.SliceRun
import Derived.WalkLawsBesides
import Derived.Deep.CutRange
namespace Go.Proofs.Ytpoiecdifhkegaa
open Go.RowKit

set_option maxRecDepth 100000 in
set_option maxHeartbeats 1000000 in
theorem clone_cell (a : Addr) (n c : Nat) (l : List Int) (w : World) (h : Bs w (some a) n l) (hn : n ≤ 100000000) :
    Calls Try.prog 64 #[.slice (some a) n c] w fun e w' => (∃ A' c', e = .returned (.slice A' n c') ∧ Ow w' w.heap.size A' n l ∧ n ≤ c' ∧ (A' = none → c' = 0)) ∧ Below w.heap.size w w' := by
  have q22 : ∀ (w : World) (a : Option Addr) (n c n' c' : Nat), (binOp .eql 22 (.slice a n c) (.slice none n' c')).run Try.prog w = .ok (.bool a.isNone) w := fun w a n c n' c' => Lib.run_eql_slice_nil w _ _ a n c n' c' Try.underlying22
  have Hl := Shut.mk h.len
  have e0 : Row (w.alloc (.cells #[] 5)) w.heap.size (.slice (some ⟨w.heap.size, 0, none⟩) 0 0) [] := Row.empty w #[] (Nat.le_refl _) rfl
  have h1 := h.below (ab (Below.refl _ w) (.cells #[] 5))
  go_enter Try.func64, Try.ntmps64
  go_wp2_with (at_builtin; refine wpList_row_join rfl _ _ rfl _ w.heap.size (.slice (some ⟨w.heap.size, 0, none⟩) 0 0) _ _ rfl e0 (by simp) (some a) n c rfl h1 (fun e => by cases e) (by simp; omega) ?_; intro v4 w4 hr4 hb4 hs4)
  obtain ⟨A5, c5, rfl, ho⟩ := hr4.ow Hl.out
  obtain ⟨k1, k2⟩ := hr4.capX
  go_ret
  exact ⟨⟨A5, c5, rfl, ho, k1, k2⟩, (ab (Below.refl _ w) _).trans hb4⟩

/-- of the bytes that a text says it has, as many as there can be -/
def minK (p : List Int) : Nat := if fZ p ≤ 32 then (fZ p).toNat else 32
theorem minK_le (p : List Int) : minK p ≤ 32 := by unfold minK; split <;> omega
theorem minK_eq {p : List Int} (h : By p) : (if fZ p ≤ 32 then fZ p else 32) = ((minK p : Nat) : Int) := by
  have := (fZ_bd h).1
  unfold minK
  split
  · omega
  · rfl

set_option maxRecDepth 100000 in
set_option maxHeartbeats 4000000 in
theorem readCell_any (g c : Nat) (p : List Int) (w : World) (hp : Bs w (some ⟨g, 0, none⟩) 44 p) (hc : 44 ≤ c) :
    Calls Try.prog 46 #[.slice (some ⟨g, 0, none⟩) 44 c] w fun e w' => (∃ A' c', e = .returned (.agg #[.int .i64 (fK p), .int .i64 (fS p), .int .i64 (fA p), .int .i64 (fM p), .bool (fL p), .slice A' (minK p) c']) ∧ Ow w' w.heap.size A' (minK p) (fB p (minK p)) ∧ minK p ≤ c' ∧ (A' = none → c' = 0)) ∧ Below w.heap.size w w' := by
  have c1 : (3 : Int) ≤ (c : Int) := by omega
  have c2 : (5 : Int) ≤ (c : Int) := by omega
  have c3 : ¬ c = 1 := by omega
  have c4 : ¬ c = 3 := by omega
  have c8 : ¬ c = 8 := by omega
  obtain ⟨b', off', e, hg, hcell⟩ := hp.at_ (by omega)
  injection e with e
  injection e with e1 e2
  subst e1
  subst e2
  have k0 : w.cell? ⟨g, 0, none⟩ = some (.int .u8 (fK p)) := hcell 0 (by omega)
  have k5 : w.cell? ⟨g, 5, none⟩ = some (.int .u8 (fM p)) := hcell 5 (by omega)
  have k6 : w.cell? ⟨g, 6, none⟩ = some (.int .u8 (p.getD 6 0)) := by simpa using hcell 6 (by omega)
  have k7 : w.cell? ⟨g, 7, none⟩ = some (.int .u8 (fZ p)) := hcell 7 (by omega)
  have X0 : 0 ≤ fK p ∧ fK p < 256 := By.get hp.byte 0
  have X5 : 0 ≤ fM p ∧ fM p < 256 := By.get hp.byte 5
  have X7 : 0 ≤ fZ p ∧ fZ p < 256 := By.get hp.byte 7
  obtain ⟨X0a, X0b⟩ := X0
  obtain ⟨X5a, X5b⟩ := X5
  obtain ⟨X7a, X7b⟩ := X7
  have i0 : IntKind.i64.wrap (fK p) = fK p := IntWalk.i64_in _ (by omega)
  have i5 : IntKind.i64.wrap (fM p) = fM p := IntWalk.i64_in _ (by omega)
  have L6 : Shut ((p.getD 6 0 == 1) = fL p) := ⟨by unfold fL; rw [Bool.eq_iff_iff]; simp⟩
  have l6 := L6.out
  generalize p.getD 6 0 = Y at *
  have mk := minK_le p
  have ME := Shut.mk (minK_eq hp.byte)
  have q1 := fun W (h : W.cell? ⟨g, 0, none⟩ = some (.int .u8 (fK p)) ∧ W.cell? ⟨g, 5, none⟩ = some (.int .u8 (fM p)) ∧ W.cell? ⟨g, 6, none⟩ = some (.int .u8 Y) ∧ Below w.heap.size w W) => joinHigh_any _ 2 (c - 1) _ W ((hp.below h.2.2.2).part_ 1 2 (by omega)) (by omega)
  have q3 := fun W (h : W.cell? ⟨g, 0, none⟩ = some (.int .u8 (fK p)) ∧ W.cell? ⟨g, 5, none⟩ = some (.int .u8 (fM p)) ∧ W.cell? ⟨g, 6, none⟩ = some (.int .u8 Y) ∧ Below w.heap.size w W) => joinHigh_any _ 2 (c - 3) _ W ((hp.below h.2.2.2).part_ 3 2 (by omega)) (by omega)
  have q8 := fun W (h : W.cell? ⟨g, 0, none⟩ = some (.int .u8 (fK p)) ∧ W.cell? ⟨g, 5, none⟩ = some (.int .u8 (fM p)) ∧ W.cell? ⟨g, 6, none⟩ = some (.int .u8 Y) ∧ Below w.heap.size w W) => clone_cell _ (minK p) (c - 8) _ W ((hp.below h.2.2.2).part_ 8 (minK p) (by omega)) (by omega)
  simp only [Nat.zero_add] at q1 q3 q8
  have Q1 : Shut (∀ W : World, (W.cell? ⟨g, 0, none⟩ = some (.int .u8 (fK p)) ∧ W.cell? ⟨g, 5, none⟩ = some (.int .u8 (fM p)) ∧ W.cell? ⟨g, 6, none⟩ = some (.int .u8 Y) ∧ Below w.heap.size w W) → Calls Try.prog 59 #[.slice (some ⟨g, 1, none⟩) 2 (c - 1)] W fun e w' => e = .returned (.int .i64 (fS p)) ∧ W = w') := ⟨q1⟩
  have Q3 : Shut (∀ W : World, (W.cell? ⟨g, 0, none⟩ = some (.int .u8 (fK p)) ∧ W.cell? ⟨g, 5, none⟩ = some (.int .u8 (fM p)) ∧ W.cell? ⟨g, 6, none⟩ = some (.int .u8 Y) ∧ Below w.heap.size w W) → Calls Try.prog 59 #[.slice (some ⟨g, 3, none⟩) 2 (c - 3)] W fun e w' => e = .returned (.int .i64 (fA p)) ∧ W = w') := ⟨q3⟩
  have Q8 : Shut (∀ W : World, (W.cell? ⟨g, 0, none⟩ = some (.int .u8 (fK p)) ∧ W.cell? ⟨g, 5, none⟩ = some (.int .u8 (fM p)) ∧ W.cell? ⟨g, 6, none⟩ = some (.int .u8 Y) ∧ Below w.heap.size w W) → Stc W w.heap.size [.int .i64 0, .int .i64 0, .int .i64 0, .int .i64 0, .bool false, .slice none 0 0] 25 → Calls Try.prog 64 #[.slice (some ⟨g, 8, none⟩) (minK p) (c - 8)] W fun e w' => (∃ A' c', e = .returned (.slice A' (minK p) c') ∧ Ow w' w.heap.size A' (minK p) (fB p (minK p)) ∧ Ow w' (w.heap.size + 1) A' (minK p) (fB p (minK p)) ∧ minK p ≤ c' ∧ (A' = none → c' = 0)) ∧ Stc w' w.heap.size [.int .i64 0, .int .i64 0, .int .i64 0, .int .i64 0, .bool false, .slice none 0 0] 25 ∧ w'.cell? ⟨g, 0, none⟩ = some (.int .u8 (fK p)) ∧ w'.cell? ⟨g, 5, none⟩ = some (.int .u8 (fM p)) ∧ w'.cell? ⟨g, 6, none⟩ = some (.int .u8 Y) ∧ Below w.heap.size w w') := by
    refine ⟨fun W h hT => (q8 W h).mono ?_⟩
    rintro e w' ⟨⟨A', c', he, ho, j1, j2⟩, hb⟩
    have hs := h.2.2.2.size
    have ht := hT.lt
    have hc := fun (i : Nat) => hb.cell (p := ⟨g, i, none⟩) (Nat.lt_of_lt_of_le hg hs)
    exact ⟨⟨A', c', he, ho.mono hs, ho.mono ht, j1, j2⟩, hT.below hb ht, (hc 0).trans h.1, (hc 5).trans h.2.1, (hc 6).trans h.2.2.1, ac h.2.2.2 hb⟩
  have B0 := ab (Below.refl _ w) (.cells #[.int .i64 0, .int .i64 0, .int .i64 0, .int .i64 0, .bool false, .slice none 0 0] 25)
  have T0 := Stc.new w 25 [.int .i64 0, .int .i64 0, .int .i64 0, .int .i64 0, .bool false, .slice none 0 0] _ rfl
  have m0 := cell_past (.cells #[.int .i64 0, .int .i64 0, .int .i64 0, .int .i64 0, .bool false, .slice none 0 0] 25) k0
  have m5 := cell_past (.cells #[.int .i64 0, .int .i64 0, .int .i64 0, .int .i64 0, .bool false, .slice none 0 0] 25) k5
  have m6 := cell_past (.cells #[.int .i64 0, .int .i64 0, .int .i64 0, .int .i64 0, .bool false, .slice none 0 0] 25) k6
  have m7 := cell_past (.cells #[.int .i64 0, .int .i64 0, .int .i64 0, .int .i64 0, .bool false, .slice none 0 0] 25) k7
  have hmin : (if fZ p ≤ 32 then fZ p else 32) = (minK p : Int) := ME.out
  clear hcell q1 q3 q8 L6 k0 k5 k6 k7
  go_enter Try.func46, Try.ntmps46
  go_upto_region 1 with (fail)
  go_cut [3] from 4 to 8 (fun s wx => s = .int .i64 (minK p : Int) ∧ wx = w.alloc (.cells #[.int .i64 0, .int .i64 0, .int .i64 0, .int .i64 0, .bool false, .slice none 0 0] 25))
  case first =>
    clear Q1 Q3 Q8 B0 T0
    go_wp2
    all_goals
      go_meet
      refine ⟨?_, rfl⟩
      show Value.int .i64 _ = Value.int .i64 _
      congr 1
      first | (rw [← hmin, if_pos (by omega)]) | (rw [← hmin, if_neg (by omega)])
  case rest =>
  obtain ⟨rfl, rfl⟩ := hcut
  clear hmin ME
  have mk1 : (8 : Int) + (minK p : Int) ≤ (c : Int) := by omega
  have mk0 : (0 : Int) ≤ (minK p : Int) := by omega
  have mw : IntKind.i64.wrap (8 + (minK p : Int)) = 8 + (minK p : Int) := IntWalk.i64_in _ (by omega)
  have mk8 : (8 : Int) ≤ 8 + (minK p : Int) := by omega
  have mk9 : (0 : Int) ≤ 8 + (minK p : Int) := by omega
  have hgn : ¬ w.heap.size = g := by omega
  have mt : (8 + (minK p : Int)).toNat = 8 + minK p := by omega
  go_wp2_with fail
  go_region_held3 (fun W => W.cell? ⟨g, 0, none⟩ = some (.int .u8 (fK p)) ∧ W.cell? ⟨g, 5, none⟩ = some (.int .u8 (fM p)) ∧ W.cell? ⟨g, 6, none⟩ = some (.int .u8 Y) ∧ Below w.heap.size w W)
    (first | (exact ⟨by with_reducible assumption, by with_reducible assumption, by with_reducible assumption, by with_reducible assumption⟩) | (refine ⟨?_, ?_, ?_, ((((((y7.setCell (by simp) _).setCell (by simp) _).setCell (by simp) _).setCell (by simp) _).setCell (by simp) _).setCell (by simp) _)⟩; (simp only [World.cell?_setCell_far, hgn, y0, ne_eq, not_false_eq_true]); (simp only [World.cell?_setCell_far, hgn, y5, ne_eq, not_false_eq_true]); (simp only [World.cell?_setCell_far, hgn, y6, ne_eq, not_false_eq_true])) | (exact ⟨m0, m5, m6, B0.drew⟩))
    (first
    | (go_at_call_of 59 (some (⟨g, 1, none⟩ : Addr)); refine (Q1.out _ ?_).mono ?_; (first | assumption | (simp [*]; done)); rintro e w' ⟨rfl, rfl⟩)
    | (go_at_call_of 59 (some (⟨g, 3, none⟩ : Addr)); refine (Q3.out _ ?_).mono ?_; (first | assumption | (simp [*]; done)); rintro e w' ⟨rfl, rfl⟩)
    | (go_at_call 64; refine (Q8.out _ ?_ (by exact T0)).mono ?_; (first | assumption | (simp [*]; done)); rintro e w2 ⟨⟨A', c', rfl, o2, o3, j1, j2⟩, T2, y0, y5, y6, y7⟩; have t0 := T2.cell (i := 0) rfl; have t1 := T2.cell (i := 1) rfl; have t2 := T2.cell (i := 2) rfl; have t3 := T2.cell (i := 3) rfl; have t4 := T2.cell (i := 4) rfl; have t5 := T2.cell (i := 5) rfl; have tf := T2.frozen))
  go_wp2
  refine bodyPost_ret (v := .agg #[.int .i64 (fK p), .int .i64 (fS p), .int .i64 (fA p), .int .i64 (fM p), .bool (fL p), .slice A' (minK p) c']) (by simp [results, Try.results46, go_sem, t0, t1, t2, t3, t4, t5]) rfl ?_
  refine ⟨⟨A', c', rfl, ?_, j1, j2⟩, ((((((y7.setCell (by simp) _).setCell (by simp) _).setCell (by simp) _).setCell (by simp) _).setCell (by simp) _).setCell (by simp) _)⟩
  refine ((((((o3.far ?_ _).far ?_ _).far ?_ _).far ?_ _).far ?_ _).far ?_ _).mono (Nat.le_succ _)
  all_goals simp

theorem decOk_min {p : List Int} (h : By p) (hl : p.length = 44) : decOk p = decB p (minK p) := by
  have hz := fZ_bd h
  unfold decOk minK
  by_cases h32 : fZ p ≤ 32
  · rw [if_pos h32, decide_eq_true h32]; simp
  · rw [if_neg h32, decide_eq_false h32]
    cases hb : decB p 32
    · simp
    · have e := fZ_of (fB_len hl 32 (by omega)) hb
      omega
theorem minK_of {p : List Int} (hl : p.length = 44) (hd : decB p (minK p) = true) : minK p = (fZ p).toNat := by
  have e := fZ_of (fB_len hl (minK p) (by have := minK_le p; omega)) hd
  omega

set_option maxHeartbeats 1000000 in
theorem implDecodeCell_len (A : Option Addr) (n c : Nat) (p : List Int) (w : World) (h : ¬ n = 44) :
    Calls Try.prog 13 #[.slice A n c] w (DecAns 2 false p w) := by
  have hb : ((n : Int) != 44) = true := by rw [bne_iff_ne]; omega
  go_enter Try.func13, Try.ntmps13
  go_wp2
  refine bodyPost_ret (v := .agg #[.int .i64 2, .int .i64 0, .int .i64 0, .int .i64 0, .int .i64 0, .int .i64 0, .bool false, .slice none 0 0]) (by simp [results, Try.results13, go_sem]) rfl ?_
  exact DecAns.no rfl (by go_grown)

set_option maxHeartbeats 2000000 in
theorem implDecodeCell_bad (g c : Nat) (p : List Int) (w : World) (hp : Bs w (some ⟨g, 0, none⟩) 44 p) (hc : 44 ≤ c) (h0 : ¬ cellC (fK p) (fS p) (fA p) (fM p) (fL p) (minK p) = 0) (hkk : True) :
    Calls Try.prog 13 #[.slice (some ⟨g, 0, none⟩) 44 c] w (DecAns 5 false p w) := by
  have T0 := Stc.new w 32 [.int .i64 0, .int .i64 0, .int .i64 0, .int .i64 0, .int .i64 0, .int .i64 0, .bool false, .slice none 0 0] _ rfl
  have B0 := ab (Below.refl _ w) (.cells #[.int .i64 0, .int .i64 0, .int .i64 0, .int .i64 0, .int .i64 0, .int .i64 0, .bool false, .slice none 0 0] 32)
  have HR := Shut.mk (fun W (hW : Below w.heap.size w W) => readCell_any g c p W (hp.below hW) hc)
  have HS := Shut.mk (fun W (hW : Below w.heap.size w W) (A0 : Option Addr) (d0 : Nat) (E : List Int) (ho : Bs W A0 44 E) => implSameBytes_any A0 (some ⟨g, 0, none⟩) 44 d0 44 c E p W ho (hp.below hW))
  have HL := Shut.mk (fB_len hp.len (minK p) (by have := minK_le p; omega))
  have hk := minK_le p
  have HE := Shut.mk (fun (A' : Option Addr) (c' : Nat) (W : World) (h : Bs W A' (minK p) (fB p (minK p))) => implEncodeCell_any (fK p) (fS p) (fA p) (fM p) (fL p) A' (minK p) c' (fB p (minK p)) W h)
  generalize hCC : cellC (fK p) (fS p) (fA p) (fM p) (fL p) (minK p) = C at *
  generalize hEE : cellL (fK p) (fS p) (fA p) (fM p) (fL p) (fB p (minK p)) = E at *
  have HKk := Shut.mk hkk
  clear hCC hEE hkk hp
  generalize minK p = k at *
  go_enter Try.func13, Try.ntmps13
  go_wp2_with fail
  refine (HR.out _ B0).mono ?_
  rintro e w1 ⟨⟨A', c', rfl, o1, j1, j2⟩, b1⟩
  have B1 := ac B0 b1
  replace T0 := T0.below b1 T0.lt
  have z1 := T0.lt
  have o1' := o1.mono (C := w.heap.size + 1) (by simp)
  clear o1 b1 B0
  go_wp2_with fail
  refine (HE.out A' c' _ (o1'.alloc _).bs).mono ?_
  rintro e w2 ⟨⟨A0, d0, rfl, R0, _, _⟩, b2⟩
  have B2 := ac (ab B1 (.cells #[.int .i64 (fK p), .int .i64 (fS p), .int .i64 (fA p), .int .i64 (fM p), .bool (fL p), .slice A' k c'] 25)) b2
  have D2 := (Stc.new w1 25 [.int .i64 (fK p), .int .i64 (fS p), .int .i64 (fA p), .int .i64 (fM p), .bool (fL p), .slice A' k c'] _ rfl).below b2 (by simp)
  replace T0 := (T0.alloc (.cells #[.int .i64 (fK p), .int .i64 (fS p), .int .i64 (fA p), .int .i64 (fM p), .bool (fL p), .slice A' k c'] 25)).below b2 (by simp; omega)
  have o2 := (o1'.alloc (.cells #[.int .i64 (fK p), .int .i64 (fS p), .int .i64 (fA p), .int .i64 (fM p), .bool (fL p), .slice A' k c'] 25)).below b2 (Nat.le_refl _)
  have z2 := b2.size
  simp only [World.size_alloc] at z2
  clear HE HR B1 o1' b2
  have hx : (C != 0) = true := by simpa using h0
  go_upto_region 6 with (fail)
  generalize hq : (w2.alloc (.cells #[.int .i64 C, .slice A0 (encN C) d0] 28)) = w3 at *
  have D3 : Stc w3 w1.heap.size [.int .i64 (fK p), .int .i64 (fS p), .int .i64 (fA p), .int .i64 (fM p), .bool (fL p), .slice A' k c'] 25 := by rw [← hq]; exact D2.alloc _
  have T3 : Stc w3 w.heap.size [.int .i64 0, .int .i64 0, .int .i64 0, .int .i64 0, .int .i64 0, .int .i64 0, .bool false, .slice none 0 0] 32 := by rw [← hq]; exact T0.alloc _
  have B3 : Below w.heap.size w w3 := by rw [← hq]; exact ab B2 _
  have o3 : Ow w3 (w.heap.size + 1) A' k (fB p k) := by rw [← hq]; exact o2.alloc _
  clear hq
  have t0 := T3.cell (i := 0) rfl
  have t1 := T3.cell (i := 1) rfl
  have t2 := T3.cell (i := 2) rfl
  have t3 := T3.cell (i := 3) rfl
  have t4 := T3.cell (i := 4) rfl
  have t5 := T3.cell (i := 5) rfl
  have t6 := T3.cell (i := 6) rfl
  have t7 := T3.cell (i := 7) rfl
  have tf := T3.frozen
  have d0 := D3.cell (i := 0) rfl
  have d1 := D3.cell (i := 1) rfl
  have d2 := D3.cell (i := 2) rfl
  have d3 := D3.cell (i := 3) rfl
  have d4 := D3.cell (i := 4) rfl
  have d5 := D3.cell (i := 5) rfl
  go_wp2
  refine bodyPost_ret (v := .agg #[.int .i64 5, .int .i64 0, .int .i64 0, .int .i64 0, .int .i64 0, .int .i64 0, .bool false, .slice none 0 0]) (by simp [results, Try.results13, go_sem, t0, t1, t2, t3, t4, t5, t6, t7]) rfl ?_
  exact DecAns.no rfl ((((((((B3.setCell (by simp) _).setCell (by simp) _).setCell (by simp) _).setCell (by simp) _).setCell (by simp) _).setCell (by simp) _).setCell (by simp) _).setCell (by simp) _)

set_option maxHeartbeats 2000000 in
theorem implDecodeCell_other (g c : Nat) (p : List Int) (w : World) (hp : Bs w (some ⟨g, 0, none⟩) 44 p) (hc : 44 ≤ c) (h0 : cellC (fK p) (fS p) (fA p) (fM p) (fL p) (minK p) = 0) (h1 : ¬ cellL (fK p) (fS p) (fA p) (fM p) (fL p) (fB p (minK p)) = p) (hkk : True) :
    Calls Try.prog 13 #[.slice (some ⟨g, 0, none⟩) 44 c] w (DecAns 5 false p w) := by
  have T0 := Stc.new w 32 [.int .i64 0, .int .i64 0, .int .i64 0, .int .i64 0, .int .i64 0, .int .i64 0, .bool false, .slice none 0 0] _ rfl
  have B0 := ab (Below.refl _ w) (.cells #[.int .i64 0, .int .i64 0, .int .i64 0, .int .i64 0, .int .i64 0, .int .i64 0, .bool false, .slice none 0 0] 32)
  have HR := Shut.mk (fun W (hW : Below w.heap.size w W) => readCell_any g c p W (hp.below hW) hc)
  have HS := Shut.mk (fun W (hW : Below w.heap.size w W) (A0 : Option Addr) (d0 : Nat) (E : List Int) (ho : Bs W A0 44 E) => implSameBytes_any A0 (some ⟨g, 0, none⟩) 44 d0 44 c E p W ho (hp.below hW))
  have HL := Shut.mk (fB_len hp.len (minK p) (by have := minK_le p; omega))
  have hk := minK_le p
  have HE := Shut.mk (fun (A' : Option Addr) (c' : Nat) (W : World) (h : Bs W A' (minK p) (fB p (minK p))) => implEncodeCell_any (fK p) (fS p) (fA p) (fM p) (fL p) A' (minK p) c' (fB p (minK p)) W h)
  generalize hCC : cellC (fK p) (fS p) (fA p) (fM p) (fL p) (minK p) = C at *
  generalize hEE : cellL (fK p) (fS p) (fA p) (fM p) (fL p) (fB p (minK p)) = E at *
  have HKk := Shut.mk hkk
  clear hCC hEE hkk hp
  generalize minK p = k at *
  go_enter Try.func13, Try.ntmps13
  go_wp2_with fail
  refine (HR.out _ B0).mono ?_
  rintro e w1 ⟨⟨A', c', rfl, o1, j1, j2⟩, b1⟩
  have B1 := ac B0 b1
  replace T0 := T0.below b1 T0.lt
  have z1 := T0.lt
  have o1' := o1.mono (C := w.heap.size + 1) (by simp)
  clear o1 b1 B0
  go_wp2_with fail
  refine (HE.out A' c' _ (o1'.alloc _).bs).mono ?_
  rintro e w2 ⟨⟨A0, d0, rfl, R0, _, _⟩, b2⟩
  have B2 := ac (ab B1 (.cells #[.int .i64 (fK p), .int .i64 (fS p), .int .i64 (fA p), .int .i64 (fM p), .bool (fL p), .slice A' k c'] 25)) b2
  have D2 := (Stc.new w1 25 [.int .i64 (fK p), .int .i64 (fS p), .int .i64 (fA p), .int .i64 (fM p), .bool (fL p), .slice A' k c'] _ rfl).below b2 (by simp)
  replace T0 := (T0.alloc (.cells #[.int .i64 (fK p), .int .i64 (fS p), .int .i64 (fA p), .int .i64 (fM p), .bool (fL p), .slice A' k c'] 25)).below b2 (by simp; omega)
  have o2 := (o1'.alloc (.cells #[.int .i64 (fK p), .int .i64 (fS p), .int .i64 (fA p), .int .i64 (fM p), .bool (fL p), .slice A' k c'] 25)).below b2 (Nat.le_refl _)
  have z2 := b2.size
  simp only [World.size_alloc] at z2
  clear HE HR B1 o1' b2
  subst h0
  have hd : decide (E = p) = false := by simpa using h1
  have Hd := Shut.mk hd
  clear hd h1
  go_wp2_with fail
  refine (HS.out _ (ab B2 _) A0 d0 E (R0.head.alloc _).bs).mono ?_
  rintro e w5 ⟨rfl, rfl⟩
  rw [Hd.out]
  go_upto_region 6 with (fail)
  generalize hq : (w2.alloc (.cells #[.int .i64 0, .slice A0 (encN 0) d0] 28)) = w3 at *
  have D3 : Stc w3 w1.heap.size [.int .i64 (fK p), .int .i64 (fS p), .int .i64 (fA p), .int .i64 (fM p), .bool (fL p), .slice A' k c'] 25 := by rw [← hq]; exact D2.alloc _
  have T3 : Stc w3 w.heap.size [.int .i64 0, .int .i64 0, .int .i64 0, .int .i64 0, .int .i64 0, .int .i64 0, .bool false, .slice none 0 0] 32 := by rw [← hq]; exact T0.alloc _
  have B3 : Below w.heap.size w w3 := by rw [← hq]; exact ab B2 _
  have o3 : Ow w3 (w.heap.size + 1) A' k (fB p k) := by rw [← hq]; exact o2.alloc _
  clear hq
  have t0 := T3.cell (i := 0) rfl
  have t1 := T3.cell (i := 1) rfl
  have t2 := T3.cell (i := 2) rfl
  have t3 := T3.cell (i := 3) rfl
  have t4 := T3.cell (i := 4) rfl
  have t5 := T3.cell (i := 5) rfl
  have t6 := T3.cell (i := 6) rfl
  have t7 := T3.cell (i := 7) rfl
  have tf := T3.frozen
  have d0 := D3.cell (i := 0) rfl
  have d1 := D3.cell (i := 1) rfl
  have d2 := D3.cell (i := 2) rfl
  have d3 := D3.cell (i := 3) rfl
  have d4 := D3.cell (i := 4) rfl
  have d5 := D3.cell (i := 5) rfl
  go_wp2
  refine bodyPost_ret (v := .agg #[.int .i64 5, .int .i64 0, .int .i64 0, .int .i64 0, .int .i64 0, .int .i64 0, .bool false, .slice none 0 0]) (by simp [results, Try.results13, go_sem, t0, t1, t2, t3, t4, t5, t6, t7]) rfl ?_
  exact DecAns.no rfl ((((((((B3.setCell (by simp) _).setCell (by simp) _).setCell (by simp) _).setCell (by simp) _).setCell (by simp) _).setCell (by simp) _).setCell (by simp) _).setCell (by simp) _)

set_option maxHeartbeats 2000000 in
theorem implDecodeCell_ok (g c : Nat) (p : List Int) (w : World) (hp : Bs w (some ⟨g, 0, none⟩) 44 p) (hc : 44 ≤ c) (h0 : cellC (fK p) (fS p) (fA p) (fM p) (fL p) (minK p) = 0) (h1 : cellL (fK p) (fS p) (fA p) (fM p) (fL p) (fB p (minK p)) = p) (hkk : minK p = (fZ p).toNat) :
    Calls Try.prog 13 #[.slice (some ⟨g, 0, none⟩) 44 c] w (DecAns 0 true p w) := by
  have T0 := Stc.new w 32 [.int .i64 0, .int .i64 0, .int .i64 0, .int .i64 0, .int .i64 0, .int .i64 0, .bool false, .slice none 0 0] _ rfl
  have B0 := ab (Below.refl _ w) (.cells #[.int .i64 0, .int .i64 0, .int .i64 0, .int .i64 0, .int .i64 0, .int .i64 0, .bool false, .slice none 0 0] 32)
  have HR := Shut.mk (fun W (hW : Below w.heap.size w W) => readCell_any g c p W (hp.below hW) hc)
  have HS := Shut.mk (fun W (hW : Below w.heap.size w W) (A0 : Option Addr) (d0 : Nat) (E : List Int) (ho : Bs W A0 44 E) => implSameBytes_any A0 (some ⟨g, 0, none⟩) 44 d0 44 c E p W ho (hp.below hW))
  have HL := Shut.mk (fB_len hp.len (minK p) (by have := minK_le p; omega))
  have hk := minK_le p
  have HE := Shut.mk (fun (A' : Option Addr) (c' : Nat) (W : World) (h : Bs W A' (minK p) (fB p (minK p))) => implEncodeCell_any (fK p) (fS p) (fA p) (fM p) (fL p) A' (minK p) c' (fB p (minK p)) W h)
  generalize hCC : cellC (fK p) (fS p) (fA p) (fM p) (fL p) (minK p) = C at *
  generalize hEE : cellL (fK p) (fS p) (fA p) (fM p) (fL p) (fB p (minK p)) = E at *
  have HKk := Shut.mk hkk
  clear hCC hEE hkk hp
  generalize minK p = k at *
  go_enter Try.func13, Try.ntmps13
  go_wp2_with fail
  refine (HR.out _ B0).mono ?_
  rintro e w1 ⟨⟨A', c', rfl, o1, j1, j2⟩, b1⟩
  have B1 := ac B0 b1
  replace T0 := T0.below b1 T0.lt
  have z1 := T0.lt
  have o1' := o1.mono (C := w.heap.size + 1) (by simp)
  clear o1 b1 B0
  go_wp2_with fail
  refine (HE.out A' c' _ (o1'.alloc _).bs).mono ?_
  rintro e w2 ⟨⟨A0, d0, rfl, R0, _, _⟩, b2⟩
  have B2 := ac (ab B1 (.cells #[.int .i64 (fK p), .int .i64 (fS p), .int .i64 (fA p), .int .i64 (fM p), .bool (fL p), .slice A' k c'] 25)) b2
  have D2 := (Stc.new w1 25 [.int .i64 (fK p), .int .i64 (fS p), .int .i64 (fA p), .int .i64 (fM p), .bool (fL p), .slice A' k c'] _ rfl).below b2 (by simp)
  replace T0 := (T0.alloc (.cells #[.int .i64 (fK p), .int .i64 (fS p), .int .i64 (fA p), .int .i64 (fM p), .bool (fL p), .slice A' k c'] 25)).below b2 (by simp; omega)
  have o2 := (o1'.alloc (.cells #[.int .i64 (fK p), .int .i64 (fS p), .int .i64 (fA p), .int .i64 (fM p), .bool (fL p), .slice A' k c'] 25)).below b2 (Nat.le_refl _)
  have z2 := b2.size
  simp only [World.size_alloc] at z2
  clear HE HR B1 o1' b2
  subst h0
  have hd : decide (E = p) = true := by simpa using h1
  have Hd := Shut.mk hd
  clear hd h1
  go_wp2_with fail
  refine (HS.out _ (ab B2 _) A0 d0 E (R0.head.alloc _).bs).mono ?_
  rintro e w5 ⟨rfl, rfl⟩
  rw [Hd.out]
  go_upto_region 7 with (fail)
  generalize hq : (w2.alloc (.cells #[.int .i64 0, .slice A0 (encN 0) d0] 28)) = w3 at *
  have D3 : Stc w3 w1.heap.size [.int .i64 (fK p), .int .i64 (fS p), .int .i64 (fA p), .int .i64 (fM p), .bool (fL p), .slice A' k c'] 25 := by rw [← hq]; exact D2.alloc _
  have T3 : Stc w3 w.heap.size [.int .i64 0, .int .i64 0, .int .i64 0, .int .i64 0, .int .i64 0, .int .i64 0, .bool false, .slice none 0 0] 32 := by rw [← hq]; exact T0.alloc _
  have B3 : Below w.heap.size w w3 := by rw [← hq]; exact ab B2 _
  have o3 : Ow w3 (w.heap.size + 1) A' k (fB p k) := by rw [← hq]; exact o2.alloc _
  clear hq
  have t0 := T3.cell (i := 0) rfl
  have t1 := T3.cell (i := 1) rfl
  have t2 := T3.cell (i := 2) rfl
  have t3 := T3.cell (i := 3) rfl
  have t4 := T3.cell (i := 4) rfl
  have t5 := T3.cell (i := 5) rfl
  have t6 := T3.cell (i := 6) rfl
  have t7 := T3.cell (i := 7) rfl
  have tf := T3.frozen
  have d0 := D3.cell (i := 0) rfl
  have d1 := D3.cell (i := 1) rfl
  have d2 := D3.cell (i := 2) rfl
  have d3 := D3.cell (i := 3) rfl
  have d4 := D3.cell (i := 4) rfl
  have d5 := D3.cell (i := 5) rfl
  go_wp2
  refine bodyPost_ret (v := .agg #[.int .i64 0, .int .i64 0, .int .i64 (fK p), .int .i64 (fS p), .int .i64 (fA p), .int .i64 (fM p), .bool (fL p), .slice A' k c']) (by simp [results, Try.results13, go_sem, t0, t1, t2, t3, t4, t5, t6, t7]) rfl ?_
  refine ⟨⟨A', c', by simp [selI, selB, selN, ← HKk.out], ?_, by simpa [selN, ← HKk.out] using j1, j2⟩, ((((((((B3.setCell (by simp) _).setCell (by simp) _).setCell (by simp) _).setCell (by simp) _).setCell (by simp) _).setCell (by simp) _).setCell (by simp) _).setCell (by simp) _)⟩
  simp only [selN, selL, if_pos, ← HKk.out]
  refine Rs.one (((((((((o3.far ?_ _).far ?_ _).far ?_ _).far ?_ _).far ?_ _).far ?_ _).far ?_ _).far ?_ _).mono (Nat.le_succ _))
  all_goals simp

theorem DecAns.rs {C : Int} {b : Bool} {p : List Int} {w : World} {e : Ending} {w' : World} (h : DecAns C b p w e w') :
    (∃ A0 d0, e = .returned (.agg #[.int .i64 C, .int .i64 0, .int .i64 (selI b (fK p)), .int .i64 (selI b (fS p)), .int .i64 (selI b (fA p)), .int .i64 (selI b (fM p)), .bool (selB b (fL p)), .slice A0 (selN b (fZ p).toNat) d0]) ∧ Rs w' w.heap.size [(A0, selN b (fZ p).toNat, selL b (fB p (fZ p).toNat))]) ∧ Below w.heap.size w w' :=
  ⟨by obtain ⟨A0, d0, h1, h2, _⟩ := h.1; exact ⟨A0, d0, h1, h2⟩, h.2⟩
theorem selN_le {p : List Int} (h : By p) (b : Bool) : selN b (fZ p).toNat ≤ 2000000 := by
  have := fZ_bd h
  unfold selN
  split <;> omega

theorem implDecodeCell_any (g n c : Nat) (p : List Int) (w : World) (hp : Bs w (some ⟨g, 0, none⟩) n p) (hc : n ≤ c) :
    Calls Try.prog 13 #[.slice (some ⟨g, 0, none⟩) n c] w (DecAns (decCode n p) (decD n p) p w) := by
  by_cases h : n = 44
  · subst h
    have e4 : decD 44 p = decB p (minK p) := by rw [← decOk_min hp.byte hp.len]; simp [decD]
    have e5 : decCode 44 p = (if decB p (minK p) = true then 0 else 5) := by rw [← decOk_min hp.byte hp.len]; simp [decCode]
    rw [e4, e5]
    by_cases h0 : cellC (fK p) (fS p) (fA p) (fM p) (fL p) (minK p) = 0
    · by_cases h1 : cellL (fK p) (fS p) (fA p) (fM p) (fL p) (fB p (minK p)) = p
      · have hb : decB p (minK p) = true := by simp [decB, h0, h1]
        have hm := minK_of hp.len hb
        rw [hb]
        exact implDecodeCell_ok g c p w hp hc h0 h1 hm
      · have hb : decB p (minK p) = false := by simp [decB, h1]
        rw [hb]
        exact implDecodeCell_other g c p w hp hc h0 h1 trivial
    · have hb : decB p (minK p) = false := by simp [decB, h0]
      rw [hb]
      exact implDecodeCell_bad g c p w hp hc h0 trivial
  · have e1 : decCode n p = 2 := by simp [decCode, h]
    have e2 : decD n p = false := by simp [decD, h]
    rw [e1, e2]
    exact implDecodeCell_len _ n c p w h
end Go.Proofs.Ytpoiecdifhkegaa
