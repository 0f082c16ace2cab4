/- A cell read back from its text, of the model. -/
import Derived.Test.YtpoiecdifhkegaaDecM
import Derived.Deep.RegionWith
namespace Go.Proofs.Ytpoiecdifhkegaa
open Go.RowKit

theorem Row.farX {w : World} {B : Nat} {v : Value} {l : List Int} (h : Row w B v l) {p : Addr} (hp : p.block < B) (u : Value) : Row (w.setCell p u) B v l := h.keep (fun g h1 _ => Below.heap_setCell w p u g (by omega))
theorem Stc.after {w w' : World} {b B : Nat} {l : List Value} {t : TypeId} (hb : Below B w w') (h : Stc w b l t) (hl : b < B) : Stc w' b l t := h.below hb hl
theorem Row.after {w w' : World} {B C : Nat} {v : Value} {l : List Int} (hb : Below C w w') (h : Row w B v l) (hC : w.heap.size ≤ C) : Row w' B v l := h.belowR hb hC
theorem Row.drewR {w : World} {B : Nat} {v : Value} {l : List Int} (h : Row w B v l) : Row w.drew B v l := ⟨h.byte, h.own⟩

theorem cellC_cod (a b c d : Int) (v : Bool) (n : Nat) : cellC a b c d v n = 0 ∨ cellC a b c d v n = 1 ∨ cellC a b c d v n = 2 ∨ cellC a b c d v n = 3 := by
  unfold cellC
  split
  · simp
  · split
    · split <;> simp
    · simp

set_option maxRecDepth 100000 in
set_option maxHeartbeats 4000000 in
/-- a text's fields, and its size; what is left to do stands in Q -/
theorem l6Decode_le (g c : Nat) (p : List Int) (w : World) (hp : Bs w (some ⟨g, 0, none⟩) 44 p) (hc : 44 ≤ c) (k : Nat) (hz : fZ p = (k : Int)) (hk : k ≤ 32) :
    Calls Try.prog 50 #[.slice (some ⟨g, 0, none⟩) 44 c] w fun e w' => (∃ A' c', e = .returned (.tuple #[.agg #[.int .i64 (fK p), .int .i64 (fS p), .int .i64 (fA p), .int .i64 (fM p), .bool (fL p), .slice A' k c'], .bool (decB p k)]) ∧ Row w' w.heap.size (.slice A' k c') (fB p k)) ∧ Below w.heap.size w w' := by
  have c1 : (3 : Int) ≤ (c : Int) := by omega
  have c2 : (5 : Int) ≤ (c : Int) := by omega
  have c3 : ¬ c = 1 := by omega
  have c4 : ¬ c = 3 := by omega
  obtain ⟨b', off', e, hg, hcell⟩ := hp.at_ (by omega)
  injection e with e
  injection e with e1 e2
  subst e1
  subst e2
  have k0 : w.cell? ⟨g, 0, none⟩ = some (.int .u8 (fK p)) := hcell 0 (by omega)
  have k5 : w.cell? ⟨g, 5, none⟩ = some (.int .u8 (fM p)) := hcell 5 (by omega)
  have k6 : w.cell? ⟨g, 6, none⟩ = some (.int .u8 (p.getD 6 0)) := hcell 6 (by omega)
  have k7 : w.cell? ⟨g, 7, none⟩ = some (.int .u8 (fZ p)) := hcell 7 (by omega)
  have X0 : 0 ≤ fK p ∧ fK p < 256 := By.get hp.byte 0
  have X5 : 0 ≤ fM p ∧ fM p < 256 := By.get hp.byte 5
  have X7 : 0 ≤ fZ p ∧ fZ p < 256 := By.get hp.byte 7
  obtain ⟨X0a, X0b⟩ := X0
  obtain ⟨X5a, X5b⟩ := X5
  have i0 : IntKind.i64.wrap (fK p) = fK p := IntWalk.i64_in _ (by omega)
  have i5 : IntKind.i64.wrap (fM p) = fM p := IntWalk.i64_in _ (by omega)
  rw [hz] at k7 X7
  have hk7 : k < 256 := by omega
  have L6 : Shut ((p.getD 6 0 == 1) = fL p) := ⟨by unfold fL; rw [Bool.eq_iff_iff]; simp⟩
  have l6 := L6.out
  generalize p.getD 6 0 = Y at *
  have q1 := fun W (h : W.cell? ⟨g, 0, none⟩ = some (.int .u8 (fK p)) ∧ W.cell? ⟨g, 5, none⟩ = some (.int .u8 (fM p)) ∧ W.cell? ⟨g, 6, none⟩ = some (.int .u8 Y) ∧ Below w.heap.size w W) => specl1ReadHigh_any _ 2 (c - 1) _ W ((hp.below h.2.2.2).part_ 1 2 (by omega)) (by omega)
  have q3 := fun W (h : W.cell? ⟨g, 0, none⟩ = some (.int .u8 (fK p)) ∧ W.cell? ⟨g, 5, none⟩ = some (.int .u8 (fM p)) ∧ W.cell? ⟨g, 6, none⟩ = some (.int .u8 Y) ∧ Below w.heap.size w W) => specl1ReadHigh_any _ 2 (c - 3) _ W ((hp.below h.2.2.2).part_ 3 2 (by omega)) (by omega)
  simp only [Nat.zero_add] at q1 q3
  have Q1 : Shut (∀ W : World, (W.cell? ⟨g, 0, none⟩ = some (.int .u8 (fK p)) ∧ W.cell? ⟨g, 5, none⟩ = some (.int .u8 (fM p)) ∧ W.cell? ⟨g, 6, none⟩ = some (.int .u8 Y) ∧ Below w.heap.size w W) → Calls Try.prog 58 #[.slice (some ⟨g, 1, none⟩) 2 (c - 1)] W fun e w' => e = .returned (.int .i64 (fS p)) ∧ W = w') := ⟨q1⟩
  have Q3 : Shut (∀ W : World, (W.cell? ⟨g, 0, none⟩ = some (.int .u8 (fK p)) ∧ W.cell? ⟨g, 5, none⟩ = some (.int .u8 (fM p)) ∧ W.cell? ⟨g, 6, none⟩ = some (.int .u8 Y) ∧ Below w.heap.size w W) → Calls Try.prog 58 #[.slice (some ⟨g, 3, none⟩) 2 (c - 3)] W fun e w' => e = .returned (.int .i64 (fA p)) ∧ W = w') := ⟨q3⟩
  have B0 := ab (Below.refl _ w) (.cells #[.int .i64 0, .int .i64 0, .int .i64 0, .int .i64 0, .bool false, .slice none 0 0] 25)
  have m0 := cell_past (.cells #[.int .i64 0, .int .i64 0, .int .i64 0, .int .i64 0, .bool false, .slice none 0 0] 25) k0
  have m5 := cell_past (.cells #[.int .i64 0, .int .i64 0, .int .i64 0, .int .i64 0, .bool false, .slice none 0 0] 25) k5
  have m6 := cell_past (.cells #[.int .i64 0, .int .i64 0, .int .i64 0, .int .i64 0, .bool false, .slice none 0 0] 25) k6
  clear hcell q1 q3 L6 hz
  go_enter Try.func50, Try.ntmps50
  go_wp2_with fail
  go_cut [4] from 6 to 24 (fun s wx => s = .pointer (some ⟨w.heap.size + 1, 0, none⟩) ∧ Stc wx w.heap.size [.int .i64 0, .int .i64 0, .int .i64 0, .int .i64 0, .bool false, .slice none 0 0] 25 ∧ Stc wx (w.heap.size + 1) [.int .i64 (fK p), .int .i64 (fS p), .int .i64 (fA p), .int .i64 (fM p), .bool (fL p), .slice none 0 0] 25 ∧ Below w.heap.size w wx)
  case first =>
    go_region_held3 (fun W => W.cell? ⟨g, 0, none⟩ = some (.int .u8 (fK p)) ∧ W.cell? ⟨g, 5, none⟩ = some (.int .u8 (fM p)) ∧ W.cell? ⟨g, 6, none⟩ = some (.int .u8 Y) ∧ Below w.heap.size w W)
      (first | (exact ⟨by assumption, by assumption, by assumption, by assumption⟩) | (exact ⟨m0, m5, m6, B0.drew⟩) | (exact ⟨cell_past _ m0, cell_past _ m5, cell_past _ m6, (ab B0 _).drew⟩) | go_keep)
      (first
      | (go_at_call_of 58 (some (⟨g, 1, none⟩ : Addr)); refine (Q1.out _ ?_).mono ?_; (first | assumption | (simp [*]; done)); rintro e w' ⟨rfl, rfl⟩)
      | (go_at_call_of 58 (some (⟨g, 3, none⟩ : Addr)); refine (Q3.out _ ?_).mono ?_; (first | assumption | (simp [*]; done)); rintro e w' ⟨rfl, rfl⟩))
    all_goals
      go_wp2_with fail
      go_meet
      refine ⟨rfl, ?_, ?_, (ab B0 _).drew⟩
      · exact (Stc.new w 25 [.int .i64 0, .int .i64 0, .int .i64 0, .int .i64 0, .bool false, .slice none 0 0] _ rfl).alloc _
      · have h := Stc.new (w.alloc (.cells #[.int .i64 0, .int .i64 0, .int .i64 0, .int .i64 0, .bool false, .slice none 0 0] 25)) 25 [.int .i64 (fK p), .int .i64 (fS p), .int .i64 (fA p), .int .i64 (fM p), .bool (fL p), .slice none 0 0] _ rfl
        rw [World.size_alloc] at h
        exact h
  case rest =>
    obtain ⟨rfl, T0, D0, Bc⟩ := hcut
    have m7 := (Bc.cell (p := ⟨g, 7, none⟩) hg).trans k7
    have hpc := hp.below Bc
    have zc := Bc.size
    have c5 : ¬ c = 8 := by omega
    clear Q1 Q3 B0 m0 m5 m6 k0 k5 k6 k7 c1 c2 c3 c4
    have hk' : ¬ (32 : Int) < (k : Int) := by omega
    have h8 : (8 : Int) + (k : Int) ≤ (c : Int) := by omega
    go_wp2_with fail
    refine (copyb_any (some ⟨g, 8, none⟩) k (c - 8) (fB p k) _ (by have h := hpc.part_ 8 k (by omega); rw [Nat.zero_add] at h; exact h) (fun e => by cases e) (by omega)).mono ?_
    rintro e w5 ⟨⟨A', c', rfl, r5⟩, b5⟩
    have B5 := ac Bc b5
    have D5 := D0.below b5 D0.lt
    have T5 := T0.below b5 T0.lt
    have x5 := D5.cell (i := 5) rfl
    have f5 := D5.frozen 5
    have Lb : Shut ((fB p k).length = k) := ⟨fB_len hp.len k (by omega)⟩
    have zd := D0.lt
    clear b5 m7 T0 D0 h8
    go_wp2_with fail
    have D6 := D5.set_ (i := 5) (.slice A' k c')
    simp only [List.set_cons_zero, List.set_cons_succ] at D6
    have T6 := T5.far (p := ⟨w.heap.size + 1, 5, none⟩) (by simp) (.slice A' k c')
    have r6 := r5.farX (p := ⟨w.heap.size + 1, 5, none⟩) zd (.slice A' k c')
    have B6 := B5.setCell (p := ⟨w.heap.size + 1, 5, none⟩) (by simp) (.slice A' k c')
    generalize hw6 : w5.setCell ⟨w.heap.size + 1, 5, none⟩ (.slice A' k c') = w6 at *
    clear hw6 D5 T5 B5 r5 x5 f5
    have x0 := D6.cell (i := 0) rfl
    have x1 := D6.cell (i := 1) rfl
    have x2 := D6.cell (i := 2) rfl
    have x3 := D6.cell (i := 3) rfl
    have x4 := D6.cell (i := 4) rfl
    have x5 := D6.cell (i := 5) rfl
    have HC : Shut (∀ W : World, (W.cell? ⟨w.heap.size + 1, 0, none⟩ = some (.int .i64 (fK p)) ∧ W.cell? ⟨w.heap.size + 1, 1, none⟩ = some (.int .i64 (fS p)) ∧ W.cell? ⟨w.heap.size + 1, 2, none⟩ = some (.int .i64 (fA p)) ∧ W.cell? ⟨w.heap.size + 1, 3, none⟩ = some (.int .i64 (fM p)) ∧ W.cell? ⟨w.heap.size + 1, 4, none⟩ = some (.bool (fL p)) ∧ W.cell? ⟨w.heap.size + 1, 5, none⟩ = some (.slice A' k c') ∧ Row W wc.heap.size (.slice A' k c') (fB p k) ∧ Below w.heap.size w W) → Stc W w.heap.size [.int .i64 0, .int .i64 0, .int .i64 0, .int .i64 0, .bool false, .slice none 0 0] 25 → Stc W (w.heap.size + 1) [.int .i64 (fK p), .int .i64 (fS p), .int .i64 (fA p), .int .i64 (fM p), .bool (fL p), .slice A' k c'] 25 → Calls Try.prog 23 #[.agg #[.int .i64 (fK p), .int .i64 (fS p), .int .i64 (fA p), .int .i64 (fM p), .bool (fL p), .slice A' k c']] W fun e w' => e = .returned (.int .i64 (cellC (fK p) (fS p) (fA p) (fM p) (fL p) k)) ∧ Stc w' w.heap.size [.int .i64 0, .int .i64 0, .int .i64 0, .int .i64 0, .bool false, .slice none 0 0] 25 ∧ Stc w' (w.heap.size + 1) [.int .i64 (fK p), .int .i64 (fS p), .int .i64 (fA p), .int .i64 (fM p), .bool (fL p), .slice A' k c'] 25 ∧ w'.cell? ⟨w.heap.size + 1, 0, none⟩ = some (.int .i64 (fK p)) ∧ w'.cell? ⟨w.heap.size + 1, 1, none⟩ = some (.int .i64 (fS p)) ∧ w'.cell? ⟨w.heap.size + 1, 2, none⟩ = some (.int .i64 (fA p)) ∧ w'.cell? ⟨w.heap.size + 1, 3, none⟩ = some (.int .i64 (fM p)) ∧ w'.cell? ⟨w.heap.size + 1, 4, none⟩ = some (.bool (fL p)) ∧ w'.cell? ⟨w.heap.size + 1, 5, none⟩ = some (.slice A' k c') ∧ Row w' wc.heap.size (.slice A' k c') (fB p k) ∧ Below w.heap.size w w') := by
      refine ⟨fun W ⟨z0, z1, z2, z3, z4, z5, z6, z7⟩ hT hD => (specCellFault_any _ _ _ _ _ _ _ _ W).mono ?_⟩
      rintro e w' ⟨rfl, hb⟩
      have D7 := hD.below hb hD.lt
      exact ⟨rfl, hT.below hb hT.lt, D7, D7.cell (i := 0) rfl, D7.cell (i := 1) rfl, D7.cell (i := 2) rfl, D7.cell (i := 3) rfl, D7.cell (i := 4) rfl, D7.cell (i := 5) rfl, z6.belowR hb (Nat.le_refl _), ac z7 hb⟩
    have zb : w.heap.size < wc.heap.size := by omega
    have zm : w.heap.size ≤ wc.heap.size := Nat.le_of_lt zb
    by_cases h0 : cellC (fK p) (fS p) (fA p) (fM p) (fL p) k = 0
    · obtain ⟨⟨ha0, ha1⟩, ⟨hb0, hb1⟩, ⟨hc0, hc1⟩, ⟨hd0, hd1⟩, _, _⟩ := cellC_ok h0
      have Hd : Shut (decB p k = decide (cellL (fK p) (fS p) (fA p) (fM p) (fL p) (fB p k) = p)) := ⟨by unfold decB; simp [h0]⟩
      have LE : Shut ((cellL (fK p) (fS p) (fA p) (fM p) (fL p) (fB p k)).length = 44) := ⟨cellL_len _ _ _ _ _ _ (by rw [Lb.out]; omega)⟩
      have Hb : Shut (((strOfNums (cellL (fK p) (fS p) (fA p) (fM p) (fL p) (fB p k))).toList == (strOfNums p).toList) = decide (cellL (fK p) (fS p) (fA p) (fM p) (fL p) (fB p k) = p)) := ⟨str_beq (cellL_by ha0 ha1 hd0 hd1 (fB_by hp.byte k) (by rw [Lb.out]; exact hk)) hp.byte⟩
      rw [h0] at HC
      clear h0 X7 X0a X0b X5a X5b i0 i5
      refine wp_region_noPanic ?_
      refine wp_region_held_drew (S := fun W => W.cell? ⟨w.heap.size + 1, 0, none⟩ = some (.int .i64 (fK p)) ∧ W.cell? ⟨w.heap.size + 1, 1, none⟩ = some (.int .i64 (fS p)) ∧ W.cell? ⟨w.heap.size + 1, 2, none⟩ = some (.int .i64 (fA p)) ∧ W.cell? ⟨w.heap.size + 1, 3, none⟩ = some (.int .i64 (fM p)) ∧ W.cell? ⟨w.heap.size + 1, 4, none⟩ = some (.bool (fL p)) ∧ W.cell? ⟨w.heap.size + 1, 5, none⟩ = some (.slice A' k c') ∧ Row W wc.heap.size (.slice A' k c') (fB p k) ∧ Below w.heap.size w W) (by kernel_rfl) ?_ (fun hHeld => ?_)
      · exact ⟨x0, x1, x2, x3, x4, x5, r6.drewR, B6.drew⟩
      refine wpAnyH_take (i := 0) (oi := _) (v := .agg #[.int .i64 (fK p), .int .i64 (fS p), .int .i64 (fA p), .int .i64 (fM p), .bool (fL p), .slice A' k c']) rfl (by kernel_rfl) (by kernel_rfl) (by kernel_rfl) (fun _ _ _ h => h) (Or.inl ⟨by rfl, by intro W hSw; obtain ⟨z0, z1, z2, z3, z4, z5, z6, z7⟩ := hSw; go_simp⟩) (by assumption) ?_
      refine wpAnyH_take (i := 1) (oi := _) (v := .agg #[.int .i64 (fK p), .int .i64 (fS p), .int .i64 (fA p), .int .i64 (fM p), .bool (fL p), .slice A' k c']) rfl (by kernel_rfl) (by kernel_rfl) (by kernel_rfl) (fun _ _ _ h => h) (Or.inl ⟨by rfl, by intro W hSw; obtain ⟨z0, z1, z2, z3, z4, z5, z6, z7⟩ := hSw; go_simp⟩) (by assumption) ?_
      refine wpAnyH_ready (rs := [2]) (by kernel_rfl) (by simp) (AllReadyH.cons (o := _) rfl (fun K hK => ?_) AllReadyH.nil)
      rw [if_pos (by rfl)]
      go_simp
      refine (HC.out _ hHeld (by exact T6) (by exact D6)).mono ?_
      rintro e w7 ⟨rfl, T7, D7, hS7⟩
      refine hK.out _ _ hS7 (fun _ => ?_)
      clear hK K hHeld
      refine wpAnyH_take (i := 3) (oi := _) (v := .bool true) rfl (by kernel_rfl) (by kernel_rfl) (by kernel_rfl) (fun _ _ _ h => h) (Or.inl ⟨by rfl, by intro W hSw; obtain ⟨z0, z1, z2, z3, z4, z5, z6, z7⟩ := hSw; go_simp⟩) (by assumption) ?_
      refine wpAnyH_take (i := 4) (oi := _) (v := .bool true) rfl (by kernel_rfl) (by kernel_rfl) (by kernel_rfl) (fun _ _ _ h => h) (Or.inl ⟨by rfl, by intro W hSw; obtain ⟨z0, z1, z2, z3, z4, z5, z6, z7⟩ := hSw; go_simp⟩) (by assumption) ?_
      refine wpAnyH_take (i := 7) (oi := _) (v := .slice (some ⟨g, 0, none⟩) 44 c) rfl (by kernel_rfl) (by kernel_rfl) (by kernel_rfl) (fun _ _ _ h => h) (Or.inl ⟨by rfl, by intro W hSw; obtain ⟨z0, z1, z2, z3, z4, z5, z6, z7⟩ := hSw; go_simp⟩) (by assumption) ?_
      refine wpAnyH_take (i := 8) (oi := _) (v := .string (strOfNums p)) rfl (by kernel_rfl) (by kernel_rfl) (by kernel_rfl) (fun _ _ _ h => h) (Or.inl ⟨by rfl, by intro W hSw; obtain ⟨z0, z1, z2, z3, z4, z5, z6, z7⟩ := hSw; have q := run_str (hp.below z7) c; go_simp⟩) (by assumption) ?_
      refine wpAnyH_ready (rs := [5]) (by kernel_rfl) (by simp) (AllReadyH.cons (o := _) rfl (fun K hK => ?_) AllReadyH.nil)
      rw [if_pos (by rfl)]
      go_simp
      obtain ⟨z0, z1, z2, z3, z4, z5, z6, z7⟩ := hS7
      refine (l6Encode_any (w.heap.size + 1) (fK p) (fS p) (fA p) (fM p) (fL p) A' k c' (fB p k) w7 D7 ((z6.ow' Lb.out).bs) z6.capX.2 ha0 ha1 hb0 hb1 hc0 hc1 hd0 hd1 hk).mono ?_
      rintro e w8 ⟨⟨A2, c2, rfl, r8⟩, b8⟩
      have T8 := T7.below b8 T7.lt
      have D8 := D7.below b8 D7.lt
      have o8 := (r8.ow' LE.out).bs
      have hS8 : (w8.cell? ⟨w.heap.size + 1, 0, none⟩ = some (.int .i64 (fK p)) ∧ w8.cell? ⟨w.heap.size + 1, 1, none⟩ = some (.int .i64 (fS p)) ∧ w8.cell? ⟨w.heap.size + 1, 2, none⟩ = some (.int .i64 (fA p)) ∧ w8.cell? ⟨w.heap.size + 1, 3, none⟩ = some (.int .i64 (fM p)) ∧ w8.cell? ⟨w.heap.size + 1, 4, none⟩ = some (.bool (fL p)) ∧ w8.cell? ⟨w.heap.size + 1, 5, none⟩ = some (.slice A' k c') ∧ Row w8 wc.heap.size (.slice A' k c') (fB p k) ∧ Below w.heap.size w w8) := ⟨D8.cell (i := 0) rfl, D8.cell (i := 1) rfl, D8.cell (i := 2) rfl, D8.cell (i := 3) rfl, D8.cell (i := 4) rfl, D8.cell (i := 5) rfl, z6.belowR b8 (Nat.le_refl _), ac z7 b8⟩
      clear z0 z1 z2 z3 z4 z5 z6 z7
      refine hK.out _ _ hS8 (fun _ => ?_)
      clear hK K
      have zq := T7.lt
      refine wpAnyH_ready (rs := [6, 11]) (by kernel_rfl) (by simp) (AllReadyH.cons (o := _) rfl (fun K hK => ?_) (AllReadyH.cons (o := _) rfl (fun K hK => ?_) AllReadyH.nil))
      · rw [if_pos (by rfl)]
        have s8 := run_str o8 c2
        go_simp
        refine hK.out _ _ hS8 (fun _ => ?_)
        clear hK K
        refine wpAnyH_take (i := 9) (oi := _) (v := .bool ((strOfNums (cellL (fK p) (fS p) (fA p) (fM p) (fL p) (fB p k))).toList == (strOfNums p).toList)) rfl (by kernel_rfl) (by kernel_rfl) (by kernel_rfl) (fun _ _ _ h => h) (Or.inl ⟨by rfl, by intro W hSw; obtain ⟨z0, z1, z2, z3, z4, z5, z6, z7⟩ := hSw; go_simp⟩) (by assumption) ?_
        refine wpAnyH_take (i := 10) (oi := _) (v := .bool ((strOfNums (cellL (fK p) (fS p) (fA p) (fM p) (fL p) (fB p k))).toList == (strOfNums p).toList)) rfl (by kernel_rfl) (by kernel_rfl) (by kernel_rfl) (fun _ _ _ h => h) (Or.inl ⟨by rfl, by intro W hSw; obtain ⟨z0, z1, z2, z3, z4, z5, z6, z7⟩ := hSw; go_simp⟩) (by assumption) ?_
        refine wpAnyH_ready (rs := [11]) (by kernel_rfl) (by simp) (AllReadyH.cons (o := _) rfl (fun K hK => ?_) AllReadyH.nil)
        rw [if_pos (by rfl)]
        have t0 := T8.cell (i := 0) rfl
        have t1 := T8.cell (i := 1) rfl
        have t2 := T8.cell (i := 2) rfl
        have t3 := T8.cell (i := 3) rfl
        have t4 := T8.cell (i := 4) rfl
        have t5 := T8.cell (i := 5) rfl
        have tf := T8.frozen
        go_simp
        obtain ⟨z0, z1, z2, z3, z4, z5, z6, z7⟩ := hS8
        refine hK.out _ _ ⟨?_, ?_, ?_, ?_, ?_, ?_, ((((((z6.farX zb _).farX zb _).farX zb _).farX zb _).farX zb _).farX zb _), ((((((z7.setCell (by simp) _).setCell (by simp) _).setCell (by simp) _).setCell (by simp) _).setCell (by simp) _).setCell (by simp) _)⟩ (fun hS9 => ?_)
        · simp [World.cell?_setCell_far, z0]
        · simp [World.cell?_setCell_far, z1]
        · simp [World.cell?_setCell_far, z2]
        · simp [World.cell?_setCell_far, z3]
        · simp [World.cell?_setCell_far, z4]
        · simp [World.cell?_setCell_far, z5]
        clear hK K
        refine wpAnyH_take (i := 12) (oi := _) (v := .bool ((strOfNums (cellL (fK p) (fS p) (fA p) (fM p) (fL p) (fB p k))).toList == (strOfNums p).toList)) rfl (by kernel_rfl) (by kernel_rfl) (by kernel_rfl) (fun _ _ _ h => h) (Or.inl ⟨by rfl, by intro W hSw; obtain ⟨z0, z1, z2, z3, z4, z5, z6, z7⟩ := hSw; go_simp⟩) (by assumption) ?_
        refine wpAnyH_done (by kernel_rfl) (NoPanic.normal ?_) _
        simp only [List.getElem_toArray, List.getElem_cons_succ, List.getElem_cons_zero, Act.put, List.setIfInBounds_toArray, List.set_cons_zero, List.set_cons_succ]
        go_wp2
        refine bodyPost_ret (v := .tuple #[.agg #[.int .i64 (fK p), .int .i64 (fS p), .int .i64 (fA p), .int .i64 (fM p), .bool (fL p), .slice A' k c'], .bool ((strOfNums (cellL (fK p) (fS p) (fA p) (fM p) (fL p) (fB p k))).toList == (strOfNums p).toList)]) (by simp [results, Try.results50, go_sem, t0, t1, t2, t3, t4, t5]) rfl ?_
        exact ⟨⟨A', c', by rw [Hd.out, ← Hb.out], ((((((z6.farX zb _).farX zb _).farX zb _).farX zb _).farX zb _).farX zb _).mono zm⟩, ((((((z7.setCell (by simp) _).setCell (by simp) _).setCell (by simp) _).setCell (by simp) _).setCell (by simp) _).setCell (by simp) _)⟩
      · rw [if_pos (by rfl)]
        have t0 := T8.cell (i := 0) rfl
        have t1 := T8.cell (i := 1) rfl
        have t2 := T8.cell (i := 2) rfl
        have t3 := T8.cell (i := 3) rfl
        have t4 := T8.cell (i := 4) rfl
        have t5 := T8.cell (i := 5) rfl
        have tf := T8.frozen
        go_simp
        obtain ⟨z0, z1, z2, z3, z4, z5, z6, z7⟩ := hS8
        refine hK.out _ _ ⟨?_, ?_, ?_, ?_, ?_, ?_, ((((((z6.farX zb _).farX zb _).farX zb _).farX zb _).farX zb _).farX zb _), ((((((z7.setCell (by simp) _).setCell (by simp) _).setCell (by simp) _).setCell (by simp) _).setCell (by simp) _).setCell (by simp) _)⟩ (fun hS9 => ?_)
        · simp [World.cell?_setCell_far, z0]
        · simp [World.cell?_setCell_far, z1]
        · simp [World.cell?_setCell_far, z2]
        · simp [World.cell?_setCell_far, z3]
        · simp [World.cell?_setCell_far, z4]
        · simp [World.cell?_setCell_far, z5]
        clear hK K
        have s9 := run_str ((((((((r8.farX (p := ⟨w.heap.size, 0, none⟩) zq (.int .i64 (fK p))).farX (p := ⟨w.heap.size, 1, none⟩) zq (.int .i64 (fS p))).farX (p := ⟨w.heap.size, 2, none⟩) zq (.int .i64 (fA p))).farX (p := ⟨w.heap.size, 3, none⟩) zq (.int .i64 (fM p))).farX (p := ⟨w.heap.size, 4, none⟩) zq (.bool (fL p))).farX (p := ⟨w.heap.size, 5, none⟩) zq (.slice A' k c')).ow' LE.out).bs) c2
        refine wpAnyH_ready (rs := [6]) (by kernel_rfl) (by simp) (AllReadyH.cons (o := _) rfl (fun K hK => ?_) AllReadyH.nil)
        rw [if_pos (by rfl)]
        go_simp
        refine hK.out _ _ hS9 (fun _ => ?_)
        clear hK K
        refine wpAnyH_take (i := 9) (oi := _) (v := .bool ((strOfNums (cellL (fK p) (fS p) (fA p) (fM p) (fL p) (fB p k))).toList == (strOfNums p).toList)) rfl (by kernel_rfl) (by kernel_rfl) (by kernel_rfl) (fun _ _ _ h => h) (Or.inl ⟨by rfl, by intro W hSw; obtain ⟨z0, z1, z2, z3, z4, z5, z6, z7⟩ := hSw; go_simp⟩) (by assumption) ?_
        refine wpAnyH_take (i := 10) (oi := _) (v := .bool ((strOfNums (cellL (fK p) (fS p) (fA p) (fM p) (fL p) (fB p k))).toList == (strOfNums p).toList)) rfl (by kernel_rfl) (by kernel_rfl) (by kernel_rfl) (fun _ _ _ h => h) (Or.inl ⟨by rfl, by intro W hSw; obtain ⟨z0, z1, z2, z3, z4, z5, z6, z7⟩ := hSw; go_simp⟩) (by assumption) ?_
        refine wpAnyH_take (i := 12) (oi := _) (v := .bool ((strOfNums (cellL (fK p) (fS p) (fA p) (fM p) (fL p) (fB p k))).toList == (strOfNums p).toList)) rfl (by kernel_rfl) (by kernel_rfl) (by kernel_rfl) (fun _ _ _ h => h) (Or.inl ⟨by rfl, by intro W hSw; obtain ⟨z0, z1, z2, z3, z4, z5, z6, z7⟩ := hSw; go_simp⟩) (by assumption) ?_
        refine wpAnyH_done (by kernel_rfl) (NoPanic.normal ?_) _
        simp only [List.getElem_toArray, List.getElem_cons_succ, List.getElem_cons_zero, Act.put, List.setIfInBounds_toArray, List.set_cons_zero, List.set_cons_succ]
        go_wp2
        refine bodyPost_ret (v := .tuple #[.agg #[.int .i64 (fK p), .int .i64 (fS p), .int .i64 (fA p), .int .i64 (fM p), .bool (fL p), .slice A' k c'], .bool ((strOfNums (cellL (fK p) (fS p) (fA p) (fM p) (fL p) (fB p k))).toList == (strOfNums p).toList)]) (by simp [results, Try.results50, go_sem, t0, t1, t2, t3, t4, t5]) rfl ?_
        exact ⟨⟨A', c', by rw [Hd.out, ← Hb.out], ((((((z6.farX zb _).farX zb _).farX zb _).farX zb _).farX zb _).farX zb _).mono zm⟩, ((((((z7.setCell (by simp) _).setCell (by simp) _).setCell (by simp) _).setCell (by simp) _).setCell (by simp) _).setCell (by simp) _)⟩
    · have Hd : Shut (decB p k = false) := ⟨by unfold decB; simp [h0]⟩
      have hd0 : (cellC (fK p) (fS p) (fA p) (fM p) (fL p) k == 0) = false := by simpa using h0
      generalize cellC (fK p) (fS p) (fA p) (fM p) (fL p) k = C at *
      clear h0
      refine wp_region_noPanic ?_
      refine wp_region_held_drew (S := fun W => W.cell? ⟨w.heap.size + 1, 0, none⟩ = some (.int .i64 (fK p)) ∧ W.cell? ⟨w.heap.size + 1, 1, none⟩ = some (.int .i64 (fS p)) ∧ W.cell? ⟨w.heap.size + 1, 2, none⟩ = some (.int .i64 (fA p)) ∧ W.cell? ⟨w.heap.size + 1, 3, none⟩ = some (.int .i64 (fM p)) ∧ W.cell? ⟨w.heap.size + 1, 4, none⟩ = some (.bool (fL p)) ∧ W.cell? ⟨w.heap.size + 1, 5, none⟩ = some (.slice A' k c') ∧ Row W wc.heap.size (.slice A' k c') (fB p k) ∧ Below w.heap.size w W) (by kernel_rfl) ?_ (fun hHeld => ?_)
      · exact ⟨x0, x1, x2, x3, x4, x5, r6.drewR, B6.drew⟩
      refine wpAnyH_take (i := 0) (oi := _) (v := .agg #[.int .i64 (fK p), .int .i64 (fS p), .int .i64 (fA p), .int .i64 (fM p), .bool (fL p), .slice A' k c']) rfl (by kernel_rfl) (by kernel_rfl) (by kernel_rfl) (fun _ _ _ h => h) (Or.inl ⟨by rfl, by intro W hSw; obtain ⟨z0, z1, z2, z3, z4, z5, z6, z7⟩ := hSw; go_simp⟩) (by assumption) ?_
      refine wpAnyH_take (i := 1) (oi := _) (v := .agg #[.int .i64 (fK p), .int .i64 (fS p), .int .i64 (fA p), .int .i64 (fM p), .bool (fL p), .slice A' k c']) rfl (by kernel_rfl) (by kernel_rfl) (by kernel_rfl) (fun _ _ _ h => h) (Or.inl ⟨by rfl, by intro W hSw; obtain ⟨z0, z1, z2, z3, z4, z5, z6, z7⟩ := hSw; go_simp⟩) (by assumption) ?_
      refine wpAnyH_ready (rs := [2]) (by kernel_rfl) (by simp) (AllReadyH.cons (o := _) rfl (fun K hK => ?_) AllReadyH.nil)
      rw [if_pos (by rfl)]
      go_simp
      refine (HC.out _ hHeld (by exact T6) (by exact D6)).mono ?_
      rintro e w7 ⟨rfl, T7, D7, hS7⟩
      refine hK.out _ _ hS7 (fun _ => ?_)
      clear hK K hHeld
      refine wpAnyH_take (i := 3) (oi := _) (v := .bool false) rfl (by kernel_rfl) (by kernel_rfl) (by kernel_rfl) (fun _ _ _ h => h) (Or.inl ⟨by rfl, by intro W hSw; obtain ⟨z0, z1, z2, z3, z4, z5, z6, z7⟩ := hSw; go_simp⟩) (by assumption) ?_
      refine wpAnyH_take (i := 4) (oi := _) (v := .bool false) rfl (by kernel_rfl) (by kernel_rfl) (by kernel_rfl) (fun _ _ _ h => h) (Or.inl ⟨by rfl, by intro W hSw; obtain ⟨z0, z1, z2, z3, z4, z5, z6, z7⟩ := hSw; go_simp⟩) (by assumption) ?_
      refine wpAnyH_take (i := 7) (oi := _) (v := undef) rfl (by kernel_rfl) (by kernel_rfl) (by kernel_rfl) (fun _ _ _ h => h) (Or.inr ⟨by rfl, rfl⟩) (by assumption) ?_
      refine wpAnyH_take (i := 8) (oi := _) (v := undef) rfl (by kernel_rfl) (by kernel_rfl) (by kernel_rfl) (fun _ _ _ h => h) (Or.inr ⟨by rfl, rfl⟩) (by assumption) ?_
      refine wpAnyH_ready (rs := [5]) (by kernel_rfl) (by simp) (AllReadyH.cons (o := _) rfl (fun K hK => ?_) AllReadyH.nil)
      rw [if_neg (fun h => Bool.false_ne_true ((by rfl : false = _).trans h))]
      refine hK.out _ _ hS7 (fun _ => ?_)
      clear hK K
      refine wpAnyH_take (i := 6) (oi := _) (v := undef) rfl (by kernel_rfl) (by kernel_rfl) (by kernel_rfl) (fun _ _ _ h => h) (Or.inr ⟨by rfl, rfl⟩) (by assumption) ?_
      refine wpAnyH_take (i := 9) (oi := _) (v := undef) rfl (by kernel_rfl) (by kernel_rfl) (by kernel_rfl) (fun _ _ _ h => h) (Or.inr ⟨by rfl, rfl⟩) (by assumption) ?_
      refine wpAnyH_take (i := 10) (oi := _) (v := .bool false) rfl (by kernel_rfl) (by kernel_rfl) (by kernel_rfl) (fun _ _ _ h => h) (Or.inl ⟨by rfl, by intro W hSw; obtain ⟨z0, z1, z2, z3, z4, z5, z6, z7⟩ := hSw; go_simp⟩) (by assumption) ?_
      refine wpAnyH_ready (rs := [11]) (by kernel_rfl) (by simp) (AllReadyH.cons (o := _) rfl (fun K hK => ?_) AllReadyH.nil)
      rw [if_pos (by rfl)]
      have t0 := T7.cell (i := 0) rfl
      have t1 := T7.cell (i := 1) rfl
      have t2 := T7.cell (i := 2) rfl
      have t3 := T7.cell (i := 3) rfl
      have t4 := T7.cell (i := 4) rfl
      have t5 := T7.cell (i := 5) rfl
      have tf := T7.frozen
      go_simp
      obtain ⟨z0, z1, z2, z3, z4, z5, z6, z7⟩ := hS7
      refine hK.out _ _ ⟨?_, ?_, ?_, ?_, ?_, ?_, ((((((z6.farX zb _).farX zb _).farX zb _).farX zb _).farX zb _).farX zb _), ((((((z7.setCell (by simp) _).setCell (by simp) _).setCell (by simp) _).setCell (by simp) _).setCell (by simp) _).setCell (by simp) _)⟩ (fun hS9 => ?_)
      · simp [World.cell?_setCell_far, z0]
      · simp [World.cell?_setCell_far, z1]
      · simp [World.cell?_setCell_far, z2]
      · simp [World.cell?_setCell_far, z3]
      · simp [World.cell?_setCell_far, z4]
      · simp [World.cell?_setCell_far, z5]
      clear hK K
      refine wpAnyH_take (i := 12) (oi := _) (v := .bool false) rfl (by kernel_rfl) (by kernel_rfl) (by kernel_rfl) (fun _ _ _ h => h) (Or.inl ⟨by rfl, by intro W hSw; obtain ⟨z0, z1, z2, z3, z4, z5, z6, z7⟩ := hSw; go_simp⟩) (by assumption) ?_
      refine wpAnyH_done (by kernel_rfl) (NoPanic.normal ?_) _
      simp only [List.getElem_toArray, List.getElem_cons_succ, List.getElem_cons_zero, Act.put, List.setIfInBounds_toArray, List.set_cons_zero, List.set_cons_succ]
      go_wp2
      refine bodyPost_ret (v := .tuple #[.agg #[.int .i64 (fK p), .int .i64 (fS p), .int .i64 (fA p), .int .i64 (fM p), .bool (fL p), .slice A' k c'], .bool false]) (by simp [results, Try.results50, go_sem, t0, t1, t2, t3, t4, t5]) rfl ?_
      exact ⟨⟨A', c', by rw [Hd.out], ((((((z6.farX zb _).farX zb _).farX zb _).farX zb _).farX zb _).farX zb _).mono zm⟩, ((((((z7.setCell (by simp) _).setCell (by simp) _).setCell (by simp) _).setCell (by simp) _).setCell (by simp) _).setCell (by simp) _)⟩

set_option maxRecDepth 100000 in
set_option maxHeartbeats 4000000 in
/-- a text's fields, and its size; what is left to do stands in Q -/
theorem l6Decode_gt (g c : Nat) (p : List Int) (w : World) (hp : Bs w (some ⟨g, 0, none⟩) 44 p) (hc : 44 ≤ c) (k : Nat) (hz : fZ p = (k : Int)) (hk : ¬ k ≤ 32) :
    Calls Try.prog 50 #[.slice (some ⟨g, 0, none⟩) 44 c] w fun e w' => (e = .returned (.tuple #[.agg #[.int .i64 0, .int .i64 0, .int .i64 0, .int .i64 0, .bool false, .slice none 0 0], .bool false])) ∧ Below w.heap.size w w' := by
  have c1 : (3 : Int) ≤ (c : Int) := by omega
  have c2 : (5 : Int) ≤ (c : Int) := by omega
  have c3 : ¬ c = 1 := by omega
  have c4 : ¬ c = 3 := by omega
  obtain ⟨b', off', e, hg, hcell⟩ := hp.at_ (by omega)
  injection e with e
  injection e with e1 e2
  subst e1
  subst e2
  have k0 : w.cell? ⟨g, 0, none⟩ = some (.int .u8 (fK p)) := hcell 0 (by omega)
  have k5 : w.cell? ⟨g, 5, none⟩ = some (.int .u8 (fM p)) := hcell 5 (by omega)
  have k6 : w.cell? ⟨g, 6, none⟩ = some (.int .u8 (p.getD 6 0)) := hcell 6 (by omega)
  have k7 : w.cell? ⟨g, 7, none⟩ = some (.int .u8 (fZ p)) := hcell 7 (by omega)
  have X0 : 0 ≤ fK p ∧ fK p < 256 := By.get hp.byte 0
  have X5 : 0 ≤ fM p ∧ fM p < 256 := By.get hp.byte 5
  have X7 : 0 ≤ fZ p ∧ fZ p < 256 := By.get hp.byte 7
  obtain ⟨X0a, X0b⟩ := X0
  obtain ⟨X5a, X5b⟩ := X5
  have i0 : IntKind.i64.wrap (fK p) = fK p := IntWalk.i64_in _ (by omega)
  have i5 : IntKind.i64.wrap (fM p) = fM p := IntWalk.i64_in _ (by omega)
  rw [hz] at k7 X7
  have hk7 : k < 256 := by omega
  have L6 : Shut ((p.getD 6 0 == 1) = fL p) := ⟨by unfold fL; rw [Bool.eq_iff_iff]; simp⟩
  have l6 := L6.out
  generalize p.getD 6 0 = Y at *
  have q1 := fun W (h : W.cell? ⟨g, 0, none⟩ = some (.int .u8 (fK p)) ∧ W.cell? ⟨g, 5, none⟩ = some (.int .u8 (fM p)) ∧ W.cell? ⟨g, 6, none⟩ = some (.int .u8 Y) ∧ Below w.heap.size w W) => specl1ReadHigh_any _ 2 (c - 1) _ W ((hp.below h.2.2.2).part_ 1 2 (by omega)) (by omega)
  have q3 := fun W (h : W.cell? ⟨g, 0, none⟩ = some (.int .u8 (fK p)) ∧ W.cell? ⟨g, 5, none⟩ = some (.int .u8 (fM p)) ∧ W.cell? ⟨g, 6, none⟩ = some (.int .u8 Y) ∧ Below w.heap.size w W) => specl1ReadHigh_any _ 2 (c - 3) _ W ((hp.below h.2.2.2).part_ 3 2 (by omega)) (by omega)
  simp only [Nat.zero_add] at q1 q3
  have Q1 : Shut (∀ W : World, (W.cell? ⟨g, 0, none⟩ = some (.int .u8 (fK p)) ∧ W.cell? ⟨g, 5, none⟩ = some (.int .u8 (fM p)) ∧ W.cell? ⟨g, 6, none⟩ = some (.int .u8 Y) ∧ Below w.heap.size w W) → Calls Try.prog 58 #[.slice (some ⟨g, 1, none⟩) 2 (c - 1)] W fun e w' => e = .returned (.int .i64 (fS p)) ∧ W = w') := ⟨q1⟩
  have Q3 : Shut (∀ W : World, (W.cell? ⟨g, 0, none⟩ = some (.int .u8 (fK p)) ∧ W.cell? ⟨g, 5, none⟩ = some (.int .u8 (fM p)) ∧ W.cell? ⟨g, 6, none⟩ = some (.int .u8 Y) ∧ Below w.heap.size w W) → Calls Try.prog 58 #[.slice (some ⟨g, 3, none⟩) 2 (c - 3)] W fun e w' => e = .returned (.int .i64 (fA p)) ∧ W = w') := ⟨q3⟩
  have B0 := ab (Below.refl _ w) (.cells #[.int .i64 0, .int .i64 0, .int .i64 0, .int .i64 0, .bool false, .slice none 0 0] 25)
  have m0 := cell_past (.cells #[.int .i64 0, .int .i64 0, .int .i64 0, .int .i64 0, .bool false, .slice none 0 0] 25) k0
  have m5 := cell_past (.cells #[.int .i64 0, .int .i64 0, .int .i64 0, .int .i64 0, .bool false, .slice none 0 0] 25) k5
  have m6 := cell_past (.cells #[.int .i64 0, .int .i64 0, .int .i64 0, .int .i64 0, .bool false, .slice none 0 0] 25) k6
  clear hcell q1 q3 L6 hz
  go_enter Try.func50, Try.ntmps50
  go_wp2_with fail
  go_cut [4] from 6 to 24 (fun s wx => s = .pointer (some ⟨w.heap.size + 1, 0, none⟩) ∧ Stc wx w.heap.size [.int .i64 0, .int .i64 0, .int .i64 0, .int .i64 0, .bool false, .slice none 0 0] 25 ∧ Stc wx (w.heap.size + 1) [.int .i64 (fK p), .int .i64 (fS p), .int .i64 (fA p), .int .i64 (fM p), .bool (fL p), .slice none 0 0] 25 ∧ Below w.heap.size w wx)
  case first =>
    go_region_held3 (fun W => W.cell? ⟨g, 0, none⟩ = some (.int .u8 (fK p)) ∧ W.cell? ⟨g, 5, none⟩ = some (.int .u8 (fM p)) ∧ W.cell? ⟨g, 6, none⟩ = some (.int .u8 Y) ∧ Below w.heap.size w W)
      (first | (exact ⟨by assumption, by assumption, by assumption, by assumption⟩) | (exact ⟨m0, m5, m6, B0.drew⟩) | (exact ⟨cell_past _ m0, cell_past _ m5, cell_past _ m6, (ab B0 _).drew⟩) | go_keep)
      (first
      | (go_at_call_of 58 (some (⟨g, 1, none⟩ : Addr)); refine (Q1.out _ ?_).mono ?_; (first | assumption | (simp [*]; done)); rintro e w' ⟨rfl, rfl⟩)
      | (go_at_call_of 58 (some (⟨g, 3, none⟩ : Addr)); refine (Q3.out _ ?_).mono ?_; (first | assumption | (simp [*]; done)); rintro e w' ⟨rfl, rfl⟩))
    all_goals
      go_wp2_with fail
      go_meet
      refine ⟨rfl, ?_, ?_, (ab B0 _).drew⟩
      · exact (Stc.new w 25 [.int .i64 0, .int .i64 0, .int .i64 0, .int .i64 0, .bool false, .slice none 0 0] _ rfl).alloc _
      · have h := Stc.new (w.alloc (.cells #[.int .i64 0, .int .i64 0, .int .i64 0, .int .i64 0, .bool false, .slice none 0 0] 25)) 25 [.int .i64 (fK p), .int .i64 (fS p), .int .i64 (fA p), .int .i64 (fM p), .bool (fL p), .slice none 0 0] _ rfl
        rw [World.size_alloc] at h
        exact h
  case rest =>
    obtain ⟨rfl, T0, D0, Bc⟩ := hcut
    have m7 := (Bc.cell (p := ⟨g, 7, none⟩) hg).trans k7
    have hpc := hp.below Bc
    have zc := Bc.size
    have c5 : ¬ c = 8 := by omega
    clear Q1 Q3 B0 m0 m5 m6 k0 k5 k6 k7 c1 c2 c3 c4
    have hk' : (32 : Int) < (k : Int) := by omega
    have t0 := T0.cell (i := 0) rfl
    have t1 := T0.cell (i := 1) rfl
    have t2 := T0.cell (i := 2) rfl
    have t3 := T0.cell (i := 3) rfl
    have t4 := T0.cell (i := 4) rfl
    have t5 := T0.cell (i := 5) rfl
    have t6 := T0.frozen
    go_wp2
    refine bodyPost_ret (v := .tuple #[.agg #[.int .i64 0, .int .i64 0, .int .i64 0, .int .i64 0, .bool false, .slice none 0 0], .bool false]) (by simp [results, Try.results50, go_sem, t0, t1, t2, t3, t4, t5]) rfl ?_
    refine ⟨rfl, ?_⟩
    exact (((((Bc.setCell (by simp) _).setCell (by simp) _).setCell (by simp) _).setCell (by simp) _).setCell (by simp) _).setCell (by simp) _
end Go.Proofs.Ytpoiecdifhkegaa
