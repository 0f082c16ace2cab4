import Derived.Test.YtabhcolfkkfonaaGreatDoorEncX
import Derived.Deep.RegionWith
import Derived.Lib.SliceRun
import Derived.WalkLawsBesides
import Derived.Deep.CutRange

/-! DecM -/
/- A cell read back from its text: plain mathematics. -/
namespace Go.Proofs.YtabhcolfkkfonaaGreatDoor
open Go.RowKit

/-- the fields of a text as they stand there -/
def fK (p : List Int) : Int := p.getD 0 0
def fS (p : List Int) : Int := hi ((p.drop 1).take 2)
def fA (p : List Int) : Int := hi ((p.drop 3).take 2)
def fM (p : List Int) : Int := p.getD 5 0
def fL (p : List Int) : Bool := decide (p.getD 6 0 = 1)
def fZ (p : List Int) : Int := p.getD 7 0
def fB (p : List Int) (k : Nat) : List Int := (p.drop 8).take k

/-- whether a text is one of a cell -/
def decB (p : List Int) (k : Nat) : Bool := decide (cellC (fK p) (fS p) (fA p) (fM p) (fL p) k = 0) && decide (cellL (fK p) (fS p) (fA p) (fM p) (fL p) (fB p k) = p)

theorem fZ_of {p : List Int} {k : Nat} (hk : (fB p k).length = k) (h : decB p k = true) : fZ p = (k : Int) := by
  unfold decB at h
  simp only [Bool.and_eq_true, decide_eq_true_eq] at h
  have h2 := h.2
  unfold fZ
  rw [← h2]
  simp [cellL, hi2_eq, hk]

theorem fZ_bd {p : List Int} (h : By p) : 0 ≤ fZ p ∧ fZ p < 256 := h.get 7

theorem fB_len {p : List Int} (h : p.length = 44) (k : Nat) (hk : k ≤ 36) : (fB p k).length = k := by simp [fB, h]; omega
theorem fB_by {p : List Int} (h : By p) (k : Nat) : By (fB p k) := fun x hx => h x (List.mem_of_mem_drop (List.mem_of_mem_take hx))
end Go.Proofs.YtabhcolfkkfonaaGreatDoor

/-! DecC -/
/- A cell read back from its text, of the model. -/
namespace Go.Proofs.YtabhcolfkkfonaaGreatDoor
open Go.RowKit

theorem Row.farX {w : World} {B : Nat} {v : Value} {l : List Int} (h : Row w B v l) {p : Addr} (hp : p.block < B) (u : Value) : Row (w.setCell p u) B v l := h.keep (fun g h1 _ => Below.heap_setCell w p u g (by omega))
theorem Stc.after {w w' : World} {b B : Nat} {l : List Value} {t : TypeId} (hb : Below B w w') (h : Stc w b l t) (hl : b < B) : Stc w' b l t := h.below hb hl
theorem Row.after {w w' : World} {B C : Nat} {v : Value} {l : List Int} (hb : Below C w w') (h : Row w B v l) (hC : w.heap.size ≤ C) : Row w' B v l := h.belowR hb hC
theorem Row.drewR {w : World} {B : Nat} {v : Value} {l : List Int} (h : Row w B v l) : Row w.drew B v l := ⟨h.byte, h.own⟩

theorem cellC_cod (a b c d : Int) (v : Bool) (n : Nat) : cellC a b c d v n = 0 ∨ cellC a b c d v n = 1 ∨ cellC a b c d v n = 2 ∨ cellC a b c d v n = 3 := by
  unfold cellC
  split
  · simp
  · split
    · split <;> simp
    · simp

set_option maxRecDepth 100000 in
set_option maxHeartbeats 4000000 in
/-- a text's fields, and its size; what is left to do stands in Q -/
theorem l6Decode_le (g c : Nat) (p : List Int) (w : World) (hp : Bs w (some ⟨g, 0, none⟩) 44 p) (hc : 44 ≤ c) (k : Nat) (hz : fZ p = (k : Int)) (hk : k ≤ 32) :
    Calls Tryz.prog 176 #[.slice (some ⟨g, 0, none⟩) 44 c] w fun e w' => (∃ A' c', e = .returned (.tuple #[.agg #[.int .i64 (fK p), .int .i64 (fS p), .int .i64 (fA p), .int .i64 (fM p), .bool (fL p), .slice A' k c'], .bool (decB p k)]) ∧ Row w' w.heap.size (.slice A' k c') (fB p k)) ∧ Below w.heap.size w w' := by
  have c1 : (3 : Int) ≤ (c : Int) := by omega
  have c2 : (5 : Int) ≤ (c : Int) := by omega
  have c3 : ¬ c = 1 := by omega
  have c4 : ¬ c = 3 := by omega
  obtain ⟨b', off', e, hg, hcell⟩ := hp.at_ (by omega)
  injection e with e
  injection e with e1 e2
  subst e1
  subst e2
  have k0 : w.cell? ⟨g, 0, none⟩ = some (.int .u8 (fK p)) := hcell 0 (by omega)
  have k5 : w.cell? ⟨g, 5, none⟩ = some (.int .u8 (fM p)) := hcell 5 (by omega)
  have k6 : w.cell? ⟨g, 6, none⟩ = some (.int .u8 (p.getD 6 0)) := hcell 6 (by omega)
  have k7 : w.cell? ⟨g, 7, none⟩ = some (.int .u8 (fZ p)) := hcell 7 (by omega)
  have X0 : 0 ≤ fK p ∧ fK p < 256 := By.get hp.byte 0
  have X5 : 0 ≤ fM p ∧ fM p < 256 := By.get hp.byte 5
  have X7 : 0 ≤ fZ p ∧ fZ p < 256 := By.get hp.byte 7
  obtain ⟨X0a, X0b⟩ := X0
  obtain ⟨X5a, X5b⟩ := X5
  have i0 : IntKind.i64.wrap (fK p) = fK p := IntWalk.i64_in _ (by omega)
  have i5 : IntKind.i64.wrap (fM p) = fM p := IntWalk.i64_in _ (by omega)
  rw [hz] at k7 X7
  have hk7 : k < 256 := by omega
  have L6 : Shut ((p.getD 6 0 == 1) = fL p) := ⟨by unfold fL; rw [Bool.eq_iff_iff]; simp⟩
  have l6 := L6.out
  generalize p.getD 6 0 = Y at *
  have q1 := fun W (h : W.cell? ⟨g, 0, none⟩ = some (.int .u8 (fK p)) ∧ W.cell? ⟨g, 5, none⟩ = some (.int .u8 (fM p)) ∧ W.cell? ⟨g, 6, none⟩ = some (.int .u8 Y) ∧ Below w.heap.size w W) => specl1ReadHigh_any _ 2 (c - 1) _ W ((hp.below h.2.2.2).part_ 1 2 (by omega)) (by omega)
  have q3 := fun W (h : W.cell? ⟨g, 0, none⟩ = some (.int .u8 (fK p)) ∧ W.cell? ⟨g, 5, none⟩ = some (.int .u8 (fM p)) ∧ W.cell? ⟨g, 6, none⟩ = some (.int .u8 Y) ∧ Below w.heap.size w W) => specl1ReadHigh_any _ 2 (c - 3) _ W ((hp.below h.2.2.2).part_ 3 2 (by omega)) (by omega)
  simp only [Nat.zero_add] at q1 q3
  have Q1 : Shut (∀ W : World, (W.cell? ⟨g, 0, none⟩ = some (.int .u8 (fK p)) ∧ W.cell? ⟨g, 5, none⟩ = some (.int .u8 (fM p)) ∧ W.cell? ⟨g, 6, none⟩ = some (.int .u8 Y) ∧ Below w.heap.size w W) → Calls Tryz.prog 122 #[.slice (some ⟨g, 1, none⟩) 2 (c - 1)] W fun e w' => e = .returned (.int .i64 (fS p)) ∧ W = w') := ⟨q1⟩
  have Q3 : Shut (∀ W : World, (W.cell? ⟨g, 0, none⟩ = some (.int .u8 (fK p)) ∧ W.cell? ⟨g, 5, none⟩ = some (.int .u8 (fM p)) ∧ W.cell? ⟨g, 6, none⟩ = some (.int .u8 Y) ∧ Below w.heap.size w W) → Calls Tryz.prog 122 #[.slice (some ⟨g, 3, none⟩) 2 (c - 3)] W fun e w' => e = .returned (.int .i64 (fA p)) ∧ W = w') := ⟨q3⟩
  have B0 := ab (Below.refl _ w) (.cells #[.int .i64 0, .int .i64 0, .int .i64 0, .int .i64 0, .bool false, .slice none 0 0] 52)
  have m0 := cell_past (.cells #[.int .i64 0, .int .i64 0, .int .i64 0, .int .i64 0, .bool false, .slice none 0 0] 52) k0
  have m5 := cell_past (.cells #[.int .i64 0, .int .i64 0, .int .i64 0, .int .i64 0, .bool false, .slice none 0 0] 52) k5
  have m6 := cell_past (.cells #[.int .i64 0, .int .i64 0, .int .i64 0, .int .i64 0, .bool false, .slice none 0 0] 52) k6
  clear hcell q1 q3 L6 hz
  go_enter Tryz.func176, Tryz.ntmps176
  go_wp2_with fail
  go_cut [4] from 6 to 24 (fun s wx => s = .pointer (some ⟨w.heap.size + 1, 0, none⟩) ∧ Stc wx w.heap.size [.int .i64 0, .int .i64 0, .int .i64 0, .int .i64 0, .bool false, .slice none 0 0] 52 ∧ Stc wx (w.heap.size + 1) [.int .i64 (fK p), .int .i64 (fS p), .int .i64 (fA p), .int .i64 (fM p), .bool (fL p), .slice none 0 0] 52 ∧ Below w.heap.size w wx)
  case first =>
    go_region_held3 (fun W => W.cell? ⟨g, 0, none⟩ = some (.int .u8 (fK p)) ∧ W.cell? ⟨g, 5, none⟩ = some (.int .u8 (fM p)) ∧ W.cell? ⟨g, 6, none⟩ = some (.int .u8 Y) ∧ Below w.heap.size w W)
      (first | (exact ⟨by assumption, by assumption, by assumption, by assumption⟩) | (exact ⟨m0, m5, m6, B0.drew⟩) | (exact ⟨cell_past _ m0, cell_past _ m5, cell_past _ m6, (ab B0 _).drew⟩) | go_keep)
      (first
      | (go_at_call_of 122 (some (⟨g, 1, none⟩ : Addr)); refine (Q1.out _ ?_).mono ?_; (first | assumption | (simp [*]; done)); rintro e w' ⟨rfl, rfl⟩)
      | (go_at_call_of 122 (some (⟨g, 3, none⟩ : Addr)); refine (Q3.out _ ?_).mono ?_; (first | assumption | (simp [*]; done)); rintro e w' ⟨rfl, rfl⟩))
    all_goals
      go_wp2_with fail
      go_meet
      refine ⟨rfl, ?_, ?_, (ab B0 _).drew⟩
      · exact (Stc.new w 52 [.int .i64 0, .int .i64 0, .int .i64 0, .int .i64 0, .bool false, .slice none 0 0] _ rfl).alloc _
      · have h := Stc.new (w.alloc (.cells #[.int .i64 0, .int .i64 0, .int .i64 0, .int .i64 0, .bool false, .slice none 0 0] 52)) 52 [.int .i64 (fK p), .int .i64 (fS p), .int .i64 (fA p), .int .i64 (fM p), .bool (fL p), .slice none 0 0] _ rfl
        rw [World.size_alloc] at h
        exact h
  case rest =>
    obtain ⟨rfl, T0, D0, Bc⟩ := hcut
    have m7 := (Bc.cell (p := ⟨g, 7, none⟩) hg).trans k7
    have hpc := hp.below Bc
    have zc := Bc.size
    have c5 : ¬ c = 8 := by omega
    clear Q1 Q3 B0 m0 m5 m6 k0 k5 k6 k7 c1 c2 c3 c4
    have hk' : ¬ (32 : Int) < (k : Int) := by omega
    have h8 : (8 : Int) + (k : Int) ≤ (c : Int) := by omega
    go_wp2_with fail
    refine (copyb_any (some ⟨g, 8, none⟩) k (c - 8) (fB p k) _ (by have h := hpc.part_ 8 k (by omega); rw [Nat.zero_add] at h; exact h) (fun e => by cases e) (by omega)).mono ?_
    rintro e w5 ⟨⟨A', c', rfl, r5⟩, b5⟩
    have B5 := ac Bc b5
    have D5 := D0.below b5 D0.lt
    have T5 := T0.below b5 T0.lt
    have x5 := D5.cell (i := 5) rfl
    have f5 := D5.frozen 5
    have Lb : Shut ((fB p k).length = k) := ⟨fB_len hp.len k (by omega)⟩
    have zd := D0.lt
    clear b5 m7 T0 D0 h8
    go_wp2_with fail
    have D6 := D5.set_ (i := 5) (.slice A' k c')
    simp only [List.set_cons_zero, List.set_cons_succ] at D6
    have T6 := T5.far (p := ⟨w.heap.size + 1, 5, none⟩) (by simp) (.slice A' k c')
    have r6 := r5.farX (p := ⟨w.heap.size + 1, 5, none⟩) zd (.slice A' k c')
    have B6 := B5.setCell (p := ⟨w.heap.size + 1, 5, none⟩) (by simp) (.slice A' k c')
    generalize hw6 : w5.setCell ⟨w.heap.size + 1, 5, none⟩ (.slice A' k c') = w6 at *
    clear hw6 D5 T5 B5 r5 x5 f5
    have x0 := D6.cell (i := 0) rfl
    have x1 := D6.cell (i := 1) rfl
    have x2 := D6.cell (i := 2) rfl
    have x3 := D6.cell (i := 3) rfl
    have x4 := D6.cell (i := 4) rfl
    have x5 := D6.cell (i := 5) rfl
    have HC : Shut (∀ W : World, (W.cell? ⟨w.heap.size + 1, 0, none⟩ = some (.int .i64 (fK p)) ∧ W.cell? ⟨w.heap.size + 1, 1, none⟩ = some (.int .i64 (fS p)) ∧ W.cell? ⟨w.heap.size + 1, 2, none⟩ = some (.int .i64 (fA p)) ∧ W.cell? ⟨w.heap.size + 1, 3, none⟩ = some (.int .i64 (fM p)) ∧ W.cell? ⟨w.heap.size + 1, 4, none⟩ = some (.bool (fL p)) ∧ W.cell? ⟨w.heap.size + 1, 5, none⟩ = some (.slice A' k c') ∧ Row W wc.heap.size (.slice A' k c') (fB p k) ∧ Below w.heap.size w W) → Stc W w.heap.size [.int .i64 0, .int .i64 0, .int .i64 0, .int .i64 0, .bool false, .slice none 0 0] 52 → Stc W (w.heap.size + 1) [.int .i64 (fK p), .int .i64 (fS p), .int .i64 (fA p), .int .i64 (fM p), .bool (fL p), .slice A' k c'] 52 → Calls Tryz.prog 119 #[.agg #[.int .i64 (fK p), .int .i64 (fS p), .int .i64 (fA p), .int .i64 (fM p), .bool (fL p), .slice A' k c']] W fun e w' => e = .returned (.int .i64 (cellC (fK p) (fS p) (fA p) (fM p) (fL p) k)) ∧ Stc w' w.heap.size [.int .i64 0, .int .i64 0, .int .i64 0, .int .i64 0, .bool false, .slice none 0 0] 52 ∧ Stc w' (w.heap.size + 1) [.int .i64 (fK p), .int .i64 (fS p), .int .i64 (fA p), .int .i64 (fM p), .bool (fL p), .slice A' k c'] 52 ∧ w'.cell? ⟨w.heap.size + 1, 0, none⟩ = some (.int .i64 (fK p)) ∧ w'.cell? ⟨w.heap.size + 1, 1, none⟩ = some (.int .i64 (fS p)) ∧ w'.cell? ⟨w.heap.size + 1, 2, none⟩ = some (.int .i64 (fA p)) ∧ w'.cell? ⟨w.heap.size + 1, 3, none⟩ = some (.int .i64 (fM p)) ∧ w'.cell? ⟨w.heap.size + 1, 4, none⟩ = some (.bool (fL p)) ∧ w'.cell? ⟨w.heap.size + 1, 5, none⟩ = some (.slice A' k c') ∧ Row w' wc.heap.size (.slice A' k c') (fB p k) ∧ Below w.heap.size w w') := by
      refine ⟨fun W ⟨z0, z1, z2, z3, z4, z5, z6, z7⟩ hT hD => (specCellFault_any _ _ _ _ _ _ _ _ W).mono ?_⟩
      rintro e w' ⟨rfl, hb⟩
      have D7 := hD.below hb hD.lt
      exact ⟨rfl, hT.below hb hT.lt, D7, D7.cell (i := 0) rfl, D7.cell (i := 1) rfl, D7.cell (i := 2) rfl, D7.cell (i := 3) rfl, D7.cell (i := 4) rfl, D7.cell (i := 5) rfl, z6.belowR hb (Nat.le_refl _), ac z7 hb⟩
    have zb : w.heap.size < wc.heap.size := by omega
    have zm : w.heap.size ≤ wc.heap.size := Nat.le_of_lt zb
    by_cases h0 : cellC (fK p) (fS p) (fA p) (fM p) (fL p) k = 0
    · obtain ⟨⟨ha0, ha1⟩, ⟨hb0, hb1⟩, ⟨hc0, hc1⟩, ⟨hd0, hd1⟩, _, _⟩ := cellC_ok h0
      have Hd : Shut (decB p k = decide (cellL (fK p) (fS p) (fA p) (fM p) (fL p) (fB p k) = p)) := ⟨by unfold decB; simp [h0]⟩
      have LE : Shut ((cellL (fK p) (fS p) (fA p) (fM p) (fL p) (fB p k)).length = 44) := ⟨cellL_len _ _ _ _ _ _ (by rw [Lb.out]; omega)⟩
      have Hb : Shut (((strOfNums (cellL (fK p) (fS p) (fA p) (fM p) (fL p) (fB p k))).toList == (strOfNums p).toList) = decide (cellL (fK p) (fS p) (fA p) (fM p) (fL p) (fB p k) = p)) := ⟨str_beq (cellL_by ha0 ha1 hd0 hd1 (fB_by hp.byte k) (by rw [Lb.out]; exact hk)) hp.byte⟩
      rw [h0] at HC
      clear h0 X7 X0a X0b X5a X5b i0 i5
      refine wp_region_noPanic ?_
      refine wp_region_held_drew (S := fun W => W.cell? ⟨w.heap.size + 1, 0, none⟩ = some (.int .i64 (fK p)) ∧ W.cell? ⟨w.heap.size + 1, 1, none⟩ = some (.int .i64 (fS p)) ∧ W.cell? ⟨w.heap.size + 1, 2, none⟩ = some (.int .i64 (fA p)) ∧ W.cell? ⟨w.heap.size + 1, 3, none⟩ = some (.int .i64 (fM p)) ∧ W.cell? ⟨w.heap.size + 1, 4, none⟩ = some (.bool (fL p)) ∧ W.cell? ⟨w.heap.size + 1, 5, none⟩ = some (.slice A' k c') ∧ Row W wc.heap.size (.slice A' k c') (fB p k) ∧ Below w.heap.size w W) (by kernel_rfl) ?_ (fun hHeld => ?_)
      · exact ⟨x0, x1, x2, x3, x4, x5, r6.drewR, B6.drew⟩
      refine wpAnyH_take (i := 0) (oi := _) (v := .agg #[.int .i64 (fK p), .int .i64 (fS p), .int .i64 (fA p), .int .i64 (fM p), .bool (fL p), .slice A' k c']) rfl (by kernel_rfl) (by kernel_rfl) (by kernel_rfl) (fun _ _ _ h => h) (Or.inl ⟨by rfl, by intro W hSw; obtain ⟨z0, z1, z2, z3, z4, z5, z6, z7⟩ := hSw; go_simp⟩) (by assumption) ?_
      refine wpAnyH_take (i := 1) (oi := _) (v := .agg #[.int .i64 (fK p), .int .i64 (fS p), .int .i64 (fA p), .int .i64 (fM p), .bool (fL p), .slice A' k c']) rfl (by kernel_rfl) (by kernel_rfl) (by kernel_rfl) (fun _ _ _ h => h) (Or.inl ⟨by rfl, by intro W hSw; obtain ⟨z0, z1, z2, z3, z4, z5, z6, z7⟩ := hSw; go_simp⟩) (by assumption) ?_
      refine wpAnyH_ready (rs := [2]) (by kernel_rfl) (by simp) (AllReadyH.cons (o := _) rfl (fun K hK => ?_) AllReadyH.nil)
      rw [if_pos (by rfl)]
      go_simp
      refine (HC.out _ hHeld (by exact T6) (by exact D6)).mono ?_
      rintro e w7 ⟨rfl, T7, D7, hS7⟩
      refine hK.out _ _ hS7 (fun _ => ?_)
      clear hK K hHeld
      refine wpAnyH_take (i := 3) (oi := _) (v := .bool true) rfl (by kernel_rfl) (by kernel_rfl) (by kernel_rfl) (fun _ _ _ h => h) (Or.inl ⟨by rfl, by intro W hSw; obtain ⟨z0, z1, z2, z3, z4, z5, z6, z7⟩ := hSw; go_simp⟩) (by assumption) ?_
      refine wpAnyH_take (i := 4) (oi := _) (v := .bool true) rfl (by kernel_rfl) (by kernel_rfl) (by kernel_rfl) (fun _ _ _ h => h) (Or.inl ⟨by rfl, by intro W hSw; obtain ⟨z0, z1, z2, z3, z4, z5, z6, z7⟩ := hSw; go_simp⟩) (by assumption) ?_
      refine wpAnyH_take (i := 7) (oi := _) (v := .slice (some ⟨g, 0, none⟩) 44 c) rfl (by kernel_rfl) (by kernel_rfl) (by kernel_rfl) (fun _ _ _ h => h) (Or.inl ⟨by rfl, by intro W hSw; obtain ⟨z0, z1, z2, z3, z4, z5, z6, z7⟩ := hSw; go_simp⟩) (by assumption) ?_
      refine wpAnyH_take (i := 8) (oi := _) (v := .string (strOfNums p)) rfl (by kernel_rfl) (by kernel_rfl) (by kernel_rfl) (fun _ _ _ h => h) (Or.inl ⟨by rfl, by intro W hSw; obtain ⟨z0, z1, z2, z3, z4, z5, z6, z7⟩ := hSw; have q := run_str (hp.below z7) c; go_simp⟩) (by assumption) ?_
      refine wpAnyH_ready (rs := [5]) (by kernel_rfl) (by simp) (AllReadyH.cons (o := _) rfl (fun K hK => ?_) AllReadyH.nil)
      rw [if_pos (by rfl)]
      go_simp
      obtain ⟨z0, z1, z2, z3, z4, z5, z6, z7⟩ := hS7
      refine (l6Encode_any (w.heap.size + 1) (fK p) (fS p) (fA p) (fM p) (fL p) A' k c' (fB p k) w7 D7 ((z6.ow' Lb.out).bs) z6.capX.2 ha0 ha1 hb0 hb1 hc0 hc1 hd0 hd1 hk).mono ?_
      rintro e w8 ⟨⟨A2, c2, rfl, r8⟩, b8⟩
      have T8 := T7.below b8 T7.lt
      have D8 := D7.below b8 D7.lt
      have o8 := (r8.ow' LE.out).bs
      have hS8 : (w8.cell? ⟨w.heap.size + 1, 0, none⟩ = some (.int .i64 (fK p)) ∧ w8.cell? ⟨w.heap.size + 1, 1, none⟩ = some (.int .i64 (fS p)) ∧ w8.cell? ⟨w.heap.size + 1, 2, none⟩ = some (.int .i64 (fA p)) ∧ w8.cell? ⟨w.heap.size + 1, 3, none⟩ = some (.int .i64 (fM p)) ∧ w8.cell? ⟨w.heap.size + 1, 4, none⟩ = some (.bool (fL p)) ∧ w8.cell? ⟨w.heap.size + 1, 5, none⟩ = some (.slice A' k c') ∧ Row w8 wc.heap.size (.slice A' k c') (fB p k) ∧ Below w.heap.size w w8) := ⟨D8.cell (i := 0) rfl, D8.cell (i := 1) rfl, D8.cell (i := 2) rfl, D8.cell (i := 3) rfl, D8.cell (i := 4) rfl, D8.cell (i := 5) rfl, z6.belowR b8 (Nat.le_refl _), ac z7 b8⟩
      clear z0 z1 z2 z3 z4 z5 z6 z7
      refine hK.out _ _ hS8 (fun _ => ?_)
      clear hK K
      have zq := T7.lt
      refine wpAnyH_ready (rs := [6, 11]) (by kernel_rfl) (by simp) (AllReadyH.cons (o := _) rfl (fun K hK => ?_) (AllReadyH.cons (o := _) rfl (fun K hK => ?_) AllReadyH.nil))
      · rw [if_pos (by rfl)]
        have s8 := run_str o8 c2
        go_simp
        refine hK.out _ _ hS8 (fun _ => ?_)
        clear hK K
        refine wpAnyH_take (i := 9) (oi := _) (v := .bool ((strOfNums (cellL (fK p) (fS p) (fA p) (fM p) (fL p) (fB p k))).toList == (strOfNums p).toList)) rfl (by kernel_rfl) (by kernel_rfl) (by kernel_rfl) (fun _ _ _ h => h) (Or.inl ⟨by rfl, by intro W hSw; obtain ⟨z0, z1, z2, z3, z4, z5, z6, z7⟩ := hSw; go_simp⟩) (by assumption) ?_
        refine wpAnyH_take (i := 10) (oi := _) (v := .bool ((strOfNums (cellL (fK p) (fS p) (fA p) (fM p) (fL p) (fB p k))).toList == (strOfNums p).toList)) rfl (by kernel_rfl) (by kernel_rfl) (by kernel_rfl) (fun _ _ _ h => h) (Or.inl ⟨by rfl, by intro W hSw; obtain ⟨z0, z1, z2, z3, z4, z5, z6, z7⟩ := hSw; go_simp⟩) (by assumption) ?_
        refine wpAnyH_ready (rs := [11]) (by kernel_rfl) (by simp) (AllReadyH.cons (o := _) rfl (fun K hK => ?_) AllReadyH.nil)
        rw [if_pos (by rfl)]
        have t0 := T8.cell (i := 0) rfl
        have t1 := T8.cell (i := 1) rfl
        have t2 := T8.cell (i := 2) rfl
        have t3 := T8.cell (i := 3) rfl
        have t4 := T8.cell (i := 4) rfl
        have t5 := T8.cell (i := 5) rfl
        have tf := T8.frozen
        go_simp
        obtain ⟨z0, z1, z2, z3, z4, z5, z6, z7⟩ := hS8
        refine hK.out _ _ ⟨?_, ?_, ?_, ?_, ?_, ?_, ((((((z6.farX zb _).farX zb _).farX zb _).farX zb _).farX zb _).farX zb _), ((((((z7.setCell (by simp) _).setCell (by simp) _).setCell (by simp) _).setCell (by simp) _).setCell (by simp) _).setCell (by simp) _)⟩ (fun hS9 => ?_)
        · simp [World.cell?_setCell_far, z0]
        · simp [World.cell?_setCell_far, z1]
        · simp [World.cell?_setCell_far, z2]
        · simp [World.cell?_setCell_far, z3]
        · simp [World.cell?_setCell_far, z4]
        · simp [World.cell?_setCell_far, z5]
        clear hK K
        refine wpAnyH_take (i := 12) (oi := _) (v := .bool ((strOfNums (cellL (fK p) (fS p) (fA p) (fM p) (fL p) (fB p k))).toList == (strOfNums p).toList)) rfl (by kernel_rfl) (by kernel_rfl) (by kernel_rfl) (fun _ _ _ h => h) (Or.inl ⟨by rfl, by intro W hSw; obtain ⟨z0, z1, z2, z3, z4, z5, z6, z7⟩ := hSw; go_simp⟩) (by assumption) ?_
        refine wpAnyH_done (by kernel_rfl) (NoPanic.normal ?_) _
        simp only [List.getElem_toArray, List.getElem_cons_succ, List.getElem_cons_zero, Act.put, List.setIfInBounds_toArray, List.set_cons_zero, List.set_cons_succ]
        go_wp2
        refine bodyPost_ret (v := .tuple #[.agg #[.int .i64 (fK p), .int .i64 (fS p), .int .i64 (fA p), .int .i64 (fM p), .bool (fL p), .slice A' k c'], .bool ((strOfNums (cellL (fK p) (fS p) (fA p) (fM p) (fL p) (fB p k))).toList == (strOfNums p).toList)]) (by simp [results, Tryz.results176, go_sem, t0, t1, t2, t3, t4, t5]) rfl ?_
        exact ⟨⟨A', c', by rw [Hd.out, ← Hb.out], ((((((z6.farX zb _).farX zb _).farX zb _).farX zb _).farX zb _).farX zb _).mono zm⟩, ((((((z7.setCell (by simp) _).setCell (by simp) _).setCell (by simp) _).setCell (by simp) _).setCell (by simp) _).setCell (by simp) _)⟩
      · rw [if_pos (by rfl)]
        have t0 := T8.cell (i := 0) rfl
        have t1 := T8.cell (i := 1) rfl
        have t2 := T8.cell (i := 2) rfl
        have t3 := T8.cell (i := 3) rfl
        have t4 := T8.cell (i := 4) rfl
        have t5 := T8.cell (i := 5) rfl
        have tf := T8.frozen
        go_simp
        obtain ⟨z0, z1, z2, z3, z4, z5, z6, z7⟩ := hS8
        refine hK.out _ _ ⟨?_, ?_, ?_, ?_, ?_, ?_, ((((((z6.farX zb _).farX zb _).farX zb _).farX zb _).farX zb _).farX zb _), ((((((z7.setCell (by simp) _).setCell (by simp) _).setCell (by simp) _).setCell (by simp) _).setCell (by simp) _).setCell (by simp) _)⟩ (fun hS9 => ?_)
        · simp [World.cell?_setCell_far, z0]
        · simp [World.cell?_setCell_far, z1]
        · simp [World.cell?_setCell_far, z2]
        · simp [World.cell?_setCell_far, z3]
        · simp [World.cell?_setCell_far, z4]
        · simp [World.cell?_setCell_far, z5]
        clear hK K
        have s9 := run_str ((((((((r8.farX (p := ⟨w.heap.size, 0, none⟩) zq (.int .i64 (fK p))).farX (p := ⟨w.heap.size, 1, none⟩) zq (.int .i64 (fS p))).farX (p := ⟨w.heap.size, 2, none⟩) zq (.int .i64 (fA p))).farX (p := ⟨w.heap.size, 3, none⟩) zq (.int .i64 (fM p))).farX (p := ⟨w.heap.size, 4, none⟩) zq (.bool (fL p))).farX (p := ⟨w.heap.size, 5, none⟩) zq (.slice A' k c')).ow' LE.out).bs) c2
        refine wpAnyH_ready (rs := [6]) (by kernel_rfl) (by simp) (AllReadyH.cons (o := _) rfl (fun K hK => ?_) AllReadyH.nil)
        rw [if_pos (by rfl)]
        go_simp
        refine hK.out _ _ hS9 (fun _ => ?_)
        clear hK K
        refine wpAnyH_take (i := 9) (oi := _) (v := .bool ((strOfNums (cellL (fK p) (fS p) (fA p) (fM p) (fL p) (fB p k))).toList == (strOfNums p).toList)) rfl (by kernel_rfl) (by kernel_rfl) (by kernel_rfl) (fun _ _ _ h => h) (Or.inl ⟨by rfl, by intro W hSw; obtain ⟨z0, z1, z2, z3, z4, z5, z6, z7⟩ := hSw; go_simp⟩) (by assumption) ?_
        refine wpAnyH_take (i := 10) (oi := _) (v := .bool ((strOfNums (cellL (fK p) (fS p) (fA p) (fM p) (fL p) (fB p k))).toList == (strOfNums p).toList)) rfl (by kernel_rfl) (by kernel_rfl) (by kernel_rfl) (fun _ _ _ h => h) (Or.inl ⟨by rfl, by intro W hSw; obtain ⟨z0, z1, z2, z3, z4, z5, z6, z7⟩ := hSw; go_simp⟩) (by assumption) ?_
        refine wpAnyH_take (i := 12) (oi := _) (v := .bool ((strOfNums (cellL (fK p) (fS p) (fA p) (fM p) (fL p) (fB p k))).toList == (strOfNums p).toList)) rfl (by kernel_rfl) (by kernel_rfl) (by kernel_rfl) (fun _ _ _ h => h) (Or.inl ⟨by rfl, by intro W hSw; obtain ⟨z0, z1, z2, z3, z4, z5, z6, z7⟩ := hSw; go_simp⟩) (by assumption) ?_
        refine wpAnyH_done (by kernel_rfl) (NoPanic.normal ?_) _
        simp only [List.getElem_toArray, List.getElem_cons_succ, List.getElem_cons_zero, Act.put, List.setIfInBounds_toArray, List.set_cons_zero, List.set_cons_succ]
        go_wp2
        refine bodyPost_ret (v := .tuple #[.agg #[.int .i64 (fK p), .int .i64 (fS p), .int .i64 (fA p), .int .i64 (fM p), .bool (fL p), .slice A' k c'], .bool ((strOfNums (cellL (fK p) (fS p) (fA p) (fM p) (fL p) (fB p k))).toList == (strOfNums p).toList)]) (by simp [results, Tryz.results176, go_sem, t0, t1, t2, t3, t4, t5]) rfl ?_
        exact ⟨⟨A', c', by rw [Hd.out, ← Hb.out], ((((((z6.farX zb _).farX zb _).farX zb _).farX zb _).farX zb _).farX zb _).mono zm⟩, ((((((z7.setCell (by simp) _).setCell (by simp) _).setCell (by simp) _).setCell (by simp) _).setCell (by simp) _).setCell (by simp) _)⟩
    · have Hd : Shut (decB p k = false) := ⟨by unfold decB; simp [h0]⟩
      have hd0 : (cellC (fK p) (fS p) (fA p) (fM p) (fL p) k == 0) = false := by simpa using h0
      generalize cellC (fK p) (fS p) (fA p) (fM p) (fL p) k = C at *
      clear h0
      refine wp_region_noPanic ?_
      refine wp_region_held_drew (S := fun W => W.cell? ⟨w.heap.size + 1, 0, none⟩ = some (.int .i64 (fK p)) ∧ W.cell? ⟨w.heap.size + 1, 1, none⟩ = some (.int .i64 (fS p)) ∧ W.cell? ⟨w.heap.size + 1, 2, none⟩ = some (.int .i64 (fA p)) ∧ W.cell? ⟨w.heap.size + 1, 3, none⟩ = some (.int .i64 (fM p)) ∧ W.cell? ⟨w.heap.size + 1, 4, none⟩ = some (.bool (fL p)) ∧ W.cell? ⟨w.heap.size + 1, 5, none⟩ = some (.slice A' k c') ∧ Row W wc.heap.size (.slice A' k c') (fB p k) ∧ Below w.heap.size w W) (by kernel_rfl) ?_ (fun hHeld => ?_)
      · exact ⟨x0, x1, x2, x3, x4, x5, r6.drewR, B6.drew⟩
      refine wpAnyH_take (i := 0) (oi := _) (v := .agg #[.int .i64 (fK p), .int .i64 (fS p), .int .i64 (fA p), .int .i64 (fM p), .bool (fL p), .slice A' k c']) rfl (by kernel_rfl) (by kernel_rfl) (by kernel_rfl) (fun _ _ _ h => h) (Or.inl ⟨by rfl, by intro W hSw; obtain ⟨z0, z1, z2, z3, z4, z5, z6, z7⟩ := hSw; go_simp⟩) (by assumption) ?_
      refine wpAnyH_take (i := 1) (oi := _) (v := .agg #[.int .i64 (fK p), .int .i64 (fS p), .int .i64 (fA p), .int .i64 (fM p), .bool (fL p), .slice A' k c']) rfl (by kernel_rfl) (by kernel_rfl) (by kernel_rfl) (fun _ _ _ h => h) (Or.inl ⟨by rfl, by intro W hSw; obtain ⟨z0, z1, z2, z3, z4, z5, z6, z7⟩ := hSw; go_simp⟩) (by assumption) ?_
      refine wpAnyH_ready (rs := [2]) (by kernel_rfl) (by simp) (AllReadyH.cons (o := _) rfl (fun K hK => ?_) AllReadyH.nil)
      rw [if_pos (by rfl)]
      go_simp
      refine (HC.out _ hHeld (by exact T6) (by exact D6)).mono ?_
      rintro e w7 ⟨rfl, T7, D7, hS7⟩
      refine hK.out _ _ hS7 (fun _ => ?_)
      clear hK K hHeld
      refine wpAnyH_take (i := 3) (oi := _) (v := .bool false) rfl (by kernel_rfl) (by kernel_rfl) (by kernel_rfl) (fun _ _ _ h => h) (Or.inl ⟨by rfl, by intro W hSw; obtain ⟨z0, z1, z2, z3, z4, z5, z6, z7⟩ := hSw; go_simp⟩) (by assumption) ?_
      refine wpAnyH_take (i := 4) (oi := _) (v := .bool false) rfl (by kernel_rfl) (by kernel_rfl) (by kernel_rfl) (fun _ _ _ h => h) (Or.inl ⟨by rfl, by intro W hSw; obtain ⟨z0, z1, z2, z3, z4, z5, z6, z7⟩ := hSw; go_simp⟩) (by assumption) ?_
      refine wpAnyH_take (i := 7) (oi := _) (v := undef) rfl (by kernel_rfl) (by kernel_rfl) (by kernel_rfl) (fun _ _ _ h => h) (Or.inr ⟨by rfl, rfl⟩) (by assumption) ?_
      refine wpAnyH_take (i := 8) (oi := _) (v := undef) rfl (by kernel_rfl) (by kernel_rfl) (by kernel_rfl) (fun _ _ _ h => h) (Or.inr ⟨by rfl, rfl⟩) (by assumption) ?_
      refine wpAnyH_ready (rs := [5]) (by kernel_rfl) (by simp) (AllReadyH.cons (o := _) rfl (fun K hK => ?_) AllReadyH.nil)
      rw [if_neg (fun h => Bool.false_ne_true ((by rfl : false = _).trans h))]
      refine hK.out _ _ hS7 (fun _ => ?_)
      clear hK K
      refine wpAnyH_take (i := 6) (oi := _) (v := undef) rfl (by kernel_rfl) (by kernel_rfl) (by kernel_rfl) (fun _ _ _ h => h) (Or.inr ⟨by rfl, rfl⟩) (by assumption) ?_
      refine wpAnyH_take (i := 9) (oi := _) (v := undef) rfl (by kernel_rfl) (by kernel_rfl) (by kernel_rfl) (fun _ _ _ h => h) (Or.inr ⟨by rfl, rfl⟩) (by assumption) ?_
      refine wpAnyH_take (i := 10) (oi := _) (v := .bool false) rfl (by kernel_rfl) (by kernel_rfl) (by kernel_rfl) (fun _ _ _ h => h) (Or.inl ⟨by rfl, by intro W hSw; obtain ⟨z0, z1, z2, z3, z4, z5, z6, z7⟩ := hSw; go_simp⟩) (by assumption) ?_
      refine wpAnyH_ready (rs := [11]) (by kernel_rfl) (by simp) (AllReadyH.cons (o := _) rfl (fun K hK => ?_) AllReadyH.nil)
      rw [if_pos (by rfl)]
      have t0 := T7.cell (i := 0) rfl
      have t1 := T7.cell (i := 1) rfl
      have t2 := T7.cell (i := 2) rfl
      have t3 := T7.cell (i := 3) rfl
      have t4 := T7.cell (i := 4) rfl
      have t5 := T7.cell (i := 5) rfl
      have tf := T7.frozen
      go_simp
      obtain ⟨z0, z1, z2, z3, z4, z5, z6, z7⟩ := hS7
      refine hK.out _ _ ⟨?_, ?_, ?_, ?_, ?_, ?_, ((((((z6.farX zb _).farX zb _).farX zb _).farX zb _).farX zb _).farX zb _), ((((((z7.setCell (by simp) _).setCell (by simp) _).setCell (by simp) _).setCell (by simp) _).setCell (by simp) _).setCell (by simp) _)⟩ (fun hS9 => ?_)
      · simp [World.cell?_setCell_far, z0]
      · simp [World.cell?_setCell_far, z1]
      · simp [World.cell?_setCell_far, z2]
      · simp [World.cell?_setCell_far, z3]
      · simp [World.cell?_setCell_far, z4]
      · simp [World.cell?_setCell_far, z5]
      clear hK K
      refine wpAnyH_take (i := 12) (oi := _) (v := .bool false) rfl (by kernel_rfl) (by kernel_rfl) (by kernel_rfl) (fun _ _ _ h => h) (Or.inl ⟨by rfl, by intro W hSw; obtain ⟨z0, z1, z2, z3, z4, z5, z6, z7⟩ := hSw; go_simp⟩) (by assumption) ?_
      refine wpAnyH_done (by kernel_rfl) (NoPanic.normal ?_) _
      simp only [List.getElem_toArray, List.getElem_cons_succ, List.getElem_cons_zero, Act.put, List.setIfInBounds_toArray, List.set_cons_zero, List.set_cons_succ]
      go_wp2
      refine bodyPost_ret (v := .tuple #[.agg #[.int .i64 (fK p), .int .i64 (fS p), .int .i64 (fA p), .int .i64 (fM p), .bool (fL p), .slice A' k c'], .bool false]) (by simp [results, Tryz.results176, go_sem, t0, t1, t2, t3, t4, t5]) rfl ?_
      exact ⟨⟨A', c', by rw [Hd.out], ((((((z6.farX zb _).farX zb _).farX zb _).farX zb _).farX zb _).farX zb _).mono zm⟩, ((((((z7.setCell (by simp) _).setCell (by simp) _).setCell (by simp) _).setCell (by simp) _).setCell (by simp) _).setCell (by simp) _)⟩

set_option maxRecDepth 100000 in
set_option maxHeartbeats 4000000 in
/-- a text's fields, and its size; what is left to do stands in Q -/
theorem l6Decode_gt (g c : Nat) (p : List Int) (w : World) (hp : Bs w (some ⟨g, 0, none⟩) 44 p) (hc : 44 ≤ c) (k : Nat) (hz : fZ p = (k : Int)) (hk : ¬ k ≤ 32) :
    Calls Tryz.prog 176 #[.slice (some ⟨g, 0, none⟩) 44 c] w fun e w' => (e = .returned (.tuple #[.agg #[.int .i64 0, .int .i64 0, .int .i64 0, .int .i64 0, .bool false, .slice none 0 0], .bool false])) ∧ Below w.heap.size w w' := by
  have c1 : (3 : Int) ≤ (c : Int) := by omega
  have c2 : (5 : Int) ≤ (c : Int) := by omega
  have c3 : ¬ c = 1 := by omega
  have c4 : ¬ c = 3 := by omega
  obtain ⟨b', off', e, hg, hcell⟩ := hp.at_ (by omega)
  injection e with e
  injection e with e1 e2
  subst e1
  subst e2
  have k0 : w.cell? ⟨g, 0, none⟩ = some (.int .u8 (fK p)) := hcell 0 (by omega)
  have k5 : w.cell? ⟨g, 5, none⟩ = some (.int .u8 (fM p)) := hcell 5 (by omega)
  have k6 : w.cell? ⟨g, 6, none⟩ = some (.int .u8 (p.getD 6 0)) := hcell 6 (by omega)
  have k7 : w.cell? ⟨g, 7, none⟩ = some (.int .u8 (fZ p)) := hcell 7 (by omega)
  have X0 : 0 ≤ fK p ∧ fK p < 256 := By.get hp.byte 0
  have X5 : 0 ≤ fM p ∧ fM p < 256 := By.get hp.byte 5
  have X7 : 0 ≤ fZ p ∧ fZ p < 256 := By.get hp.byte 7
  obtain ⟨X0a, X0b⟩ := X0
  obtain ⟨X5a, X5b⟩ := X5
  have i0 : IntKind.i64.wrap (fK p) = fK p := IntWalk.i64_in _ (by omega)
  have i5 : IntKind.i64.wrap (fM p) = fM p := IntWalk.i64_in _ (by omega)
  rw [hz] at k7 X7
  have hk7 : k < 256 := by omega
  have L6 : Shut ((p.getD 6 0 == 1) = fL p) := ⟨by unfold fL; rw [Bool.eq_iff_iff]; simp⟩
  have l6 := L6.out
  generalize p.getD 6 0 = Y at *
  have q1 := fun W (h : W.cell? ⟨g, 0, none⟩ = some (.int .u8 (fK p)) ∧ W.cell? ⟨g, 5, none⟩ = some (.int .u8 (fM p)) ∧ W.cell? ⟨g, 6, none⟩ = some (.int .u8 Y) ∧ Below w.heap.size w W) => specl1ReadHigh_any _ 2 (c - 1) _ W ((hp.below h.2.2.2).part_ 1 2 (by omega)) (by omega)
  have q3 := fun W (h : W.cell? ⟨g, 0, none⟩ = some (.int .u8 (fK p)) ∧ W.cell? ⟨g, 5, none⟩ = some (.int .u8 (fM p)) ∧ W.cell? ⟨g, 6, none⟩ = some (.int .u8 Y) ∧ Below w.heap.size w W) => specl1ReadHigh_any _ 2 (c - 3) _ W ((hp.below h.2.2.2).part_ 3 2 (by omega)) (by omega)
  simp only [Nat.zero_add] at q1 q3
  have Q1 : Shut (∀ W : World, (W.cell? ⟨g, 0, none⟩ = some (.int .u8 (fK p)) ∧ W.cell? ⟨g, 5, none⟩ = some (.int .u8 (fM p)) ∧ W.cell? ⟨g, 6, none⟩ = some (.int .u8 Y) ∧ Below w.heap.size w W) → Calls Tryz.prog 122 #[.slice (some ⟨g, 1, none⟩) 2 (c - 1)] W fun e w' => e = .returned (.int .i64 (fS p)) ∧ W = w') := ⟨q1⟩
  have Q3 : Shut (∀ W : World, (W.cell? ⟨g, 0, none⟩ = some (.int .u8 (fK p)) ∧ W.cell? ⟨g, 5, none⟩ = some (.int .u8 (fM p)) ∧ W.cell? ⟨g, 6, none⟩ = some (.int .u8 Y) ∧ Below w.heap.size w W) → Calls Tryz.prog 122 #[.slice (some ⟨g, 3, none⟩) 2 (c - 3)] W fun e w' => e = .returned (.int .i64 (fA p)) ∧ W = w') := ⟨q3⟩
  have B0 := ab (Below.refl _ w) (.cells #[.int .i64 0, .int .i64 0, .int .i64 0, .int .i64 0, .bool false, .slice none 0 0] 52)
  have m0 := cell_past (.cells #[.int .i64 0, .int .i64 0, .int .i64 0, .int .i64 0, .bool false, .slice none 0 0] 52) k0
  have m5 := cell_past (.cells #[.int .i64 0, .int .i64 0, .int .i64 0, .int .i64 0, .bool false, .slice none 0 0] 52) k5
  have m6 := cell_past (.cells #[.int .i64 0, .int .i64 0, .int .i64 0, .int .i64 0, .bool false, .slice none 0 0] 52) k6
  clear hcell q1 q3 L6 hz
  go_enter Tryz.func176, Tryz.ntmps176
  go_wp2_with fail
  go_cut [4] from 6 to 24 (fun s wx => s = .pointer (some ⟨w.heap.size + 1, 0, none⟩) ∧ Stc wx w.heap.size [.int .i64 0, .int .i64 0, .int .i64 0, .int .i64 0, .bool false, .slice none 0 0] 52 ∧ Stc wx (w.heap.size + 1) [.int .i64 (fK p), .int .i64 (fS p), .int .i64 (fA p), .int .i64 (fM p), .bool (fL p), .slice none 0 0] 52 ∧ Below w.heap.size w wx)
  case first =>
    go_region_held3 (fun W => W.cell? ⟨g, 0, none⟩ = some (.int .u8 (fK p)) ∧ W.cell? ⟨g, 5, none⟩ = some (.int .u8 (fM p)) ∧ W.cell? ⟨g, 6, none⟩ = some (.int .u8 Y) ∧ Below w.heap.size w W)
      (first | (exact ⟨by assumption, by assumption, by assumption, by assumption⟩) | (exact ⟨m0, m5, m6, B0.drew⟩) | (exact ⟨cell_past _ m0, cell_past _ m5, cell_past _ m6, (ab B0 _).drew⟩) | go_keep)
      (first
      | (go_at_call_of 122 (some (⟨g, 1, none⟩ : Addr)); refine (Q1.out _ ?_).mono ?_; (first | assumption | (simp [*]; done)); rintro e w' ⟨rfl, rfl⟩)
      | (go_at_call_of 122 (some (⟨g, 3, none⟩ : Addr)); refine (Q3.out _ ?_).mono ?_; (first | assumption | (simp [*]; done)); rintro e w' ⟨rfl, rfl⟩))
    all_goals
      go_wp2_with fail
      go_meet
      refine ⟨rfl, ?_, ?_, (ab B0 _).drew⟩
      · exact (Stc.new w 52 [.int .i64 0, .int .i64 0, .int .i64 0, .int .i64 0, .bool false, .slice none 0 0] _ rfl).alloc _
      · have h := Stc.new (w.alloc (.cells #[.int .i64 0, .int .i64 0, .int .i64 0, .int .i64 0, .bool false, .slice none 0 0] 52)) 52 [.int .i64 (fK p), .int .i64 (fS p), .int .i64 (fA p), .int .i64 (fM p), .bool (fL p), .slice none 0 0] _ rfl
        rw [World.size_alloc] at h
        exact h
  case rest =>
    obtain ⟨rfl, T0, D0, Bc⟩ := hcut
    have m7 := (Bc.cell (p := ⟨g, 7, none⟩) hg).trans k7
    have hpc := hp.below Bc
    have zc := Bc.size
    have c5 : ¬ c = 8 := by omega
    clear Q1 Q3 B0 m0 m5 m6 k0 k5 k6 k7 c1 c2 c3 c4
    have hk' : (32 : Int) < (k : Int) := by omega
    have t0 := T0.cell (i := 0) rfl
    have t1 := T0.cell (i := 1) rfl
    have t2 := T0.cell (i := 2) rfl
    have t3 := T0.cell (i := 3) rfl
    have t4 := T0.cell (i := 4) rfl
    have t5 := T0.cell (i := 5) rfl
    have t6 := T0.frozen
    go_wp2
    refine bodyPost_ret (v := .tuple #[.agg #[.int .i64 0, .int .i64 0, .int .i64 0, .int .i64 0, .bool false, .slice none 0 0], .bool false]) (by simp [results, Tryz.results176, go_sem, t0, t1, t2, t3, t4, t5]) rfl ?_
    refine ⟨rfl, ?_⟩
    exact (((((Bc.setCell (by simp) _).setCell (by simp) _).setCell (by simp) _).setCell (by simp) _).setCell (by simp) _).setCell (by simp) _
end Go.Proofs.YtabhcolfkkfonaaGreatDoor

/-! DecA -/
/- DecodeCell, of the model. -/
namespace Go.Proofs.YtabhcolfkkfonaaGreatDoor
open Go.RowKit

/-- whether a text is a cell's -/
def decOk (p : List Int) : Bool := decide (fZ p ≤ 32) && decB p (fZ p).toNat
def decD (n : Nat) (p : List Int) : Bool := decide (n = 44) && decOk p
def decCode (n : Nat) (p : List Int) : Int := if n = 44 then (if decOk p = true then 0 else 5) else 2
def selI (b : Bool) (x : Int) : Int := if b = true then x else 0
def selB (b : Bool) (x : Bool) : Bool := b && x
def selN (b : Bool) (x : Nat) : Nat := if b = true then x else 0
def selL (b : Bool) (x : List Int) : List Int := if b = true then x else []

/-- the answer of DecodeCell: its bytes have their room -/
def DecAns (C : Int) (b : Bool) (p : List Int) (w : World) (e : Ending) (w' : World) : Prop :=
  (∃ A f, e = .returned (.agg #[.int .i64 C, .int .i64 0, .int .i64 (selI b (fK p)), .int .i64 (selI b (fS p)), .int .i64 (selI b (fA p)), .int .i64 (selI b (fM p)), .bool (selB b (fL p)), .slice A (selN b (fZ p).toNat) f]) ∧
    Rs w' w.heap.size [(A, selN b (fZ p).toNat, selL b (fB p (fZ p).toNat))] ∧ selN b (fZ p).toNat ≤ f ∧ (A = none → f = 0)) ∧ Below w.heap.size w w'
theorem DecAns.no {C : Int} {p : List Int} {w : World} {e : Ending} {w' : World} (he : e = .returned (.agg #[.int .i64 C, .int .i64 0, .int .i64 0, .int .i64 0, .int .i64 0, .int .i64 0, .bool false, .slice none 0 0])) (hb : Below w.heap.size w w') : DecAns C false p w e w' :=
  ⟨⟨none, 0, by rw [he]; simp [selI, selB, selN], Rs.one (Ow.nil_ _ _), Nat.le_refl _, fun _ => rfl⟩, hb⟩

set_option maxHeartbeats 1000000 in
theorem specDecodeCell_len (A : Option Addr) (n c : Nat) (p : List Int) (w : World) (h : ¬ n = 44) :
    Calls Tryz.prog 125 #[.slice A n c] w (DecAns 2 false p w) := by
  have hb : ((n : Int) != 44) = true := by rw [bne_iff_ne]; omega
  go_enter Tryz.func125, Tryz.ntmps125
  go_wp2
  refine bodyPost_ret (v := .agg #[.int .i64 2, .int .i64 0, .int .i64 0, .int .i64 0, .int .i64 0, .int .i64 0, .bool false, .slice none 0 0]) (by simp [results, Tryz.results125, go_sem]) rfl ?_
  exact DecAns.no rfl (by go_grown)

set_option maxHeartbeats 2000000 in
theorem specDecodeCell_yes (A : Option Addr) (c : Nat) (p : List Int) (w : World) (hl : (fB p (fZ p).toNat).length = (fZ p).toNat)
    (hc : ∀ W, Below w.heap.size w W → Calls Tryz.prog 176 #[.slice A 44 c] W fun e w' => (∃ A' c', e = .returned (.tuple #[.agg #[.int .i64 (fK p), .int .i64 (fS p), .int .i64 (fA p), .int .i64 (fM p), .bool (fL p), .slice A' (fZ p).toNat c'], .bool true]) ∧ Row w' W.heap.size (.slice A' (fZ p).toNat c') (fB p (fZ p).toNat)) ∧ Below W.heap.size W w') :
    Calls Tryz.prog 125 #[.slice A 44 c] w (DecAns 0 true p w) := by
  have T0 := Stc.new w 60 [.int .i64 0, .int .i64 0, .int .i64 0, .int .i64 0, .int .i64 0, .int .i64 0, .bool false, .slice none 0 0] _ rfl
  have B0 := ab (Below.refl _ w) (.cells #[.int .i64 0, .int .i64 0, .int .i64 0, .int .i64 0, .int .i64 0, .int .i64 0, .bool false, .slice none 0 0] 60)
  obtain ⟨k, hk⟩ : ∃ k, k = (fZ p).toNat := ⟨_, rfl⟩
  rw [← hk] at hc hl
  have HC := Shut.mk hc
  have HK := Shut.mk hk
  have HL := Shut.mk hl
  clear hc hk hl
  go_enter Tryz.func125, Tryz.ntmps125
  go_wp2_with fail
  refine (HC.out _ B0).mono ?_
  rintro e w1 ⟨⟨A', c', rfl, r1⟩, b1⟩
  have B1 := ac B0 b1
  replace T0 := T0.below b1 T0.lt
  clear B0 b1 HC
  go_upto_region 6 with (fail)
  generalize hq : (w1.alloc (.cells #[.int .i64 (fK p), .int .i64 (fS p), .int .i64 (fA p), .int .i64 (fM p), .bool (fL p), .slice A' k c'] 52)) = w2 at *
  have D2 : Stc w2 w1.heap.size [.int .i64 (fK p), .int .i64 (fS p), .int .i64 (fA p), .int .i64 (fM p), .bool (fL p), .slice A' k c'] 52 := by rw [← hq]; exact Stc.new w1 _ _ _ rfl
  have T2 : Stc w2 w.heap.size [.int .i64 0, .int .i64 0, .int .i64 0, .int .i64 0, .int .i64 0, .int .i64 0, .bool false, .slice none 0 0] 60 := by rw [← hq]; exact T0.alloc _
  have B2 : Below w.heap.size w w2 := by rw [← hq]; exact ab B1 _
  have o2 : Ow w2 (w.heap.size + 1) A' k (fB p k) := by rw [← hq]; exact ((r1.ow' HL.out).mono (by simp)).alloc _
  obtain ⟨j1, j2⟩ := r1.capX
  have zl : w.heap.size < w1.heap.size := T0.lt
  clear hq
  have t0 := T2.cell (i := 0) rfl
  have t1 := T2.cell (i := 1) rfl
  have t2 := T2.cell (i := 2) rfl
  have t3 := T2.cell (i := 3) rfl
  have t4 := T2.cell (i := 4) rfl
  have t5 := T2.cell (i := 5) rfl
  have t6 := T2.cell (i := 6) rfl
  have t7 := T2.cell (i := 7) rfl
  have tf := T2.frozen
  have d0 := D2.cell (i := 0) rfl
  have d1 := D2.cell (i := 1) rfl
  have d2 := D2.cell (i := 2) rfl
  have d3 := D2.cell (i := 3) rfl
  have d4 := D2.cell (i := 4) rfl
  have d5 := D2.cell (i := 5) rfl
  go_wp2
  refine bodyPost_ret (v := .agg #[.int .i64 0, .int .i64 0, .int .i64 (fK p), .int .i64 (fS p), .int .i64 (fA p), .int .i64 (fM p), .bool (fL p), .slice A' k c']) (by simp [results, Tryz.results125, go_sem, t0, t1, t2, t3, t4, t5, t6, t7]) rfl ?_
  refine ⟨⟨A', c', by simp [selI, selB, selN, ← HK.out], ?_, by simpa [selN, ← HK.out] using j1, j2⟩, (((((((B2.setCell (by simp) _).setCell (by simp) _).setCell (by simp) _).setCell (by simp) _).setCell (by simp) _).setCell (by simp) _).setCell (by simp) _).setCell (by simp) _⟩
  simp only [selN, selL, if_pos, ← HK.out]
  refine Rs.one (((((((((o2.far ?_ _).far ?_ _).far ?_ _).far ?_ _).far ?_ _).far ?_ _).far ?_ _).far ?_ _).mono (Nat.le_succ _))
  all_goals simp

set_option maxHeartbeats 2000000 in
theorem specDecodeCell_no (A : Option Addr) (c : Nat) (p : List Int) (w : World)
    (hc : ∀ W, Below w.heap.size w W → Calls Tryz.prog 176 #[.slice A 44 c] W fun e w' => (∃ (a b d f : Int) (v : Bool) (A' : Option Addr) (k c' : Nat), e = .returned (.tuple #[.agg #[.int .i64 a, .int .i64 b, .int .i64 d, .int .i64 f, .bool v, .slice A' k c'], .bool false])) ∧ Below W.heap.size W w') :
    Calls Tryz.prog 125 #[.slice A 44 c] w (DecAns 5 false p w) := by
  have T0 := Stc.new w 60 [.int .i64 0, .int .i64 0, .int .i64 0, .int .i64 0, .int .i64 0, .int .i64 0, .bool false, .slice none 0 0] _ rfl
  have B0 := ab (Below.refl _ w) (.cells #[.int .i64 0, .int .i64 0, .int .i64 0, .int .i64 0, .int .i64 0, .int .i64 0, .bool false, .slice none 0 0] 60)
  have HC := Shut.mk hc
  clear hc
  go_enter Tryz.func125, Tryz.ntmps125
  go_wp2_with fail
  refine (HC.out _ B0).mono ?_
  rintro e w1 ⟨⟨a, b, d, f, v, A', k, c', rfl⟩, b1⟩
  have B1 := ac B0 b1
  replace T0 := T0.below b1 T0.lt
  clear B0 b1 HC
  go_upto_region 5 with (fail)
  generalize hq : (w1.alloc (.cells #[.int .i64 a, .int .i64 b, .int .i64 d, .int .i64 f, .bool v, .slice A' k c'] 52)) = w2 at *
  have D2 : Stc w2 w1.heap.size [.int .i64 a, .int .i64 b, .int .i64 d, .int .i64 f, .bool v, .slice A' k c'] 52 := by rw [← hq]; exact Stc.new w1 _ _ _ rfl
  have T2 : Stc w2 w.heap.size [.int .i64 0, .int .i64 0, .int .i64 0, .int .i64 0, .int .i64 0, .int .i64 0, .bool false, .slice none 0 0] 60 := by rw [← hq]; exact T0.alloc _
  have B2 : Below w.heap.size w w2 := by rw [← hq]; exact ab B1 _
  have zl : w.heap.size < w1.heap.size := T0.lt
  clear hq
  have t0 := T2.cell (i := 0) rfl
  have t1 := T2.cell (i := 1) rfl
  have t2 := T2.cell (i := 2) rfl
  have t3 := T2.cell (i := 3) rfl
  have t4 := T2.cell (i := 4) rfl
  have t5 := T2.cell (i := 5) rfl
  have t6 := T2.cell (i := 6) rfl
  have t7 := T2.cell (i := 7) rfl
  have tf := T2.frozen
  have d0 := D2.cell (i := 0) rfl
  have d1 := D2.cell (i := 1) rfl
  have d2 := D2.cell (i := 2) rfl
  have d3 := D2.cell (i := 3) rfl
  have d4 := D2.cell (i := 4) rfl
  have d5 := D2.cell (i := 5) rfl
  go_wp2
  refine bodyPost_ret (v := .agg #[.int .i64 5, .int .i64 0, .int .i64 0, .int .i64 0, .int .i64 0, .int .i64 0, .bool false, .slice none 0 0]) (by simp [results, Tryz.results125, go_sem, t0, t1, t2, t3, t4, t5, t6, t7]) rfl ?_
  exact DecAns.no rfl ((((((((B2.setCell (by simp) _).setCell (by simp) _).setCell (by simp) _).setCell (by simp) _).setCell (by simp) _).setCell (by simp) _).setCell (by simp) _).setCell (by simp) _)

theorem specDecodeCell_any (g n c : Nat) (p : List Int) (w : World) (hp : Bs w (some ⟨g, 0, none⟩) n p) (hc : n ≤ c) :
    Calls Tryz.prog 125 #[.slice (some ⟨g, 0, none⟩) n c] w (DecAns (decCode n p) (decD n p) p w) := by
  by_cases h : n = 44
  · subst h
    have hz := fZ_bd hp.byte
    obtain ⟨k, hk⟩ := Int.eq_ofNat_of_zero_le hz.1
    have e1 : (fZ p).toNat = k := by rw [hk]; rfl
    have e4 : decD 44 p = decOk p := by simp [decD]
    rw [e4]
    have e5 : decCode 44 p = (if decOk p = true then 0 else 5) := by simp [decCode]
    rw [e5]
    by_cases h32 : k ≤ 32
    · have hd : decOk p = decB p k := by
        unfold decOk
        rw [e1, decide_eq_true (by rw [hk]; omega)]
        simp
      have H := fun W (hW : Below w.heap.size w W) => l6Decode_le g c p W (hp.below hW) hc k hk h32
      cases hb : decB p k
      · rw [hd, hb]
        rw [hb] at H
        exact specDecodeCell_no _ c p w fun W hW => (H W hW).mono fun e w' ⟨⟨A', c', he, _⟩, hB⟩ => ⟨⟨_, _, _, _, _, _, _, _, he⟩, hB⟩
      · rw [hd, hb]
        rw [hb] at H
        have hl := fB_len hp.len k (by omega)
        rw [← e1] at H hl
        exact specDecodeCell_yes _ c p w hl H
    · have hd : decOk p = false := by
        unfold decOk
        rw [decide_eq_false (by rw [hk]; omega)]
        simp
      rw [hd]
      exact specDecodeCell_no _ c p w fun W hW => (l6Decode_gt g c p W (hp.below hW) hc k hk h32).mono fun e w' ⟨he, hB⟩ => ⟨⟨_, _, _, _, _, _, _, _, he⟩, hB⟩
  · have e1 : decCode n p = 2 := by simp [decCode, h]
    have e2 : decD n p = false := by simp [decD, h]
    rw [e1, e2]
    exact specDecodeCell_len _ n c p w h
end Go.Proofs.YtabhcolfkkfonaaGreatDoor

/-! DecP -/
/- A cell read back from its text, of the program. -/
namespace Go.Proofs.YtabhcolfkkfonaaGreatDoor
open Go.RowKit

set_option maxRecDepth 100000 in
set_option maxHeartbeats 1000000 in
theorem clone_cell (a : Addr) (n c : Nat) (l : List Int) (w : World) (h : Bs w (some a) n l) (hn : n ≤ 100000000) :
    Calls Tryz.prog 135 #[.slice (some a) n c] w fun e w' => (∃ A' c', e = .returned (.slice A' n c') ∧ Ow w' w.heap.size A' n l ∧ n ≤ c' ∧ (A' = none → c' = 0)) ∧ Below w.heap.size w w' := by
  have q22 : ∀ (w : World) (a : Option Addr) (n c n' c' : Nat), (binOp .eql 22 (.slice a n c) (.slice none n' c')).run Tryz.prog w = .ok (.bool a.isNone) w := fun w a n c n' c' => Lib.run_eql_slice_nil w _ _ a n c n' c' Tryz.underlying22
  have Hl := Shut.mk h.len
  have e0 : Row (w.alloc (.cells #[] 5)) w.heap.size (.slice (some ⟨w.heap.size, 0, none⟩) 0 0) [] := Row.empty w #[] (Nat.le_refl _) rfl
  have h1 := h.below (ab (Below.refl _ w) (.cells #[] 5))
  go_enter Tryz.func135, Tryz.ntmps135
  go_wp2_with (at_builtin; refine wpList_row_join rfl _ _ rfl _ w.heap.size (.slice (some ⟨w.heap.size, 0, none⟩) 0 0) _ _ rfl e0 (by simp) (some a) n c rfl h1 (fun e => by cases e) (by simp; omega) ?_; intro v4 w4 hr4 hb4 hs4)
  obtain ⟨A5, c5, rfl, ho⟩ := hr4.ow Hl.out
  obtain ⟨k1, k2⟩ := hr4.capX
  go_ret
  exact ⟨⟨A5, c5, rfl, ho, k1, k2⟩, (ab (Below.refl _ w) _).trans hb4⟩

/-- of the bytes that a text says it has, as many as there can be -/
def minK (p : List Int) : Nat := if fZ p ≤ 32 then (fZ p).toNat else 32
theorem minK_le (p : List Int) : minK p ≤ 32 := by unfold minK; split <;> omega
theorem minK_eq {p : List Int} (h : By p) : (if fZ p ≤ 32 then fZ p else 32) = ((minK p : Nat) : Int) := by
  have := (fZ_bd h).1
  unfold minK
  split
  · omega
  · rfl

set_option maxRecDepth 100000 in
set_option maxHeartbeats 4000000 in
theorem readCell_any (g c : Nat) (p : List Int) (w : World) (hp : Bs w (some ⟨g, 0, none⟩) 44 p) (hc : 44 ≤ c) :
    Calls Tryz.prog 169 #[.slice (some ⟨g, 0, none⟩) 44 c] w fun e w' => (∃ A' c', e = .returned (.agg #[.int .i64 (fK p), .int .i64 (fS p), .int .i64 (fA p), .int .i64 (fM p), .bool (fL p), .slice A' (minK p) c']) ∧ Ow w' w.heap.size A' (minK p) (fB p (minK p)) ∧ minK p ≤ c' ∧ (A' = none → c' = 0)) ∧ Below w.heap.size w w' := by
  have c1 : (3 : Int) ≤ (c : Int) := by omega
  have c2 : (5 : Int) ≤ (c : Int) := by omega
  have c3 : ¬ c = 1 := by omega
  have c4 : ¬ c = 3 := by omega
  have c8 : ¬ c = 8 := by omega
  obtain ⟨b', off', e, hg, hcell⟩ := hp.at_ (by omega)
  injection e with e
  injection e with e1 e2
  subst e1
  subst e2
  have k0 : w.cell? ⟨g, 0, none⟩ = some (.int .u8 (fK p)) := hcell 0 (by omega)
  have k5 : w.cell? ⟨g, 5, none⟩ = some (.int .u8 (fM p)) := hcell 5 (by omega)
  have k6 : w.cell? ⟨g, 6, none⟩ = some (.int .u8 (p.getD 6 0)) := by simpa using hcell 6 (by omega)
  have k7 : w.cell? ⟨g, 7, none⟩ = some (.int .u8 (fZ p)) := hcell 7 (by omega)
  have X0 : 0 ≤ fK p ∧ fK p < 256 := By.get hp.byte 0
  have X5 : 0 ≤ fM p ∧ fM p < 256 := By.get hp.byte 5
  have X7 : 0 ≤ fZ p ∧ fZ p < 256 := By.get hp.byte 7
  obtain ⟨X0a, X0b⟩ := X0
  obtain ⟨X5a, X5b⟩ := X5
  obtain ⟨X7a, X7b⟩ := X7
  have i0 : IntKind.i64.wrap (fK p) = fK p := IntWalk.i64_in _ (by omega)
  have i5 : IntKind.i64.wrap (fM p) = fM p := IntWalk.i64_in _ (by omega)
  have L6 : Shut ((p.getD 6 0 == 1) = fL p) := ⟨by unfold fL; rw [Bool.eq_iff_iff]; simp⟩
  have l6 := L6.out
  generalize p.getD 6 0 = Y at *
  have mk := minK_le p
  have ME := Shut.mk (minK_eq hp.byte)
  have q1 := fun W (h : W.cell? ⟨g, 0, none⟩ = some (.int .u8 (fK p)) ∧ W.cell? ⟨g, 5, none⟩ = some (.int .u8 (fM p)) ∧ W.cell? ⟨g, 6, none⟩ = some (.int .u8 Y) ∧ Below w.heap.size w W) => joinHigh_any _ 2 (c - 1) _ W ((hp.below h.2.2.2).part_ 1 2 (by omega)) (by omega)
  have q3 := fun W (h : W.cell? ⟨g, 0, none⟩ = some (.int .u8 (fK p)) ∧ W.cell? ⟨g, 5, none⟩ = some (.int .u8 (fM p)) ∧ W.cell? ⟨g, 6, none⟩ = some (.int .u8 Y) ∧ Below w.heap.size w W) => joinHigh_any _ 2 (c - 3) _ W ((hp.below h.2.2.2).part_ 3 2 (by omega)) (by omega)
  have q8 := fun W (h : W.cell? ⟨g, 0, none⟩ = some (.int .u8 (fK p)) ∧ W.cell? ⟨g, 5, none⟩ = some (.int .u8 (fM p)) ∧ W.cell? ⟨g, 6, none⟩ = some (.int .u8 Y) ∧ Below w.heap.size w W) => clone_cell _ (minK p) (c - 8) _ W ((hp.below h.2.2.2).part_ 8 (minK p) (by omega)) (by omega)
  simp only [Nat.zero_add] at q1 q3 q8
  have Q1 : Shut (∀ W : World, (W.cell? ⟨g, 0, none⟩ = some (.int .u8 (fK p)) ∧ W.cell? ⟨g, 5, none⟩ = some (.int .u8 (fM p)) ∧ W.cell? ⟨g, 6, none⟩ = some (.int .u8 Y) ∧ Below w.heap.size w W) → Calls Tryz.prog 121 #[.slice (some ⟨g, 1, none⟩) 2 (c - 1)] W fun e w' => e = .returned (.int .i64 (fS p)) ∧ W = w') := ⟨q1⟩
  have Q3 : Shut (∀ W : World, (W.cell? ⟨g, 0, none⟩ = some (.int .u8 (fK p)) ∧ W.cell? ⟨g, 5, none⟩ = some (.int .u8 (fM p)) ∧ W.cell? ⟨g, 6, none⟩ = some (.int .u8 Y) ∧ Below w.heap.size w W) → Calls Tryz.prog 121 #[.slice (some ⟨g, 3, none⟩) 2 (c - 3)] W fun e w' => e = .returned (.int .i64 (fA p)) ∧ W = w') := ⟨q3⟩
  have Q8 : Shut (∀ W : World, (W.cell? ⟨g, 0, none⟩ = some (.int .u8 (fK p)) ∧ W.cell? ⟨g, 5, none⟩ = some (.int .u8 (fM p)) ∧ W.cell? ⟨g, 6, none⟩ = some (.int .u8 Y) ∧ Below w.heap.size w W) → Stc W w.heap.size [.int .i64 0, .int .i64 0, .int .i64 0, .int .i64 0, .bool false, .slice none 0 0] 52 → Calls Tryz.prog 135 #[.slice (some ⟨g, 8, none⟩) (minK p) (c - 8)] W fun e w' => (∃ A' c', e = .returned (.slice A' (minK p) c') ∧ Ow w' w.heap.size A' (minK p) (fB p (minK p)) ∧ Ow w' (w.heap.size + 1) A' (minK p) (fB p (minK p)) ∧ minK p ≤ c' ∧ (A' = none → c' = 0)) ∧ Stc w' w.heap.size [.int .i64 0, .int .i64 0, .int .i64 0, .int .i64 0, .bool false, .slice none 0 0] 52 ∧ w'.cell? ⟨g, 0, none⟩ = some (.int .u8 (fK p)) ∧ w'.cell? ⟨g, 5, none⟩ = some (.int .u8 (fM p)) ∧ w'.cell? ⟨g, 6, none⟩ = some (.int .u8 Y) ∧ Below w.heap.size w w') := by
    refine ⟨fun W h hT => (q8 W h).mono ?_⟩
    rintro e w' ⟨⟨A', c', he, ho, j1, j2⟩, hb⟩
    have hs := h.2.2.2.size
    have ht := hT.lt
    have hc := fun (i : Nat) => hb.cell (p := ⟨g, i, none⟩) (Nat.lt_of_lt_of_le hg hs)
    exact ⟨⟨A', c', he, ho.mono hs, ho.mono ht, j1, j2⟩, hT.below hb ht, (hc 0).trans h.1, (hc 5).trans h.2.1, (hc 6).trans h.2.2.1, ac h.2.2.2 hb⟩
  have B0 := ab (Below.refl _ w) (.cells #[.int .i64 0, .int .i64 0, .int .i64 0, .int .i64 0, .bool false, .slice none 0 0] 52)
  have T0 := Stc.new w 52 [.int .i64 0, .int .i64 0, .int .i64 0, .int .i64 0, .bool false, .slice none 0 0] _ rfl
  have m0 := cell_past (.cells #[.int .i64 0, .int .i64 0, .int .i64 0, .int .i64 0, .bool false, .slice none 0 0] 52) k0
  have m5 := cell_past (.cells #[.int .i64 0, .int .i64 0, .int .i64 0, .int .i64 0, .bool false, .slice none 0 0] 52) k5
  have m6 := cell_past (.cells #[.int .i64 0, .int .i64 0, .int .i64 0, .int .i64 0, .bool false, .slice none 0 0] 52) k6
  have m7 := cell_past (.cells #[.int .i64 0, .int .i64 0, .int .i64 0, .int .i64 0, .bool false, .slice none 0 0] 52) k7
  have hmin : (if fZ p ≤ 32 then fZ p else 32) = (minK p : Int) := ME.out
  clear hcell q1 q3 q8 L6 k0 k5 k6 k7
  go_enter Tryz.func169, Tryz.ntmps169
  go_upto_region 1 with (fail)
  go_cut [3] from 4 to 8 (fun s wx => s = .int .i64 (minK p : Int) ∧ wx = w.alloc (.cells #[.int .i64 0, .int .i64 0, .int .i64 0, .int .i64 0, .bool false, .slice none 0 0] 52))
  case first =>
    clear Q1 Q3 Q8 B0 T0
    go_wp2
    all_goals
      go_meet
      refine ⟨?_, rfl⟩
      show Value.int .i64 _ = Value.int .i64 _
      congr 1
      first | (rw [← hmin, if_pos (by omega)]) | (rw [← hmin, if_neg (by omega)])
  case rest =>
  obtain ⟨rfl, rfl⟩ := hcut
  clear hmin ME
  have mk1 : (8 : Int) + (minK p : Int) ≤ (c : Int) := by omega
  have mk0 : (0 : Int) ≤ (minK p : Int) := by omega
  have mw : IntKind.i64.wrap (8 + (minK p : Int)) = 8 + (minK p : Int) := IntWalk.i64_in _ (by omega)
  have mk8 : (8 : Int) ≤ 8 + (minK p : Int) := by omega
  have mk9 : (0 : Int) ≤ 8 + (minK p : Int) := by omega
  have hgn : ¬ w.heap.size = g := by omega
  have mt : (8 + (minK p : Int)).toNat = 8 + minK p := by omega
  go_wp2_with fail
  go_region_held3 (fun W => W.cell? ⟨g, 0, none⟩ = some (.int .u8 (fK p)) ∧ W.cell? ⟨g, 5, none⟩ = some (.int .u8 (fM p)) ∧ W.cell? ⟨g, 6, none⟩ = some (.int .u8 Y) ∧ Below w.heap.size w W)
    (first | (exact ⟨by with_reducible assumption, by with_reducible assumption, by with_reducible assumption, by with_reducible assumption⟩) | (refine ⟨?_, ?_, ?_, ((((((y7.setCell (by simp) _).setCell (by simp) _).setCell (by simp) _).setCell (by simp) _).setCell (by simp) _).setCell (by simp) _)⟩; (simp only [World.cell?_setCell_far, hgn, y0, ne_eq, not_false_eq_true]); (simp only [World.cell?_setCell_far, hgn, y5, ne_eq, not_false_eq_true]); (simp only [World.cell?_setCell_far, hgn, y6, ne_eq, not_false_eq_true])) | (exact ⟨m0, m5, m6, B0.drew⟩))
    (first
    | (go_at_call_of 121 (some (⟨g, 1, none⟩ : Addr)); refine (Q1.out _ ?_).mono ?_; (first | assumption | (simp [*]; done)); rintro e w' ⟨rfl, rfl⟩)
    | (go_at_call_of 121 (some (⟨g, 3, none⟩ : Addr)); refine (Q3.out _ ?_).mono ?_; (first | assumption | (simp [*]; done)); rintro e w' ⟨rfl, rfl⟩)
    | (go_at_call 135; refine (Q8.out _ ?_ (by exact T0)).mono ?_; (first | assumption | (simp [*]; done)); rintro e w2 ⟨⟨A', c', rfl, o2, o3, j1, j2⟩, T2, y0, y5, y6, y7⟩; have t0 := T2.cell (i := 0) rfl; have t1 := T2.cell (i := 1) rfl; have t2 := T2.cell (i := 2) rfl; have t3 := T2.cell (i := 3) rfl; have t4 := T2.cell (i := 4) rfl; have t5 := T2.cell (i := 5) rfl; have tf := T2.frozen))
  go_wp2
  refine bodyPost_ret (v := .agg #[.int .i64 (fK p), .int .i64 (fS p), .int .i64 (fA p), .int .i64 (fM p), .bool (fL p), .slice A' (minK p) c']) (by simp [results, Tryz.results169, go_sem, t0, t1, t2, t3, t4, t5]) rfl ?_
  refine ⟨⟨A', c', rfl, ?_, j1, j2⟩, ((((((y7.setCell (by simp) _).setCell (by simp) _).setCell (by simp) _).setCell (by simp) _).setCell (by simp) _).setCell (by simp) _)⟩
  refine ((((((o3.far ?_ _).far ?_ _).far ?_ _).far ?_ _).far ?_ _).far ?_ _).mono (Nat.le_succ _)
  all_goals simp

theorem decOk_min {p : List Int} (h : By p) (hl : p.length = 44) : decOk p = decB p (minK p) := by
  have hz := fZ_bd h
  unfold decOk minK
  by_cases h32 : fZ p ≤ 32
  · rw [if_pos h32, decide_eq_true h32]; simp
  · rw [if_neg h32, decide_eq_false h32]
    cases hb : decB p 32
    · simp
    · have e := fZ_of (fB_len hl 32 (by omega)) hb
      omega
theorem minK_of {p : List Int} (hl : p.length = 44) (hd : decB p (minK p) = true) : minK p = (fZ p).toNat := by
  have e := fZ_of (fB_len hl (minK p) (by have := minK_le p; omega)) hd
  omega

set_option maxHeartbeats 1000000 in
theorem implDecodeCell_len (A : Option Addr) (n c : Nat) (p : List Int) (w : World) (h : ¬ n = 44) :
    Calls Tryz.prog 118 #[.slice A n c] w (DecAns 2 false p w) := by
  have hb : ((n : Int) != 44) = true := by rw [bne_iff_ne]; omega
  go_enter Tryz.func118, Tryz.ntmps118
  go_wp2
  refine bodyPost_ret (v := .agg #[.int .i64 2, .int .i64 0, .int .i64 0, .int .i64 0, .int .i64 0, .int .i64 0, .bool false, .slice none 0 0]) (by simp [results, Tryz.results118, go_sem]) rfl ?_
  exact DecAns.no rfl (by go_grown)

set_option maxHeartbeats 2000000 in
theorem implDecodeCell_bad (g c : Nat) (p : List Int) (w : World) (hp : Bs w (some ⟨g, 0, none⟩) 44 p) (hc : 44 ≤ c) (h0 : ¬ cellC (fK p) (fS p) (fA p) (fM p) (fL p) (minK p) = 0) (hkk : True) :
    Calls Tryz.prog 118 #[.slice (some ⟨g, 0, none⟩) 44 c] w (DecAns 5 false p w) := by
  have T0 := Stc.new w 60 [.int .i64 0, .int .i64 0, .int .i64 0, .int .i64 0, .int .i64 0, .int .i64 0, .bool false, .slice none 0 0] _ rfl
  have B0 := ab (Below.refl _ w) (.cells #[.int .i64 0, .int .i64 0, .int .i64 0, .int .i64 0, .int .i64 0, .int .i64 0, .bool false, .slice none 0 0] 60)
  have HR := Shut.mk (fun W (hW : Below w.heap.size w W) => readCell_any g c p W (hp.below hW) hc)
  have HS := Shut.mk (fun W (hW : Below w.heap.size w W) (A0 : Option Addr) (d0 : Nat) (E : List Int) (ho : Bs W A0 44 E) => implSameBytes_any A0 (some ⟨g, 0, none⟩) 44 d0 44 c E p W ho (hp.below hW))
  have HL := Shut.mk (fB_len hp.len (minK p) (by have := minK_le p; omega))
  have hk := minK_le p
  have HE := Shut.mk (fun (A' : Option Addr) (c' : Nat) (W : World) (h : Bs W A' (minK p) (fB p (minK p))) => implEncodeCell_any (fK p) (fS p) (fA p) (fM p) (fL p) A' (minK p) c' (fB p (minK p)) W h)
  generalize hCC : cellC (fK p) (fS p) (fA p) (fM p) (fL p) (minK p) = C at *
  generalize hEE : cellL (fK p) (fS p) (fA p) (fM p) (fL p) (fB p (minK p)) = E at *
  have HKk := Shut.mk hkk
  clear hCC hEE hkk hp
  generalize minK p = k at *
  go_enter Tryz.func118, Tryz.ntmps118
  go_wp2_with fail
  refine (HR.out _ B0).mono ?_
  rintro e w1 ⟨⟨A', c', rfl, o1, j1, j2⟩, b1⟩
  have B1 := ac B0 b1
  replace T0 := T0.below b1 T0.lt
  have z1 := T0.lt
  have o1' := o1.mono (C := w.heap.size + 1) (by simp)
  clear o1 b1 B0
  go_wp2_with fail
  refine (HE.out A' c' _ (o1'.alloc _).bs).mono ?_
  rintro e w2 ⟨⟨A0, d0, rfl, R0, _, _⟩, b2⟩
  have B2 := ac (ab B1 (.cells #[.int .i64 (fK p), .int .i64 (fS p), .int .i64 (fA p), .int .i64 (fM p), .bool (fL p), .slice A' k c'] 52)) b2
  have D2 := (Stc.new w1 52 [.int .i64 (fK p), .int .i64 (fS p), .int .i64 (fA p), .int .i64 (fM p), .bool (fL p), .slice A' k c'] _ rfl).below b2 (by simp)
  replace T0 := (T0.alloc (.cells #[.int .i64 (fK p), .int .i64 (fS p), .int .i64 (fA p), .int .i64 (fM p), .bool (fL p), .slice A' k c'] 52)).below b2 (by simp; omega)
  have o2 := (o1'.alloc (.cells #[.int .i64 (fK p), .int .i64 (fS p), .int .i64 (fA p), .int .i64 (fM p), .bool (fL p), .slice A' k c'] 52)).below b2 (Nat.le_refl _)
  have z2 := b2.size
  simp only [World.size_alloc] at z2
  clear HE HR B1 o1' b2
  have hx : (C != 0) = true := by simpa using h0
  go_upto_region 6 with (fail)
  generalize hq : (w2.alloc (.cells #[.int .i64 C, .slice A0 (encN C) d0] 46)) = w3 at *
  have D3 : Stc w3 w1.heap.size [.int .i64 (fK p), .int .i64 (fS p), .int .i64 (fA p), .int .i64 (fM p), .bool (fL p), .slice A' k c'] 52 := by rw [← hq]; exact D2.alloc _
  have T3 : Stc w3 w.heap.size [.int .i64 0, .int .i64 0, .int .i64 0, .int .i64 0, .int .i64 0, .int .i64 0, .bool false, .slice none 0 0] 60 := by rw [← hq]; exact T0.alloc _
  have B3 : Below w.heap.size w w3 := by rw [← hq]; exact ab B2 _
  have o3 : Ow w3 (w.heap.size + 1) A' k (fB p k) := by rw [← hq]; exact o2.alloc _
  clear hq
  have t0 := T3.cell (i := 0) rfl
  have t1 := T3.cell (i := 1) rfl
  have t2 := T3.cell (i := 2) rfl
  have t3 := T3.cell (i := 3) rfl
  have t4 := T3.cell (i := 4) rfl
  have t5 := T3.cell (i := 5) rfl
  have t6 := T3.cell (i := 6) rfl
  have t7 := T3.cell (i := 7) rfl
  have tf := T3.frozen
  have d0 := D3.cell (i := 0) rfl
  have d1 := D3.cell (i := 1) rfl
  have d2 := D3.cell (i := 2) rfl
  have d3 := D3.cell (i := 3) rfl
  have d4 := D3.cell (i := 4) rfl
  have d5 := D3.cell (i := 5) rfl
  go_wp2
  refine bodyPost_ret (v := .agg #[.int .i64 5, .int .i64 0, .int .i64 0, .int .i64 0, .int .i64 0, .int .i64 0, .bool false, .slice none 0 0]) (by simp [results, Tryz.results118, go_sem, t0, t1, t2, t3, t4, t5, t6, t7]) rfl ?_
  exact DecAns.no rfl ((((((((B3.setCell (by simp) _).setCell (by simp) _).setCell (by simp) _).setCell (by simp) _).setCell (by simp) _).setCell (by simp) _).setCell (by simp) _).setCell (by simp) _)

set_option maxHeartbeats 2000000 in
theorem implDecodeCell_other (g c : Nat) (p : List Int) (w : World) (hp : Bs w (some ⟨g, 0, none⟩) 44 p) (hc : 44 ≤ c) (h0 : cellC (fK p) (fS p) (fA p) (fM p) (fL p) (minK p) = 0) (h1 : ¬ cellL (fK p) (fS p) (fA p) (fM p) (fL p) (fB p (minK p)) = p) (hkk : True) :
    Calls Tryz.prog 118 #[.slice (some ⟨g, 0, none⟩) 44 c] w (DecAns 5 false p w) := by
  have T0 := Stc.new w 60 [.int .i64 0, .int .i64 0, .int .i64 0, .int .i64 0, .int .i64 0, .int .i64 0, .bool false, .slice none 0 0] _ rfl
  have B0 := ab (Below.refl _ w) (.cells #[.int .i64 0, .int .i64 0, .int .i64 0, .int .i64 0, .int .i64 0, .int .i64 0, .bool false, .slice none 0 0] 60)
  have HR := Shut.mk (fun W (hW : Below w.heap.size w W) => readCell_any g c p W (hp.below hW) hc)
  have HS := Shut.mk (fun W (hW : Below w.heap.size w W) (A0 : Option Addr) (d0 : Nat) (E : List Int) (ho : Bs W A0 44 E) => implSameBytes_any A0 (some ⟨g, 0, none⟩) 44 d0 44 c E p W ho (hp.below hW))
  have HL := Shut.mk (fB_len hp.len (minK p) (by have := minK_le p; omega))
  have hk := minK_le p
  have HE := Shut.mk (fun (A' : Option Addr) (c' : Nat) (W : World) (h : Bs W A' (minK p) (fB p (minK p))) => implEncodeCell_any (fK p) (fS p) (fA p) (fM p) (fL p) A' (minK p) c' (fB p (minK p)) W h)
  generalize hCC : cellC (fK p) (fS p) (fA p) (fM p) (fL p) (minK p) = C at *
  generalize hEE : cellL (fK p) (fS p) (fA p) (fM p) (fL p) (fB p (minK p)) = E at *
  have HKk := Shut.mk hkk
  clear hCC hEE hkk hp
  generalize minK p = k at *
  go_enter Tryz.func118, Tryz.ntmps118
  go_wp2_with fail
  refine (HR.out _ B0).mono ?_
  rintro e w1 ⟨⟨A', c', rfl, o1, j1, j2⟩, b1⟩
  have B1 := ac B0 b1
  replace T0 := T0.below b1 T0.lt
  have z1 := T0.lt
  have o1' := o1.mono (C := w.heap.size + 1) (by simp)
  clear o1 b1 B0
  go_wp2_with fail
  refine (HE.out A' c' _ (o1'.alloc _).bs).mono ?_
  rintro e w2 ⟨⟨A0, d0, rfl, R0, _, _⟩, b2⟩
  have B2 := ac (ab B1 (.cells #[.int .i64 (fK p), .int .i64 (fS p), .int .i64 (fA p), .int .i64 (fM p), .bool (fL p), .slice A' k c'] 52)) b2
  have D2 := (Stc.new w1 52 [.int .i64 (fK p), .int .i64 (fS p), .int .i64 (fA p), .int .i64 (fM p), .bool (fL p), .slice A' k c'] _ rfl).below b2 (by simp)
  replace T0 := (T0.alloc (.cells #[.int .i64 (fK p), .int .i64 (fS p), .int .i64 (fA p), .int .i64 (fM p), .bool (fL p), .slice A' k c'] 52)).below b2 (by simp; omega)
  have o2 := (o1'.alloc (.cells #[.int .i64 (fK p), .int .i64 (fS p), .int .i64 (fA p), .int .i64 (fM p), .bool (fL p), .slice A' k c'] 52)).below b2 (Nat.le_refl _)
  have z2 := b2.size
  simp only [World.size_alloc] at z2
  clear HE HR B1 o1' b2
  subst h0
  have hd : decide (E = p) = false := by simpa using h1
  have Hd := Shut.mk hd
  clear hd h1
  go_wp2_with fail
  refine (HS.out _ (ab B2 _) A0 d0 E (R0.head.alloc _).bs).mono ?_
  rintro e w5 ⟨rfl, rfl⟩
  rw [Hd.out]
  go_upto_region 6 with (fail)
  generalize hq : (w2.alloc (.cells #[.int .i64 0, .slice A0 (encN 0) d0] 46)) = w3 at *
  have D3 : Stc w3 w1.heap.size [.int .i64 (fK p), .int .i64 (fS p), .int .i64 (fA p), .int .i64 (fM p), .bool (fL p), .slice A' k c'] 52 := by rw [← hq]; exact D2.alloc _
  have T3 : Stc w3 w.heap.size [.int .i64 0, .int .i64 0, .int .i64 0, .int .i64 0, .int .i64 0, .int .i64 0, .bool false, .slice none 0 0] 60 := by rw [← hq]; exact T0.alloc _
  have B3 : Below w.heap.size w w3 := by rw [← hq]; exact ab B2 _
  have o3 : Ow w3 (w.heap.size + 1) A' k (fB p k) := by rw [← hq]; exact o2.alloc _
  clear hq
  have t0 := T3.cell (i := 0) rfl
  have t1 := T3.cell (i := 1) rfl
  have t2 := T3.cell (i := 2) rfl
  have t3 := T3.cell (i := 3) rfl
  have t4 := T3.cell (i := 4) rfl
  have t5 := T3.cell (i := 5) rfl
  have t6 := T3.cell (i := 6) rfl
  have t7 := T3.cell (i := 7) rfl
  have tf := T3.frozen
  have d0 := D3.cell (i := 0) rfl
  have d1 := D3.cell (i := 1) rfl
  have d2 := D3.cell (i := 2) rfl
  have d3 := D3.cell (i := 3) rfl
  have d4 := D3.cell (i := 4) rfl
  have d5 := D3.cell (i := 5) rfl
  go_wp2
  refine bodyPost_ret (v := .agg #[.int .i64 5, .int .i64 0, .int .i64 0, .int .i64 0, .int .i64 0, .int .i64 0, .bool false, .slice none 0 0]) (by simp [results, Tryz.results118, go_sem, t0, t1, t2, t3, t4, t5, t6, t7]) rfl ?_
  exact DecAns.no rfl ((((((((B3.setCell (by simp) _).setCell (by simp) _).setCell (by simp) _).setCell (by simp) _).setCell (by simp) _).setCell (by simp) _).setCell (by simp) _).setCell (by simp) _)

set_option maxHeartbeats 2000000 in
theorem implDecodeCell_ok (g c : Nat) (p : List Int) (w : World) (hp : Bs w (some ⟨g, 0, none⟩) 44 p) (hc : 44 ≤ c) (h0 : cellC (fK p) (fS p) (fA p) (fM p) (fL p) (minK p) = 0) (h1 : cellL (fK p) (fS p) (fA p) (fM p) (fL p) (fB p (minK p)) = p) (hkk : minK p = (fZ p).toNat) :
    Calls Tryz.prog 118 #[.slice (some ⟨g, 0, none⟩) 44 c] w (DecAns 0 true p w) := by
  have T0 := Stc.new w 60 [.int .i64 0, .int .i64 0, .int .i64 0, .int .i64 0, .int .i64 0, .int .i64 0, .bool false, .slice none 0 0] _ rfl
  have B0 := ab (Below.refl _ w) (.cells #[.int .i64 0, .int .i64 0, .int .i64 0, .int .i64 0, .int .i64 0, .int .i64 0, .bool false, .slice none 0 0] 60)
  have HR := Shut.mk (fun W (hW : Below w.heap.size w W) => readCell_any g c p W (hp.below hW) hc)
  have HS := Shut.mk (fun W (hW : Below w.heap.size w W) (A0 : Option Addr) (d0 : Nat) (E : List Int) (ho : Bs W A0 44 E) => implSameBytes_any A0 (some ⟨g, 0, none⟩) 44 d0 44 c E p W ho (hp.below hW))
  have HL := Shut.mk (fB_len hp.len (minK p) (by have := minK_le p; omega))
  have hk := minK_le p
  have HE := Shut.mk (fun (A' : Option Addr) (c' : Nat) (W : World) (h : Bs W A' (minK p) (fB p (minK p))) => implEncodeCell_any (fK p) (fS p) (fA p) (fM p) (fL p) A' (minK p) c' (fB p (minK p)) W h)
  generalize hCC : cellC (fK p) (fS p) (fA p) (fM p) (fL p) (minK p) = C at *
  generalize hEE : cellL (fK p) (fS p) (fA p) (fM p) (fL p) (fB p (minK p)) = E at *
  have HKk := Shut.mk hkk
  clear hCC hEE hkk hp
  generalize minK p = k at *
  go_enter Tryz.func118, Tryz.ntmps118
  go_wp2_with fail
  refine (HR.out _ B0).mono ?_
  rintro e w1 ⟨⟨A', c', rfl, o1, j1, j2⟩, b1⟩
  have B1 := ac B0 b1
  replace T0 := T0.below b1 T0.lt
  have z1 := T0.lt
  have o1' := o1.mono (C := w.heap.size + 1) (by simp)
  clear o1 b1 B0
  go_wp2_with fail
  refine (HE.out A' c' _ (o1'.alloc _).bs).mono ?_
  rintro e w2 ⟨⟨A0, d0, rfl, R0, _, _⟩, b2⟩
  have B2 := ac (ab B1 (.cells #[.int .i64 (fK p), .int .i64 (fS p), .int .i64 (fA p), .int .i64 (fM p), .bool (fL p), .slice A' k c'] 52)) b2
  have D2 := (Stc.new w1 52 [.int .i64 (fK p), .int .i64 (fS p), .int .i64 (fA p), .int .i64 (fM p), .bool (fL p), .slice A' k c'] _ rfl).below b2 (by simp)
  replace T0 := (T0.alloc (.cells #[.int .i64 (fK p), .int .i64 (fS p), .int .i64 (fA p), .int .i64 (fM p), .bool (fL p), .slice A' k c'] 52)).below b2 (by simp; omega)
  have o2 := (o1'.alloc (.cells #[.int .i64 (fK p), .int .i64 (fS p), .int .i64 (fA p), .int .i64 (fM p), .bool (fL p), .slice A' k c'] 52)).below b2 (Nat.le_refl _)
  have z2 := b2.size
  simp only [World.size_alloc] at z2
  clear HE HR B1 o1' b2
  subst h0
  have hd : decide (E = p) = true := by simpa using h1
  have Hd := Shut.mk hd
  clear hd h1
  go_wp2_with fail
  refine (HS.out _ (ab B2 _) A0 d0 E (R0.head.alloc _).bs).mono ?_
  rintro e w5 ⟨rfl, rfl⟩
  rw [Hd.out]
  go_upto_region 7 with (fail)
  generalize hq : (w2.alloc (.cells #[.int .i64 0, .slice A0 (encN 0) d0] 46)) = w3 at *
  have D3 : Stc w3 w1.heap.size [.int .i64 (fK p), .int .i64 (fS p), .int .i64 (fA p), .int .i64 (fM p), .bool (fL p), .slice A' k c'] 52 := by rw [← hq]; exact D2.alloc _
  have T3 : Stc w3 w.heap.size [.int .i64 0, .int .i64 0, .int .i64 0, .int .i64 0, .int .i64 0, .int .i64 0, .bool false, .slice none 0 0] 60 := by rw [← hq]; exact T0.alloc _
  have B3 : Below w.heap.size w w3 := by rw [← hq]; exact ab B2 _
  have o3 : Ow w3 (w.heap.size + 1) A' k (fB p k) := by rw [← hq]; exact o2.alloc _
  clear hq
  have t0 := T3.cell (i := 0) rfl
  have t1 := T3.cell (i := 1) rfl
  have t2 := T3.cell (i := 2) rfl
  have t3 := T3.cell (i := 3) rfl
  have t4 := T3.cell (i := 4) rfl
  have t5 := T3.cell (i := 5) rfl
  have t6 := T3.cell (i := 6) rfl
  have t7 := T3.cell (i := 7) rfl
  have tf := T3.frozen
  have d0 := D3.cell (i := 0) rfl
  have d1 := D3.cell (i := 1) rfl
  have d2 := D3.cell (i := 2) rfl
  have d3 := D3.cell (i := 3) rfl
  have d4 := D3.cell (i := 4) rfl
  have d5 := D3.cell (i := 5) rfl
  go_wp2
  refine bodyPost_ret (v := .agg #[.int .i64 0, .int .i64 0, .int .i64 (fK p), .int .i64 (fS p), .int .i64 (fA p), .int .i64 (fM p), .bool (fL p), .slice A' k c']) (by simp [results, Tryz.results118, go_sem, t0, t1, t2, t3, t4, t5, t6, t7]) rfl ?_
  refine ⟨⟨A', c', by simp [selI, selB, selN, ← HKk.out], ?_, by simpa [selN, ← HKk.out] using j1, j2⟩, ((((((((B3.setCell (by simp) _).setCell (by simp) _).setCell (by simp) _).setCell (by simp) _).setCell (by simp) _).setCell (by simp) _).setCell (by simp) _).setCell (by simp) _)⟩
  simp only [selN, selL, if_pos, ← HKk.out]
  refine Rs.one (((((((((o3.far ?_ _).far ?_ _).far ?_ _).far ?_ _).far ?_ _).far ?_ _).far ?_ _).far ?_ _).mono (Nat.le_succ _))
  all_goals simp

theorem DecAns.rs {C : Int} {b : Bool} {p : List Int} {w : World} {e : Ending} {w' : World} (h : DecAns C b p w e w') :
    (∃ A0 d0, e = .returned (.agg #[.int .i64 C, .int .i64 0, .int .i64 (selI b (fK p)), .int .i64 (selI b (fS p)), .int .i64 (selI b (fA p)), .int .i64 (selI b (fM p)), .bool (selB b (fL p)), .slice A0 (selN b (fZ p).toNat) d0]) ∧ Rs w' w.heap.size [(A0, selN b (fZ p).toNat, selL b (fB p (fZ p).toNat))]) ∧ Below w.heap.size w w' :=
  ⟨by obtain ⟨A0, d0, h1, h2, _⟩ := h.1; exact ⟨A0, d0, h1, h2⟩, h.2⟩
theorem selN_le {p : List Int} (h : By p) (b : Bool) : selN b (fZ p).toNat ≤ 2000000 := by
  have := fZ_bd h
  unfold selN
  split <;> omega

theorem implDecodeCell_any (g n c : Nat) (p : List Int) (w : World) (hp : Bs w (some ⟨g, 0, none⟩) n p) (hc : n ≤ c) :
    Calls Tryz.prog 118 #[.slice (some ⟨g, 0, none⟩) n c] w (DecAns (decCode n p) (decD n p) p w) := by
  by_cases h : n = 44
  · subst h
    have e4 : decD 44 p = decB p (minK p) := by rw [← decOk_min hp.byte hp.len]; simp [decD]
    have e5 : decCode 44 p = (if decB p (minK p) = true then 0 else 5) := by rw [← decOk_min hp.byte hp.len]; simp [decCode]
    rw [e4, e5]
    by_cases h0 : cellC (fK p) (fS p) (fA p) (fM p) (fL p) (minK p) = 0
    · by_cases h1 : cellL (fK p) (fS p) (fA p) (fM p) (fL p) (fB p (minK p)) = p
      · have hb : decB p (minK p) = true := by simp [decB, h0, h1]
        have hm := minK_of hp.len hb
        rw [hb]
        exact implDecodeCell_ok g c p w hp hc h0 h1 hm
      · have hb : decB p (minK p) = false := by simp [decB, h1]
        rw [hb]
        exact implDecodeCell_other g c p w hp hc h0 h1 trivial
    · have hb : decB p (minK p) = false := by simp [decB, h0]
      rw [hb]
      exact implDecodeCell_bad g c p w hp hc h0 trivial
  · have e1 : decCode n p = 2 := by simp [decCode, h]
    have e2 : decD n p = false := by simp [decD, h]
    rw [e1, e2]
    exact implDecodeCell_len _ n c p w h
end Go.Proofs.YtabhcolfkkfonaaGreatDoor
