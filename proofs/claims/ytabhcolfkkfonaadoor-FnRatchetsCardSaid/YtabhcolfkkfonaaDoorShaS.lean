/- SHA-256, of the program: a block. -/
import Derived.Test.YtabhcolfkkfonaaDoorShaR
namespace Go.Proofs.YtabhcolfkkfonaaDoor
open Go.RowKit

/-- the program's two tables lie as they are laid -/
structure Tabs (w : World) : Prop where
  first : ∃ t f, w.heap[0]? = some (.cells ((firstWords.map (Value.int .u32)).toArray) t f)
  round : ∃ t f, w.heap[1]? = some (.cells ((roundWords.map (Value.int .u32)).toArray) t f)
theorem Tabs.keep {w w' : World} (h : Tabs w) (hb : Below w.heap.size w w') : Tabs w' := by
  obtain ⟨⟨t, f, h1⟩, t', f', h2⟩ := h
  exact ⟨⟨t, f, (hb.block _ (Array.getElem?_eq_some_iff.1 h1).1).trans h1⟩, t', f', (hb.block _ (Array.getElem?_eq_some_iff.1 h2).1).trans h2⟩
theorem Tabs.roundAt {w : World} (h : Tabs w) (t : Nat) (ht : t < 64) : w.cell? ⟨1, t, none⟩ = some (.int .u32 (roundWords.getD t 0)) := by
  obtain ⟨ty, f, h2⟩ := h.round
  rw [cell_of_row w _ t _ ty f h2]
  have hl : roundWords.length = 64 := rfl
  simp [List.getD, List.getElem?_eq_getElem (show t < roundWords.length by omega)]

theorem step_zero (V : List Int) (k x : Int) : stepV V 0 ((k + x) % 4294967296) = stepV V k x := by
  have h : tOne V 0 ((k + x) % 4294967296) = tOne V k x := by unfold tOne addW; omega
  unfold stepV
  rw [h]

/-- a round, with its answer's eight words by name -/
theorem round8 {V0 V1 V2 V3 V4 V5 V6 V7 U0 U1 U2 U3 U4 U5 U6 U7 k x : Int} (hV : Wd [V0, V1, V2, V3, V4, V5, V6, V7]) (hU : stepV [V0, V1, V2, V3, V4, V5, V6, V7] k x = [U0, U1, U2, U3, U4, U5, U6, U7]) (w : World) :
    Calls Tryd.prog 62 #[.agg #[.int .u32 V0, .int .u32 V1, .int .u32 V2, .int .u32 V3, .int .u32 V4, .int .u32 V5, .int .u32 V6, .int .u32 V7], .int .u32 ((k + x) % 4294967296)] w fun e w' =>
      e = .returned (.agg #[.int .u32 U0, .int .u32 U1, .int .u32 U2, .int .u32 U3, .int .u32 U4, .int .u32 U5, .int .u32 U6, .int .u32 U7]) ∧ Below w.heap.size w w' := by
  have h := round_any V0 V1 V2 V3 V4 V5 V6 V7 ((k + x) % 4294967296) hV w
  rw [step_zero, hU] at h
  exact h

theorem list8x (L : List Int) (h : L.length = 8) : ∃ U0 U1 U2 U3 U4 U5 U6 U7, L = [U0, U1, U2, U3, U4, U5, U6, U7] := ⟨_, _, _, _, _, _, _, _, list8 L h⟩

theorem stored_row (W : World) (cs old : Array Value) (T : TypeId) :
    Below W.heap.size W ((W.alloc (.cells old T)).setRow W.heap.size cs) ∧ ((W.alloc (.cells old T)).setRow W.heap.size cs).heap[W.heap.size]? = some (.cells cs T (0, 0)) ∧ ((W.alloc (.cells old T)).setRow W.heap.size cs).heap.size = W.heap.size + 1 :=
  ⟨below_setRow (ab (Below.refl _ _) _) (Nat.le_refl _) _, setRow_heap _ _ _ _ _ _ (heap_alloc_new W _), by rw [size_setRow, World.size_alloc]⟩

theorem blockW_len8 (H l : List Int) : (blockW H l).length = 8 := by simp [blockW]

theorem idx64 (cs : Array Value) (t : Nat) (x : Int) (hc : cs[t]? = some (.int .u32 x)) (ht : t < 64) (w : World) :
    (Instr.index 81 (.agg cs) (.int .i64 (t : Int))).run Tryd.prog w = .ok (.int .u32 x) w := by
  obtain ⟨i, hi, hz0, hz1, hz2⟩ := info_parts info_u32
  simp [Instr.index, run_underlying Tryd.underlying81, asIntOf, isAgg, run_underlying Tryd.underlying70, Go.sizeOf, typeInfo, hi, hz1, hc, go_sem]
  intro h; omega
theorem idx8 (cs : Array Value) (t : Nat) (x : Int) (hc : cs[t]? = some (.int .u32 x)) (ht : t < 8) (w : World) :
    (Instr.index 72 (.agg cs) (.int .i64 (t : Int))).run Tryd.prog w = .ok (.int .u32 x) w := by
  obtain ⟨i, hi, hz0, hz1, hz2⟩ := info_parts info_u32
  simp [Instr.index, run_underlying Tryd.underlying72, asIntOf, isAgg, run_underlying Tryd.underlying70, Go.sizeOf, typeInfo, hi, hz1, hc, go_sem]
  intro h; omega

theorem KOw.full8 {w : World} {g : Nat} {a0 a1 a2 a3 a4 a5 a6 a7 : Int} (h : KOw .u32 w g [a0, a1, a2, a3, a4, a5, a6, a7]) :
    w.cell? ⟨g, 0, none⟩ = some (.int .u32 a0) ∧ w.cell? ⟨g, 1, none⟩ = some (.int .u32 a1) ∧ w.cell? ⟨g, 2, none⟩ = some (.int .u32 a2) ∧ w.cell? ⟨g, 3, none⟩ = some (.int .u32 a3) ∧ w.cell? ⟨g, 4, none⟩ = some (.int .u32 a4) ∧ w.cell? ⟨g, 5, none⟩ = some (.int .u32 a5) ∧ w.cell? ⟨g, 6, none⟩ = some (.int .u32 a6) ∧ w.cell? ⟨g, 7, none⟩ = some (.int .u32 a7) ∧
    w.frozen? ⟨g, 0, none⟩ = false ∧ w.frozen? ⟨g, 1, none⟩ = false ∧ w.frozen? ⟨g, 2, none⟩ = false ∧ w.frozen? ⟨g, 3, none⟩ = false ∧ w.frozen? ⟨g, 4, none⟩ = false ∧ w.frozen? ⟨g, 5, none⟩ = false ∧ w.frozen? ⟨g, 6, none⟩ = false ∧ w.frozen? ⟨g, 7, none⟩ = false :=
  ⟨h.cell 0 (by simp), h.cell 1 (by simp), h.cell 2 (by simp), h.cell 3 (by simp), h.cell 4 (by simp), h.cell 5 (by simp), h.cell 6 (by simp), h.cell 7 (by simp), h.frozen 0, h.frozen 1, h.frozen 2, h.frozen 3, h.frozen 4, h.frozen 5, h.frozen 6, h.frozen 7⟩

set_option maxRecDepth 100000 in
set_option maxHeartbeats 4000000 in
theorem block_any (H0 H1 H2 H3 H4 H5 H6 H7 : Int) (A : Option Addr) (bc : Nat) (l : List Int) (w : World) (hT : Tabs w) (hwd : Wd [H0, H1, H2, H3, H4, H5, H6, H7]) (h : Bs w A 64 l) (hbc : 64 ≤ bc) :
    Calls Tryd.prog 51 #[.agg #[.int .u32 H0, .int .u32 H1, .int .u32 H2, .int .u32 H3, .int .u32 H4, .int .u32 H5, .int .u32 H6, .int .u32 H7], .slice A 64 bc] w fun e w' =>
      e = .returned (.agg (((blockW [H0, H1, H2, H3, H4, H5, H6, H7] l).map (Value.int .u32)).toArray)) ∧ Below w.heap.size w w' := by
  go_enter Tryd.func51, Tryd.ntmps51
  go_wp2_with fail
  generalize hW : World.alloc (World.alloc w _) _ = W1
  have k1 : KOw .u32 W1 w.heap.size [H0, H1, H2, H3, H4, H5, H6, H7] := by
    rw [← hW]
    exact (kow_new w .u32 _ [H0, H1, H2, H3, H4, H5, H6, H7] _ rfl).alloc _
  have k2 : KOw .u32 W1 (w.heap.size + 1) [0, 0, 0, 0, 0, 0, 0, 0] := by
    rw [← hW]
    have := kow_new (w.alloc (.cells #[.int .u32 H0, .int .u32 H1, .int .u32 H2, .int .u32 H3, .int .u32 H4, .int .u32 H5, .int .u32 H6, .int .u32 H7] 72)) .u32 72 [0, 0, 0, 0, 0, 0, 0, 0] _ rfl
    rw [World.size_alloc] at this
    exact this
  have b1 : Below w.heap.size w W1 := by rw [← hW]; exact ab (ab (Below.refl _ _) _) _
  have z1 : W1.heap.size = w.heap.size + 2 := by rw [← hW]; simp
  clear hW
  refine (wordsOfBlock_any A bc l W1 (h.below b1) hbc).mono ?_
  rintro e W2 ⟨rfl, b2⟩
  have z2 := b2.size
  have m1 := k1.below b2 k1.lt
  have m2 := k2.below b2 k2.lt
  have B2 := ac b1 b2
  clear k1 k2 b1 b2
  obtain ⟨cs, hcs⟩ : ∃ cs, cs = ((sched l 64).map (Value.int .u32)).toArray := ⟨_, rfl⟩
  have hsz : cs.size = 64 := by rw [hcs]; simp [sched_len]
  have hone : cs.all (·.oneCell') = true := by
    rw [hcs, Array.all_eq_true_iff_forall_mem]
    intro v hv
    simp only [List.mem_toArray, List.mem_map] at hv
    obtain ⟨y, _, rfl⟩ := hv
    rfl
  rw [← hcs]
  have HZ := Shut.mk hsz
  have HO := Shut.mk hone
  have HC := Shut.mk hcs
  clear hcs hsz hone
  have Z1 := Shut.mk z1
  clear z1
  have c0 := m1.cell 0 (by simp)
  have c1 := m1.cell 1 (by simp)
  have c2 := m1.cell 2 (by simp)
  have c3 := m1.cell 3 (by simp)
  have c4 := m1.cell 4 (by simp)
  have c5 := m1.cell 5 (by simp)
  have c6 := m1.cell 6 (by simp)
  have c7 := m1.cell 7 (by simp)
  simp only [List.getD_cons_zero, List.getD_cons_succ] at c0 c1 c2 c3 c4 c5 c6 c7
  have z3 : w.heap.size < W2.heap.size := by rw [Z1.out] at z2; omega
  go_wp2_with (first | (refine wpList_store_row rfl 81 (.tmp 5) (.tmp 12) rfl W2.heap.size cs rfl rfl 81 _ (heap_alloc_new W2 _) (by rw [HZ.out]; kernel_rfl) (by rw [HZ.out]; rfl) HO.out ?_; obtain ⟨y1, y2, y3⟩ := stored_row W2 cs _ 81; generalize World.setRow _ _ _ = W3 at y1 y2 y3 ⊢; obtain ⟨f0, f1, f2⟩ := bcell y1; have Y2 := Shut.mk y2; have Y3 := Shut.mk y3; clear y2 y3) | (refine wpList_load_row rfl 81 (.tmp 5) rfl W2.heap.size rfl 81 cs (0, 0) _ ((Below.heap_alloc W3 _ W2.heap.size (by rw [Y3.out]; omega)).trans Y2.out) Tryd.underlying81 rfl (by rw [HZ.out]; kernel_rfl) ?_))
  have T3 : Tabs W3 := (hT.keep B2).keep y1
  have r1 := ((m1.below y1 (by omega)).alloc (.cells #[.int .u32 H0, .int .u32 H1, .int .u32 H2, .int .u32 H3, .int .u32 H4, .int .u32 H5, .int .u32 H6, .int .u32 H7] 72))
  have r2 := ((m2.below y1 m2.lt).alloc (.cells #[.int .u32 H0, .int .u32 H1, .int .u32 H2, .int .u32 H3, .int .u32 H4, .int .u32 H5, .int .u32 H6, .int .u32 H7] 72))
  have r3 := kow_new W3 .u32 72 [H0, H1, H2, H3, H4, H5, H6, H7] #[.int .u32 H0, .int .u32 H1, .int .u32 H2, .int .u32 H3, .int .u32 H4, .int .u32 H5, .int .u32 H6, .int .u32 H7] rfl
  have bW := ab (Below.refl W3.heap.size W3) (.cells #[.int .u32 H0, .int .u32 H1, .int .u32 H2, .int .u32 H3, .int .u32 H4, .int .u32 H5, .int .u32 H6, .int .u32 H7] 72)
  have B4 := ab (ac B2 y1) (.cells #[.int .u32 H0, .int .u32 H1, .int .u32 H2, .int .u32 H3, .int .u32 H4, .int .u32 H5, .int .u32 H6, .int .u32 H7] 72)
  have z4 : w.heap.size + 1 < W3.heap.size := by rw [Y3.out]; have := m2.lt; omega
  clear f0 f1 f2 y1 m1 m2 hT B2 z3 c0 c1 c2 c3 c4 c5 c6 c7 z2
  generalize W3.alloc _ = W4 at *
  go_loopw [15] (fun i wr => ∃ t : Nat, t ≤ 64 ∧ i = .int .i64 (t : Int) ∧ KOw .u32 wr W3.heap.size (roundsV [H0, H1, H2, H3, H4, H5, H6, H7] l t) ∧ Below W3.heap.size W4 wr) (fun i _ => 64 - (intOf i).toNat)
  case atStart => exact ⟨0, by omega, rfl, r3, Below.refl _ _⟩
  case round =>
    clear r3
    obtain ⟨t, ht, rfl, k3, hbel⟩ := hrel
    have Tr := T3.keep (bW.trans hbel)
    have hz := k3.lt
    have hV8 := roundsV_len [H0, H1, H2, H3, H4, H5, H6, H7] l rfl t
    have hVw := roundsV_wd [H0, H1, H2, H3, H4, H5, H6, H7] l hwd t
    by_cases hlt : t < 64
    · have hU8 := roundsV_len [H0, H1, H2, H3, H4, H5, H6, H7] l rfl (t + 1)
      have hc0 := Tr.roundAt t hlt
      have hs : roundsV [H0, H1, H2, H3, H4, H5, H6, H7] l (t + 1) = stepV (roundsV [H0, H1, H2, H3, H4, H5, H6, H7] l t) (roundWords.getD t 0) ((sched l 64).getD t 0) := rfl
      have hix : cs[t]? = some (.int .u32 ((sched l 64).getD t 0)) := by
        rw [HC.out]
        have := sched_len l 64
        simp [List.getD, List.getElem?_eq_getElem (show t < (sched l 64).length by omega)]
      have hi := idx64 cs t _ hix hlt
      have hsw := sched_word l h.byte 64 t
      have hrw := roundWords_wd t
      have HR := Shut.mk hs
      clear hs hix Tr
      generalize (sched l 64).getD t 0 = WT at *
      generalize roundWords.getD t 0 = KT at *
      obtain ⟨U0, U1, U2, U3, U4, U5, U6, U7, hU⟩ := list8x _ hU8
      obtain ⟨V0, V1, V2, V3, V4, V5, V6, V7, hV⟩ := list8x _ hV8
      rw [hU, hV] at HR
      rw [hV] at hVw k3
      have G := fun (W : World) (hk : KOw .u32 W W3.heap.size [V0, V1, V2, V3, V4, V5, V6, V7]) => (round8 hVw HR.out.symm W).mono (fun e w' (h : _ ∧ _) => (⟨h.1, h.2, (hk.below h.2 hk.lt).full8⟩ : _ ∧ _ ∧ _))
      have G' := Shut.mk G
      have HU := Shut.mk hU
      have c0 := k3.cell 0 (by simp)
      have c1 := k3.cell 1 (by simp)
      have c2 := k3.cell 2 (by simp)
      have c3 := k3.cell 3 (by simp)
      have c4 := k3.cell 4 (by simp)
      have c5 := k3.cell 5 (by simp)
      have c6 := k3.cell 6 (by simp)
      have c7 := k3.cell 7 (by simp)
      simp only [List.getD_cons_zero, List.getD_cons_succ] at c0 c1 c2 c3 c4 c5 c6 c7
      clear hU hV hU8 hV8 hVw G HR
      obtain ⟨hs0, hs1⟩ := hsw
      obtain ⟨hr0, hr1⟩ := hrw
      have hti : (t : Int) < 64 := by omega
      go_wp2
      clear hi
      go_region_with (go_at_call 62; refine (G'.out _ k3.drew).mono ?_; rintro e w' ⟨rfl, hb, x0, x1, x2, x3, x4, x5, x6, x7, y0, y1, y2, y3, y4, y5, y6, y7⟩)
      all_goals
        clear x0 x1 x2 x3 x4 x5 x6 x7 y0 y1 y2 y3 y4 y5 y6 y7 c0 c1 c2 c3 c4 c5 c6 c7 hc0
        go_wp2
        refine ⟨⟨t + 1, by omega, by go_num, ?_, below8 ((hbel.drew).trans (hb.mono (Nat.le_of_lt hz))) (Nat.le_refl _) _ _ _ _ _ _ _ _⟩, by simp [intOf]; omega⟩
        rw [HU.out]
        exact set8 rfl ((k3.drew).below hb k3.lt) U0 U1 U2 U3 U4 U5 U6 U7
    · obtain rfl : t = 64 := by omega
      have q1 := r1.below hbel (by omega)
      have q2 := r2.below hbel z4
      have Bq := B4.trans (hbel.mono (by omega))
      have Hm : Shut (∀ m, m < 8 → (mixTo [H0, H1, H2, H3, H4, H5, H6, H7] (roundsV [H0, H1, H2, H3, H4, H5, H6, H7] l 64) m).set m (addW ([H0, H1, H2, H3, H4, H5, H6, H7].getD m 0) ((roundsV [H0, H1, H2, H3, H4, H5, H6, H7] l 64).getD m 0)) = mixTo [H0, H1, H2, H3, H4, H5, H6, H7] (roundsV [H0, H1, H2, H3, H4, H5, H6, H7] l 64) (m + 1)) := ⟨fun m hm => mixTo_set _ _ m hm⟩
      have Hall := Shut.mk (mixTo_all [H0, H1, H2, H3, H4, H5, H6, H7] l)
      generalize roundsV [H0, H1, H2, H3, H4, H5, H6, H7] l 64 = VV at *
      obtain ⟨V0, V1, V2, V3, V4, V5, V6, V7, rfl⟩ := list8x _ hV8
      have c0 := k3.cell 0 (by simp)
      have c1 := k3.cell 1 (by simp)
      have c2 := k3.cell 2 (by simp)
      have c3 := k3.cell 3 (by simp)
      have c4 := k3.cell 4 (by simp)
      have c5 := k3.cell 5 (by simp)
      have c6 := k3.cell 6 (by simp)
      have c7 := k3.cell 7 (by simp)
      simp only [List.getD_cons_zero, List.getD_cons_succ] at c0 c1 c2 c3 c4 c5 c6 c7
      clear k3 hbel r1 r2 T3 bW B4 Tr hz hV8
      obtain ⟨w5, rfl⟩ : ∃ x, x = wr := ⟨_, rfl⟩
      go_wp2
      clear c0 c1 c2 c3 c4 c5 c6 c7
      go_loopw [28] (fun i wq => ∃ m : Nat, m ≤ 8 ∧ i = .int .i64 (m : Int) ∧ KOw .u32 wq w.heap.size (mixTo [H0, H1, H2, H3, H4, H5, H6, H7] [V0, V1, V2, V3, V4, V5, V6, V7] m) ∧ KOw .u32 wq (w.heap.size + 1) [0, 0, 0, 0, 0, 0, 0, 0] ∧ Below w.heap.size w wq) (fun i _ => 8 - (intOf i).toNat)
      case atStart => exact ⟨0, by omega, rfl, by rw [mixTo_zero _ _ rfl]; exact q1, q2, Bq⟩
      case round =>
        clear q1 q2 Bq
        obtain ⟨m, hm, rfl, q1, q2, Bq⟩ := hrel
        by_cases hlm : m < 8
        · have hml := mixTo_len [H0, H1, H2, H3, H4, H5, H6, H7] [V0, V1, V2, V3, V4, V5, V6, V7] m
          have p0 := q1.cell m (by omega)
          rw [mixTo_get _ _ _ hlm] at p0
          have pf := q1.frozen m
          have r0 := hwd.get m
          have r1 := hVw.get m
          have hix : (#[Value.int .u32 V0, .int .u32 V1, .int .u32 V2, .int .u32 V3, .int .u32 V4, .int .u32 V5, .int .u32 V6, .int .u32 V7] : Array Value)[m]? = some (.int .u32 ([V0, V1, V2, V3, V4, V5, V6, V7].getD m 0)) := by
            have e : m = 0 ∨ m = 1 ∨ m = 2 ∨ m = 3 ∨ m = 4 ∨ m = 5 ∨ m = 6 ∨ m = 7 := by omega
            rcases e with rfl | rfl | rfl | rfl | rfl | rfl | rfl | rfl <;> rfl
          have hi := idx8 _ m _ hix hlm
          have Hset := Shut.mk (Hm.out m hlm)
          generalize [H0, H1, H2, H3, H4, H5, H6, H7].getD m 0 = HM at *
          generalize [V0, V1, V2, V3, V4, V5, V6, V7].getD m 0 = VM at *
          obtain ⟨r00, r01⟩ := r0
          obtain ⟨r10, r11⟩ := r1
          have hmi : (m : Int) < 8 := by omega
          clear hml hix
          go_wp2
          refine ⟨⟨m + 1, by omega, by go_num, ?_, q2.far (by simp) _, Bq.setCell (Nat.le_refl _) _⟩, by simp [intOf]; omega⟩
          rw [← Hset.out]
          exact q1.set_ m (by rw [mixTo_len]; exact hlm) _
        · obtain rfl : m = 8 := by omega
          rw [Hall.out] at q1
          have hB8 := blockW_len8 [H0, H1, H2, H3, H4, H5, H6, H7] l
          obtain ⟨X0, X1, X2, X3, X4, X5, X6, X7, hX⟩ := list8x _ hB8
          have HX := Shut.mk hX
          rw [hX] at q1
          obtain ⟨e0, e1, e2, e3, e4, e5, e6, e7, g0, g1, g2, g3, g4, g5, g6, g7⟩ := q1.full8
          obtain ⟨f0, f1, f2, f3, f4, f5, f6, f7, h0, h1, h2, h3, h4, h5, h6, h7⟩ := q2.full8
          clear hX hB8 Hm Hall hwd hVw
          go_wp2
          have q4 := set8 rfl q2 X0 X1 X2 X3 X4 X5 X6 X7
          have b4 := below8 Bq (show w.heap.size ≤ w.heap.size + 1 by omega) (.int .u32 X0) (.int .u32 X1) (.int .u32 X2) (.int .u32 X3) (.int .u32 X4) (.int .u32 X5) (.int .u32 X6) (.int .u32 X7)
          clear e0 e1 e2 e3 e4 e5 e6 e7 g0 g1 g2 g3 g4 g5 g6 g7 f0 f1 f2 f3 f4 f5 f6 f7 h0 h1 h2 h3 h4 h5 h6 h7
          generalize World.setCell _ ⟨w.heap.size + 1, 7, none⟩ _ = W9 at *
          obtain ⟨c0, c1, c2, c3, c4, c5, c6, c7, _⟩ := q4.full8
          refine bodyPost_ret (v := .agg #[.int .u32 X0, .int .u32 X1, .int .u32 X2, .int .u32 X3, .int .u32 X4, .int .u32 X5, .int .u32 X6, .int .u32 X7]) (by simp [results, Tryd.results51, go_sem, c0, c1, c2, c3, c4, c5, c6, c7]) rfl ⟨?_, b4⟩
          rw [HX.out]
          rfl
end Go.Proofs.YtabhcolfkkfonaaDoor
