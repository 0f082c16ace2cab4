/- SHA-256, of the program: the words of a block, and a block. -/
import Derived.Test.YtabhcolfkkfonaaDoorShaQ
import Derived.Test.YtabhcolfkkfonaaDoorBase
import Derived.Deep.CutRange
import Derived.Laws.CopyOwn
namespace Go.Proofs.YtabhcolfkkfonaaDoor
open Go.RowKit

/-- the word behind t words, out of four of them (behind a name: the walk must not look into it) -/
structure NextW (l : List Int) (t : Nat) (a b c d : Int) : Prop where
  out : sched l (t + 1) = sched l t ++ [addW (addW (addW a (sig0 b)) c) (sig1 d)]
theorem nextW (l : List Int) (j : Nat) : NextW l (j + 16) ((sched l (j + 16)).getD j 0) ((sched l (j + 16)).getD (j + 1) 0) ((sched l (j + 16)).getD (j + 9) 0) ((sched l (j + 16)).getD (j + 14) 0) := by
  constructor
  rw [sched_succ, wordAt, sched_len, if_neg (by omega), show j + 16 - 16 = j by omega, show j + 16 - 15 = j + 1 by omega, show j + 16 - 7 = j + 9 by omega, show j + 16 - 2 = j + 14 by omega]

structure NextV (l : List Int) (t : Nat) (a b c d : Int) : Prop where
  out : sched l (t + 1) = sched l t ++ [addW (addW (addW a b) c) d]
theorem nextV {l : List Int} {t : Nat} {a b c d : Int} (h : NextW l t a b c d) : NextV l t a (sig0 b) c (sig1 d) := ⟨h.out⟩
set_option maxRecDepth 100000 in
set_option maxHeartbeats 4000000 in
theorem wordsOfBlock_any (A : Option Addr) (c : Nat) (l : List Int) (w : World) (h : Bs w A 64 l) (hc : 64 ≤ c) :
    Calls Tryd.prog 61 #[.slice A 64 c] w fun e w' => e = .returned (.agg (((sched l 64).map (Value.int .u32)).toArray)) ∧ Below w.heap.size w w' := by
  obtain ⟨b, off, rfl, hbs, hcell⟩ := h.at_ (by omega)
  clear hcell
  go_enter Tryd.func61, Tryd.ntmps61
  go_wp2
  generalize hW : World.alloc (World.alloc w _) _ = W1
  have k1 : KB .u32 81 W1 w.heap.size (List.replicate 64 0) := by
    rw [← hW]
    exact (KB.new w (List.replicate 64 0) _ rfl).alloc _
  have k2 : KB .u32 81 W1 (w.heap.size + 1) (padded (sched l 0) 64) := by
    rw [← hW, sched_zero, padded_nil]
    have := KB.new (k := .u32) (t := 81) (w.alloc (.cells (zeroWords 64) 81)) (List.replicate 64 0) (zeroWords 64) (zeroWords_eq 64)
    rw [World.size_alloc] at this
    exact this
  have b1 : Below w.heap.size w W1 := by rw [← hW]; exact ab (ab (Below.refl _ _) _) _
  clear hW
  have z1 := k2.lt
  go_loopw [7] (fun i wr => ∃ t : Nat, t ≤ 64 ∧ i = .int .i64 (t : Int) ∧ KB .u32 81 wr w.heap.size (List.replicate 64 0) ∧ KB .u32 81 wr (w.heap.size + 1) (padded (sched l t) 64) ∧ Below w.heap.size w wr) (fun i _ => 64 - (intOf i).toNat)
  case atStart => exact ⟨0, by omega, rfl, k1, k2, b1⟩
  case round =>
    clear k1 k2 b1 z1
    obtain ⟨t, ht, rfl, k1, k2, hbel⟩ := hrel
    have hz := k2.lt
    by_cases hlt : t < 16
    · have hp := (h.below hbel).part_ (4 * t) 4 (by omega)
      have hsl := sched_len l t
      have Hw : Hid (sched l (t + 1) = sched l t ++ [hi ((l.drop (4 * t)).take 4)]) := by
        show sched l (t + 1) = _
        rw [sched_succ, wordAt, hsl, if_pos hlt]
      have Hp : Hid (∀ x, (padded (sched l t) 64).set t x = padded (sched l t ++ [x]) 64) := by
        intro x
        have := padded_set (sched l t) 64 x (by rw [hsl]; omega)
        rwa [hsl] at this
      have hpl := padded_len (sched l t) 64 (by rw [hsl]; omega)
      have hy := k2.cell (i := t) (by omega)
      have hz := k2.frozen t
      obtain ⟨X, hX⟩ : ∃ X, X = hi ((l.drop (4 * t)).take 4) := ⟨_, rfl⟩
      have hXb := hi_bd _ hp.byte
      rw [hp.len, ← hX] at hXb
      have HX := Lib.hid hX
      clear hXb hX hsl hpl
      go_wp2_with fail
      refine (joinHighW_any _ _ _ _ _ hp (by omega)).mono ?_
      rintro e w2 ⟨rfl, rfl⟩
      rw [← HX.out]
      go_wp2
      refine ⟨⟨t + 1, by omega, by go_num, k1.far (by simp) _, ?_, hbel.setCell (by simp) _⟩, by simp [intOf]; omega⟩
      rw [Hw.out, ← HX.out, ← Hp.out]
      exact k2.set_ t X
    · by_cases hlt2 : t < 64
      · obtain ⟨j, rfl⟩ : ∃ j, t = j + 16 := ⟨t - 16, by omega⟩
        have hsl := sched_len l (j + 16)
        have hpl := padded_len (sched l (j + 16)) 64 (by rw [hsl]; omega)
        have hwd := fun i => sched_word l h.byte (j + 16) i
        have hg := fun i (hi : i < j + 16) => padded_get (sched l (j + 16)) 64 i (by rw [hsl]; exact hi)
        have hc := fun i (hi : i < 64) => k2.cell (i := i) (by omega)
        have hf := k2.frozen (j + 16)
        have hcA := hc j (by omega)
        have hcB := hc (j + 1) (by omega)
        have hcC := hc (j + 9) (by omega)
        have hcD := hc (j + 14) (by omega)
        have hcE := hc (j + 16) (by omega)
        rw [hg _ (by omega)] at hcA hcB hcC hcD
        have hwA := hwd j
        have hwB := hwd (j + 1)
        have hwC := hwd (j + 9)
        have hwD := hwd (j + 14)
        have Hw := nextW l j
        have Hp : Hid (∀ x, (padded (sched l (j + 16)) 64).set (j + 16) x = padded (sched l (j + 16) ++ [x]) 64) := by
          intro x
          have := padded_set (sched l (j + 16)) 64 x (by rw [hsl]; omega)
          rwa [hsl] at this
        generalize eA : (sched l (j + 16)).getD j 0 = XA at *
        generalize eB : (sched l (j + 16)).getD (j + 1) 0 = XB at *
        generalize eC : (sched l (j + 16)).getD (j + 9) 0 = XC at *
        generalize eD : (sched l (j + 16)).getD (j + 14) 0 = XD at *
        have EA := Shut.mk eA
        have EB := Shut.mk eB
        have EC := Shut.mk eC
        have ED := Shut.mk eD
        have hpl := Shut.mk hpl
        clear eA eB eC eD
        obtain ⟨hA0, hA1⟩ := hwA
        obtain ⟨hB0, hB1⟩ := hwB
        obtain ⟨hC0, hC1⟩ := hwC
        obtain ⟨hD0, hD1⟩ := hwD
        have i1 : (j : Int) < 48 := by omega
        clear hsl hwd hg hc
        go_wp2
        have o15 : IntKind.i64.wrap ((j : Int) + 16 - 15) = (j : Int) + 1 := by rw [IntWalk.i64_in _ (by omega)]; omega
        have o2 : IntKind.i64.wrap ((j : Int) + 16 - 2) = (j : Int) + 14 := by rw [IntWalk.i64_in _ (by omega)]; omega
        have i15 : (j : Int) + 1 < 64 := by omega
        have i2 : (j : Int) + 14 < 64 := by omega
        have p15 : 0 ≤ (j : Int) + 1 := by omega
        have p2 : 0 ≤ (j : Int) + 14 := by omega
        have n15 : ((j : Int) + 1).toNat = j + 1 := by omega
        have n2 : ((j : Int) + 14).toNat = j + 14 := by omega
        have G7 : Hid (∀ (W : World) (g : Nat), KOw .i64 W g [7, 18] → Calls Tryd.prog 69 #[.int .u32 XB, .slice (some ⟨g, 0, none⟩) 2 2] W fun e w' => e = .returned (.int .u32 (xorW (rightW XB 7) (rightW XB 18))) ∧ ∃ k, w' = W.drewN k) := by
          intro W g hg
          have := turnedRight_any XB hB0 hB1 g 2 2 [7, 18] W hg rfl (by omega) (by decide)
          rwa [right2 XB 7 18 hB0 hB1 (by omega) (by omega)] at this
        have G8 : Hid (∀ (W : World) (g : Nat), KOw .i64 W g [17, 19] → Calls Tryd.prog 69 #[.int .u32 XD, .slice (some ⟨g, 0, none⟩) 2 2] W fun e w' => e = .returned (.int .u32 (xorW (rightW XD 17) (rightW XD 19))) ∧ ∃ k, w' = W.drewN k) := by
          intro W g hg
          have := turnedRight_any XD hD0 hD1 g 2 2 [17, 19] W hg rfl (by omega) (by decide)
          rwa [right2 XD 17 19 hD0 hD1 (by omega) (by omega)] at this
        go_cut [5, 7] from 7 to 61 (fun s i wx => s = .int .u32 (sig0 XB) ∧ i = .int .i64 ((j + 16 : Nat) : Int) ∧ ∃ q, wx = ((wr.alloc (.cells #[.int .i64 7, .int .i64 18] 2)).drewN q))
        case first =>
          clear hcA hcC hcD hcE hf Hp Hw G8
          go_region_with (go_at_call 69; refine (G7.out ((wr.alloc (.cells #[.int .i64 7, .int .i64 18] 2)).drew) wr.heap.size (kow_new wr .i64 2 [7, 18] _ rfl).drew).mono ?_; rintro e w' ⟨rfl, q, rfl⟩)
          all_goals
            go_wp2_with fail
            go_meet
            exact ⟨rfl, by simp, 1 + q, rfl⟩
        case rest =>
          obtain ⟨rfl, rfl, q, rfl⟩ := hcut
          have mk1 := (k1.alloc (.cells #[.int .i64 7, .int .i64 18] 2)).drewN q
          have mk2 := (k2.alloc (.cells #[.int .i64 7, .int .i64 18] 2)).drewN q
          have mb := ad (ab hbel (.cells #[.int .i64 7, .int .i64 18] 2)) q
          have hcs := fun i (hi : i < 64) => mk2.cell (i := i) (by rw [hpl.out]; exact hi)
          have hf2 := mk2.frozen (j + 16)
          have hg := fun i (hi : i < j + 16) => padded_get (sched l (j + 16)) 64 i (by rw [sched_len]; exact hi)
          have qA := hcs j (by omega)
          have qB := hcs (j + 1) (by omega)
          have qC := hcs (j + 9) (by omega)
          have qD := hcs (j + 14) (by omega)
          have qE := hcs (j + 16) (by omega)
          rw [hg _ (by omega)] at qA qB qC qD
          rw [EA.out] at qA
          rw [EB.out] at qB
          rw [EC.out] at qC
          rw [ED.out] at qD
          have mz := mk2.lt
          clear hcA hcB hcC hcD hcE hf hcs hg k1 k2 hbel hz
          generalize (wr.alloc (.cells #[.int .i64 7, .int .i64 18] 2)).drewN q = W2 at *
          go_upto_region 8 with fail
          go_cut [6, 7] from 7 to 61 (fun s i wx => s = .int .u32 (sig1 XD) ∧ i = .int .i64 ((j + 16 : Nat) : Int) ∧ ∃ q, wx = ((W2.alloc (.cells #[.int .i64 17, .int .i64 19] 2)).drewN q))
          case first =>
            clear qA qB qC qE hf2 Hp Hw
            go_region_with (go_at_call 69; refine (G8.out ((W2.alloc (.cells #[.int .i64 17, .int .i64 19] 2)).drew) W2.heap.size (kow_new W2 .i64 2 [17, 19] _ rfl).drew).mono ?_; rintro e w' ⟨rfl, q, rfl⟩)
            all_goals
              go_wp2_with fail
              go_meet
              exact ⟨rfl, by simp, 1 + q, rfl⟩
          case rest =>
            obtain ⟨rfl, rfl, q, rfl⟩ := hcut
            have nk1 := (mk1.alloc (.cells #[.int .i64 17, .int .i64 19] 2)).drewN q
            have nk2 := (mk2.alloc (.cells #[.int .i64 17, .int .i64 19] 2)).drewN q
            have nb := ad (ab mb (.cells #[.int .i64 17, .int .i64 19] 2)) q
            have hcs := fun i (hi : i < 64) => nk2.cell (i := i) (by rw [hpl.out]; exact hi)
            have hf := nk2.frozen (j + 16)
            have hg := fun i (hi : i < j + 16) => padded_get (sched l (j + 16)) 64 i (by rw [sched_len]; exact hi)
            have hcA := hcs j (by omega)
            have hcC := hcs (j + 9) (by omega)
            have hcE := hcs (j + 16) (by omega)
            rw [hg _ (by omega)] at hcA hcC
            rw [EA.out] at hcA
            rw [EC.out] at hcC
            clear qA qB qC qD qE hf2 hcs hg mk1 mk2 mb mz G7 G8
            generalize (W2.alloc (.cells #[.int .i64 17, .int .i64 19] 2)).drewN q = W3 at *
            have hS0 := sig0_bd XB hB0 hB1
            have hS1 := sig1_bd XD hD0 hD1
            have Hv := nextV Hw
            clear Hw
            generalize sig0 XB = S0 at *
            generalize sig1 XD = S1 at *
            obtain ⟨hS00, hS01⟩ := hS0
            obtain ⟨hS10, hS11⟩ := hS1
            go_upto_region 9 with fail
            go_region
            all_goals
              go_wp2
              refine ⟨⟨j + 16 + 1, by omega, by go_num, nk1.drew.far (by simp) _, ?_, (nb.drew).setCell (by simp) _⟩, by simp [intOf]; omega⟩
              have hsum : addW (addW (addW XA S0) XC) S1 = (XA + XC + S0 + S1) % 4294967296 := by unfold addW; omega
              rw [Hv.out, hsum, ← Hp.out]
              exact nk2.drew.set_ (j + 16) _
      · obtain rfl : t = 64 := by omega
        clear hz
        rw [padded_full _ _ (sched_len l 64)] at k2
        have hS := Shut.mk (sched_len l 64)
        obtain ⟨cs, hcs⟩ : ∃ cs, cs = ((sched l 64).map (Value.int .u32)).toArray := ⟨_, rfl⟩
        have hsz : cs.size = 64 := by rw [hcs]; simp [sched_len]
        have hone : cs.all (·.oneCell') = true := by
          rw [hcs, Array.all_eq_true_iff_forall_mem]
          intro v hv
          simp only [List.mem_toArray, List.mem_map] at hv
          obtain ⟨y, _, rfl⟩ := hv
          rfl
        have q2 : wr.heap[w.heap.size + 1]? = some (.cells cs 81 (0, 0)) := by rw [hcs]; exact k2
        have q1 : wr.heap[w.heap.size]? = some (.cells (zeroWords 64) 81 (0, 0)) := k1
        have HC := Shut.mk hcs
        have HZ := Shut.mk hsz
        have HO := Shut.mk hone
        have Q1 := Shut.mk q1
        have Q2 := Shut.mk q2
        clear k1 k2 hcs hsz hone q1 q2
        go_wp2_with (first | (refine wpList_load_row rfl 81 (.tmp 3) rfl (w.heap.size + 1) rfl 81 cs (0, 0) _ Q2.out Tryd.underlying81 rfl (by rw [HZ.out]; kernel_rfl) ?_) | (refine wpList_store_row rfl 81 (.tmp 2) (.tmp 62) rfl w.heap.size cs rfl rfl 81 (zeroWords 64) Q1.out (by rw [HZ.out]; kernel_rfl) (by rw [HZ.out]; rfl) HO.out ?_))
        refine bodyPost_ret (v := .agg cs) (results_cell_row (fn := Tryd.f61) Tryd.results61 _ _ w.heap.size 81 cs (0, 0) _ rfl (setRow_heap wr w.heap.size (zeroWords 64) cs 81 (0, 0) Q1.out) Tryd.underlying81 rfl (by rw [HZ.out]; kernel_rfl)) rfl ⟨by rw [HC.out], ?_⟩
        exact below_setRow hbel (Nat.le_refl _) _
end Go.Proofs.YtabhcolfkkfonaaDoor
