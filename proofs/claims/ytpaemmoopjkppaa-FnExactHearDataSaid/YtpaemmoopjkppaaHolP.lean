/- What came, put to its place by the program. -/
import Derived.Test.YtpaemmoopjkppaaInsH
import Derived.Test.YtpaemmoopjkppaaSldH
import Derived.Test.YtpaemmoopjkppaaHolM
import Derived.WalkMore
namespace Go.Proofs.Ytpaemmoopjkppaa
open Go.RowKit

theorem bodyPost_norm {P : Program} {fn : Func} {R : Ending → World → Prop} {a : Act} {w : World} {v : Value} (h : (results fn a.tmps).run P w = .ok v w) (hd : a.defers = []) (hr : R (.returned v) w) : bodyPost P fn R .normal a w := ⟨hd, v, h, hr⟩


theorem hasH_trueP {s : Int} {l : List HeldD} {k : Nat} {e : HeldD} (he : l[k]? = some e) (h : e.f0 = s) : hasH s l = true := by
  unfold hasH
  rw [List.any_eq_true]
  exact ⟨e, List.mem_of_getElem? he, by simpa using h⟩
theorem hasH_falseP {s : Int} {l : List HeldD} (h : ∀ (k : Nat) (e : HeldD), l[k]? = some e → e.f0 ≠ s) : hasH s l = false := by
  unfold hasH
  rw [List.any_eq_false]
  intro e he
  obtain ⟨k, hk⟩ := List.mem_iff_getElem?.1 he
  simpa using h k e hk
theorem Ap.ownlt_ {E : Type} {cels : E → List Cel} {sz : Nat} {t : TypeId} {w : World} {B : Nat} {v : Value} {els : List E} (h : Ap cels sz t w B v els) : ∀ b, v.ownBlock = some b → B ≤ b := fun b hb => by
  obtain ⟨xs, ho, _⟩ := h.own
  exact (ho.lt b hb).1
theorem Ap.ownlt2_ {E : Type} {cels : E → List Cel} {sz : Nat} {t : TypeId} {w : World} {B : Nat} {v : Value} {els : List E} (h : Ap cels sz t w B v els) : ∀ b, v.ownBlock = some b → b < w.heap.size := fun b hb => by
  obtain ⟨xs, ho, _⟩ := h.own
  exact (ho.lt b hb).2
theorem plc_is {s : Int} : ∀ {l : List HeldD} {k : Nat} {e : HeldD}, (∀ (j : Nat) (e : HeldD), j < k → l[j]? = some e → ¬ s < e.f0) → l[k]? = some e → s < e.f0 → plcH s l = k
  | [], k, e, _, h, _ => by simp at h
  | x :: r, 0, e, _, h, hs => by simp at h; subst h; unfold plcH; rw [if_pos hs]
  | x :: r, k + 1, e, ha, h, hs => by
    unfold plcH
    rw [if_neg (ha 0 x (by omega) rfl), plc_is (l := r) (k := k) (fun j e2 hj he2 => ha (j + 1) e2 (by omega) (by simpa using he2)) (by simpa using h) hs]
theorem plc_end {s : Int} : ∀ {l : List HeldD}, (∀ (j : Nat) (e : HeldD), l[j]? = some e → ¬ s < e.f0) → plcH s l = l.length
  | [], _ => rfl
  | x :: r, ha => by
    unfold plcH
    rw [if_neg (ha 0 x rfl), plc_end (l := r) fun j e2 he2 => ha (j + 1) e2 (by simpa using he2)]
    rfl

set_option linter.unusedVariables false in
set_option maxRecDepth 100000 in
set_option maxHeartbeats 8000000 in
theorem holdP_any (g B : Nat) (first : Int) (v : Value) (els : List HeldD) (x : HeldD) (A : Option Addr) (m c : Nat) (w0 w : World) (hS : Stc w g [.int .i64 first, v] 93) (hap : apH w0 B v els) (hb0 : Below w0.heap.size w0 w) (hB : B ≤ w0.heap.size) (hg : g < B) (ho : Ow w w0.heap.size A m x.f1) (hz : A = none → c = 0) (hn : els.length ≤ 100) (hup : ∀ (i j : Nat) (a b : HeldD), els[i]? = some a → els[j]? = some b → i < j → a.f0 < b.f0) (hf0 : 0 ≤ first) (hf1 : first ≤ 10000) :
    Calls Try.prog 45 #[.pointer (some ⟨g, 0, none⟩), .agg #[.int .i64 x.f0, .slice A m c, .bool x.f2]] w fun e w' => e = .returned (.tuple #[]) ∧ (∃ v', Stc w' g [.int .i64 first, v'] 93 ∧ apH w' B v' (nowH first els x)) ∧ Below g w w' := by
  have hgl := hS.lt
  obtain ⟨A0, c0, rfl, hrm, hlo⟩ := hap.lo rfl
  have hL := hlo.rows.below hb0
  obtain ⟨n, hne⟩ : ∃ n, n = els.length := ⟨_, rfl⟩
  rw [← hne] at hS hap hrm hlo hL
  have Hl : Shut (els.length = n) := ⟨hne.symm⟩
  have hn' : n ≤ 100 := by omega
  clear hne
  have v0 := hS.cell (i := 0) rfl
  have v1 := hS.cell (i := 1) rfl
  have X0 := Stc.new w 84 [.int .i64 x.f0, .slice A m c, .bool x.f2] _ rfl
  have B0 := ab (Below.refl _ w) (.cells #[.int .i64 x.f0, .slice A m c, .bool x.f2] 84)
  by_cases q0 : x.f0 < first
  · have E : Shut (nowH first els x = els) := ⟨by unfold nowH canH; rw [if_neg]; simp; omega⟩
    have t0 : decide (x.f0 < first) = true := by simpa using q0
    go_enter Try.func45, Try.ntmps45
    go_wp2
    apply wp_scope_straight
    go_wp2
    go_quiet (fail)
    go_wp2
    try rw [Exit.noGoto_ret]
    refine bodyPost_ret (v := .tuple #[]) (by simp [results, Try.results45, go_sem]) rfl ?_
    refine ⟨rfl, ⟨_, (hS.alloc _).drewN _, ?_⟩, (below_drewN (B0.mono (Nat.le_of_lt hgl)) nq)⟩
    rw [E.out]
    exact (((hap.below hb0 (Nat.le_refl _)).below B0 (Nat.le_refl _))).drewN _
  have t0 : decide (x.f0 < first) = false := by simpa using q0
  by_cases q1 : x.f0 > first + 7
  · have E : Shut (nowH first els x = els) := ⟨by unfold nowH canH; rw [if_neg]; simp; omega⟩
    have t1 : decide (x.f0 > first + 7) = true := by simpa using q1
    go_enter Try.func45, Try.ntmps45
    go_wp2
    apply wp_scope_straight
    go_wp2
    go_quiet (fail)
    go_wp2
    try rw [Exit.noGoto_ret]
    refine bodyPost_ret (v := .tuple #[]) (by simp [results, Try.results45, go_sem]) rfl ?_
    refine ⟨rfl, ⟨_, (hS.alloc _).drewN _, ?_⟩, (below_drewN (B0.mono (Nat.le_of_lt hgl)) nq)⟩
    rw [E.out]
    exact (((hap.below hb0 (Nat.le_refl _)).below B0 (Nat.le_refl _))).drewN _
  have t1 : decide (x.f0 > first + 7) = false := by simpa using q1
  go_enter Try.func45, Try.ntmps45
  go_wp2
  apply wp_scope_straight
  go_wp2
  go_quiet (fail)
  go_wp2
  apply wp_label
  go_wp2
  have hapB := Shut.mk hap.ownlt_
  have hapX : Shut ((.slice A0 n c0 : Value).ownBlock ≠ some w.heap.size) := ⟨fun h => by have := hap.ownlt2_ _ h; have := hb0.size; omega⟩
  go_loopw [4, 34] (fun pl i wr => ∃ k : Nat, k ≤ n ∧ i = .int .i64 k ∧ pl = .int .i64 n ∧ Shut (∀ (j : Nat) (e : HeldD), j < k → els[j]? = some e → e.f0 < x.f0) ∧ Below w.heap.size w wr ∧ Below (w.alloc (.cells #[.int .i64 x.f0, .slice A m c, .bool x.f2] 84)).heap.size (w.alloc (.cells #[.int .i64 x.f0, .slice A m c, .bool x.f2] 84)) wr) (fun _ i _ => n - (intOf i).toNat)
  case atStart => exact ⟨0, Nat.zero_le _, rfl, rfl, ⟨fun j e h => by omega⟩, below_drewN B0 nq, below_drewN (Below.refl _ _) nq⟩
  case round =>
    obtain ⟨k, hk, rfl, rfl, hall, hbel, hbelX⟩ := hrel
    have hb' := bcell hbel
    have hwr := hbelX.size
    rw [World.size_alloc] at hwr
    have SW := hS.below hbel hgl
    have XW := X0.below hbelX X0.lt
    have xl := XW.lt
    have x0 := XW.cell (i := 0) rfl
    have x1 := XW.cell (i := 1) rfl
    have x2 := XW.cell (i := 2) rfl
    have v1 := SW.cell (i := 1) rfl
    have gW := SW.lt
    have hbW := Shut.mk (hb0.trans (hbel.mono hb0.size))
    have hbW2 : Below g w wr := hbel.mono (Nat.le_of_lt hgl)
    have hoW := Shut.mk (ho.below hbel (Nat.le_refl _))
    by_cases hlt : k < n
    · obtain ⟨b, off, e, Be, me, ce, rfl, hbs, he, g0, g1, g2, hB', hz'⟩ := hL.getHeld hlt
      by_cases hq : e.f0 = x.f0
      · have E : Shut (nowH first els x = els) := ⟨by unfold nowH canH; rw [if_neg]; rw [hasH_trueP he.out hq]; simp⟩
        have t2 : (e.f0 == x.f0) = true := by simpa using hq
        clear hL hq hB'
        go_wp2
        try rw [Exit.noGoto_ret]
        refine bodyPost_ret (v := .tuple #[]) (by simp [results, Try.results45, go_sem]) rfl ?_
        refine ⟨rfl, ⟨_, SW.alloc _, ?_⟩, hbW2.alloc (by omega) _⟩
        rw [E.out]
        exact (hap.below hbW.out (Nat.le_refl _)).alloc _
      · by_cases hq2 : e.f0 > x.f0
        · have EN : Shut (nowH first els x = els.take k ++ [x] ++ els.drop k) := ⟨by
            have hh : hasH x.f0 els = false := hasH_falseP fun j e2 he2 h3 => by
              rcases Nat.lt_trichotomy j k with h1 | h1 | h1
              · have := hall.out j e2 h1 he2; omega
              · subst h1; rw [he.out] at he2; injection he2 with he2; exact hq (he2 ▸ h3)
              · have := hup k j e e2 he.out he2 h1; omega
            have hp : plcH x.f0 els = k := plc_is (fun j e2 h1 h2 => by have := hall.out j e2 h1 h2; omega) he.out (by omega)
            unfold nowH canH
            rw [hh, if_pos (by simp; omega), insH_eq, hp]
            simp⟩
          have t2 : (e.f0 == x.f0) = false := by simpa using hq
          have t3 : decide (e.f0 > x.f0) = true := by simpa using hq2
          have BX := ab (Below.refl wr.heap.size wr) (.cells #[.int .i64 e.f0, .slice Be me ce, .bool e.f2] 84)
          clear hL hq hB' hq2 hall hup hlo
          go_wp2_with fail
          replace SW := SW.alloc (.cells #[.int .i64 e.f0, .slice Be me ce, .bool e.f2] 84)
          replace XW := XW.alloc (.cells #[.int .i64 e.f0, .slice Be me ce, .bool e.f2] 84)
          replace hbW := Shut.mk (hbW.out.trans (BX.mono hbW.out.size))
          replace hbW2 := hbW2.trans (BX.mono (by omega))
          replace hoW := Shut.mk (hoW.out.below BX (Nat.le_refl _))
          clear x0 x1 x2 v1 BX hbel hbelX gW xl hwr
          generalize wr.alloc (.cells #[.int .i64 e.f0, .slice Be me ce, .bool e.f2] 84) = wq at *
          have x0 := XW.cell (i := 0) rfl
          have x1 := XW.cell (i := 1) rfl
          have x2 := XW.cell (i := 2) rfl
          have v1 := SW.cell (i := 1) rfl
          have gW := SW.lt
          have xl := XW.lt
          refine wp_region_noPanic ?_
          refine wp_region_held_drew (S := fun W => W.cell? ⟨w.heap.size, 0, none⟩ = some (.int .i64 x.f0) ∧ W.cell? ⟨w.heap.size, 1, none⟩ = some (.slice A m c) ∧ W.cell? ⟨w.heap.size, 2, none⟩ = some (.bool x.f2)) (by kernel_rfl) ?_ (fun hHeld => ?_)
          · exact ⟨x0, x1, x2⟩
          refine wpAnyH_take (i := 0) (oi := _) (v := .pointer (some ⟨g, 0, none⟩)) rfl (by kernel_rfl) (by kernel_rfl) (by kernel_rfl) (fun _ _ _ h => h) (Or.inl ⟨by rfl, by intro W hSw; obtain ⟨z0, z1, z2⟩ := hSw; go_simp⟩) (by assumption) ?_
          refine wpAnyH_take (i := 1) (oi := _) (v := .pointer (some ⟨g, 0, none⟩)) rfl (by kernel_rfl) (by kernel_rfl) (by kernel_rfl) (fun _ _ _ h => h) (Or.inl ⟨by rfl, by intro W hSw; obtain ⟨z0, z1, z2⟩ := hSw; go_simp⟩) (by assumption) ?_
          refine wpAnyH_take (i := 2) (oi := _) (v := .pointer (some ⟨g, 0, none⟩)) rfl (by kernel_rfl) (by kernel_rfl) (by kernel_rfl) (fun _ _ _ h => h) (Or.inl ⟨by rfl, by intro W hSw; obtain ⟨z0, z1, z2⟩ := hSw; go_simp⟩) (by assumption) ?_
          refine wpAnyH_take (i := 3) (oi := _) (v := .pointer (some ⟨g, 1, none⟩)) rfl (by kernel_rfl) (by kernel_rfl) (by kernel_rfl) (fun _ _ _ h => h) (Or.inl ⟨by rfl, by intro W hSw; obtain ⟨z0, z1, z2⟩ := hSw; go_simp⟩) (by assumption) ?_
          refine wpAnyH_take (i := 5) (oi := _) (v := .int .i64 k) rfl (by kernel_rfl) (by kernel_rfl) (by kernel_rfl) (fun _ _ _ h => h) (Or.inl ⟨by rfl, by intro W hSw; obtain ⟨z0, z1, z2⟩ := hSw; go_simp⟩) (by assumption) ?_
          refine wpAnyH_take (i := 6) (oi := _) (v := .agg #[.int .i64 x.f0, .slice A m c, .bool x.f2]) rfl (by kernel_rfl) (by kernel_rfl) (by kernel_rfl) (fun _ _ _ h => h) (Or.inl ⟨by rfl, by intro W hSw; obtain ⟨z0, z1, z2⟩ := hSw; go_simp⟩) (by assumption) ?_
          refine wpAnyH_ready (rs := [4, 7]) (by kernel_rfl) (by simp) (AllReadyH.cons (o := _) rfl (fun K hK => ?_) (AllReadyH.cons (o := _) rfl (fun K hK => ?_) AllReadyH.nil))
          rw [if_pos (by rfl)]
          go_simp
          refine hK.out _ _ hHeld (fun _ => ?_)
          clear hK K
          refine wpAnyH_ready (rs := [7]) (by kernel_rfl) (by simp) (AllReadyH.cons (o := _) rfl (fun K hK => ?_) AllReadyH.nil)
          rw [if_pos (by rfl)]
          go_simp
          have hsA := (fun (p : Addr) (u : Value) (h : wq.drew.cell? p = some u) => cell_past (.cells #[.int .i64 x.f0, .slice A m c, .bool x.f2] 84) h)
          refine hK.out _ _ ⟨hsA _ _ x0, hsA _ _ x1, hsA _ _ x2⟩ (fun hsB => ?_)
          clear hK K
          refine wpAnyH_ready (rs := [8]) (by kernel_rfl) (by simp) (AllReadyH.cons (o := _) rfl (fun K hK => ?_) AllReadyH.nil)
          rw [if_pos (by rfl)]
          go_simp
          have hbi : Below w0.heap.size w0 (wq.alloc (.cells #[.int .i64 x.f0, .slice A m c, .bool x.f2] 84)).drew := (hbW.out.trans ((ab (Below.refl wq.heap.size wq) (.cells #[.int .i64 x.f0, .slice A m c, .bool x.f2] 84)).mono hbW.out.size)).drew
          have hvi : Stc (wq.alloc (.cells #[.int .i64 x.f0, .slice A m c, .bool x.f2] 84)).drew wq.heap.size [.int .i64 x.f0, .slice A m c, .bool x.f2] 84 := Stc.new wq _ _ _ rfl
          have hoi := hoW.out.below ((ab (Below.refl wq.heap.size wq) (.cells #[.int .i64 x.f0, .slice A m c, .bool x.f2] 84)).drew) (Nat.le_refl _)
          refine (insertH_any B k wq.heap.size _ els x A m c w0 (wq.alloc (.cells #[.int .i64 x.f0, .slice A m c, .bool x.f2] 84)).drew hap hbi hB (by have := Hl.out; omega) (by have := Hl.out; omega) hbW.out.size hvi hoi hz).mono ?_
          rintro x3 w3 ⟨⟨v3, rfl, hap3, hlay3⟩, hgr3⟩
          obtain ⟨np, hnp⟩ : ∃ np, (els.take k ++ [x] ++ els.drop k).length = np := ⟨_, rfl⟩
          have Hnp := Shut.mk hnp
          clear hnp
          obtain ⟨A3, c3, rfl, _, _⟩ := hap3.lo Hnp.out
          have hSi : Stc (wq.alloc (.cells #[.int .i64 x.f0, .slice A m c, .bool x.f2] 84)).drew g [.int .i64 first, .slice (some ⟨b, off, none⟩) n c0] 93 := SW.alloc (.cells #[.int .i64 x.f0, .slice A m c, .bool x.f2] 84)
          have hne3 : (.slice (some ⟨b, off, none⟩) n c0 : Value).ownBlock ≠ some g := fun h => by have := hapB.out g h; omega
          have S3 : Stc w3 g [.int .i64 first, .slice (some ⟨b, off, none⟩) n c0] 93 := (hgr3.block g hSi.lt (fun e => hne3 e.symm)).trans hSi
          have hXB : Stc (wq.alloc (.cells #[.int .i64 x.f0, .slice A m c, .bool x.f2] 84)).drew w.heap.size [.int .i64 x.f0, .slice A m c, .bool x.f2] 84 := XW.alloc (.cells #[.int .i64 x.f0, .slice A m c, .bool x.f2] 84)
          have X3 : Stc w3 w.heap.size [.int .i64 x.f0, .slice A m c, .bool x.f2] 84 := (hgr3.block w.heap.size hXB.lt (fun e => hapX.out e.symm)).trans hXB
          have B3 : Below g w w3 := ⟨hgr3.os.trans hbW2.os, hgr3.tape.trans hbW2.tape, hgr3.output.trans hbW2.output, Nat.le_trans hbW2.size (Nat.le_trans (Nat.le_of_lt (by show wq.heap.size < (wq.alloc (.cells #[.int .i64 x.f0, .slice A m c, .bool x.f2] 84)).heap.size; rw [World.size_alloc]; omega)) hgr3.size), fun k hk => (hgr3.block k (by have := hbW2.size; show k < (wq.alloc (.cells #[.int .i64 x.f0, .slice A m c, .bool x.f2] 84)).heap.size; rw [World.size_alloc]; omega) (fun e => by have := hapB.out k e.symm; omega)).trans ((Below.heap_alloc _ _ k (by have := hbW2.size; show k < wq.heap.size; omega)).trans (hbW2.block k hk))⟩
          have y1 := S3.cell (i := 1) rfl
          have yf := S3.frozen
          refine hK.out _ _ ⟨X3.cell (i := 0) rfl, X3.cell (i := 1) rfl, X3.cell (i := 2) rfl⟩ (fun hsC => ?_)
          clear hK K
          refine wpAnyH_take (i := 9) (oi := _) (v := .pointer (some ⟨g, 0, none⟩)) rfl (by kernel_rfl) (by kernel_rfl) (by kernel_rfl) (fun _ _ _ h => h) (Or.inl ⟨by rfl, by intro W hSw; obtain ⟨z0, z1, z2⟩ := hSw; go_simp⟩) (by assumption) ?_
          refine wpAnyH_take (i := 10) (oi := _) (v := .pointer (some ⟨g, 1, none⟩)) rfl (by kernel_rfl) (by kernel_rfl) (by kernel_rfl) (fun _ _ _ h => h) (Or.inl ⟨by rfl, by intro W hSw; obtain ⟨z0, z1, z2⟩ := hSw; go_simp⟩) (by assumption) ?_
          refine wpAnyH_ready (rs := [11]) (by kernel_rfl) (by simp) (AllReadyH.cons (o := _) rfl (fun K hK => ?_) AllReadyH.nil)
          rw [if_pos (by rfl)]
          go_simp
          have X4 := X3.far (p := ⟨g, 1, none⟩) (by show ¬ w.heap.size = g; omega) (.slice A3 np c3)
          refine hK.out _ _ ⟨X4.cell (i := 0) rfl, X4.cell (i := 1) rfl, X4.cell (i := 2) rfl⟩ (fun _ => ?_)
          clear hK K
          refine wpAnyH_done (by kernel_rfl) (NoPanic.normal ?_) _
          try simp only [List.getElem_toArray, List.getElem_cons_succ, List.getElem_cons_zero, Act.put, List.setIfInBounds_toArray, List.set_cons_zero, List.set_cons_succ]
          rotate_left
          rw [if_pos (by rfl)]
          go_simp
          have hsA := (fun (p : Addr) (u : Value) (h : wq.drew.cell? p = some u) => cell_past (.cells #[.int .i64 x.f0, .slice A m c, .bool x.f2] 84) h)
          refine hK.out _ _ ⟨hsA _ _ x0, hsA _ _ x1, hsA _ _ x2⟩ (fun hsB => ?_)
          clear hK K
          refine wpAnyH_ready (rs := [4]) (by kernel_rfl) (by simp) (AllReadyH.cons (o := _) rfl (fun K hK => ?_) AllReadyH.nil)
          rw [if_pos (by rfl)]
          go_simp
          refine hK.out _ _ hsB (fun _ => ?_)
          clear hK K
          refine wpAnyH_ready (rs := [8]) (by kernel_rfl) (by simp) (AllReadyH.cons (o := _) rfl (fun K hK => ?_) AllReadyH.nil)
          rw [if_pos (by rfl)]
          go_simp
          have hbi : Below w0.heap.size w0 (wq.alloc (.cells #[.int .i64 x.f0, .slice A m c, .bool x.f2] 84)).drew := (hbW.out.trans ((ab (Below.refl wq.heap.size wq) (.cells #[.int .i64 x.f0, .slice A m c, .bool x.f2] 84)).mono hbW.out.size)).drew
          have hvi : Stc (wq.alloc (.cells #[.int .i64 x.f0, .slice A m c, .bool x.f2] 84)).drew wq.heap.size [.int .i64 x.f0, .slice A m c, .bool x.f2] 84 := Stc.new wq _ _ _ rfl
          have hoi := hoW.out.below ((ab (Below.refl wq.heap.size wq) (.cells #[.int .i64 x.f0, .slice A m c, .bool x.f2] 84)).drew) (Nat.le_refl _)
          refine (insertH_any B k wq.heap.size _ els x A m c w0 (wq.alloc (.cells #[.int .i64 x.f0, .slice A m c, .bool x.f2] 84)).drew hap hbi hB (by have := Hl.out; omega) (by have := Hl.out; omega) hbW.out.size hvi hoi hz).mono ?_
          rintro x3 w3 ⟨⟨v3, rfl, hap3, hlay3⟩, hgr3⟩
          obtain ⟨np, hnp⟩ : ∃ np, (els.take k ++ [x] ++ els.drop k).length = np := ⟨_, rfl⟩
          have Hnp := Shut.mk hnp
          clear hnp
          obtain ⟨A3, c3, rfl, _, _⟩ := hap3.lo Hnp.out
          have hSi : Stc (wq.alloc (.cells #[.int .i64 x.f0, .slice A m c, .bool x.f2] 84)).drew g [.int .i64 first, .slice (some ⟨b, off, none⟩) n c0] 93 := SW.alloc (.cells #[.int .i64 x.f0, .slice A m c, .bool x.f2] 84)
          have hne3 : (.slice (some ⟨b, off, none⟩) n c0 : Value).ownBlock ≠ some g := fun h => by have := hapB.out g h; omega
          have S3 : Stc w3 g [.int .i64 first, .slice (some ⟨b, off, none⟩) n c0] 93 := (hgr3.block g hSi.lt (fun e => hne3 e.symm)).trans hSi
          have hXB : Stc (wq.alloc (.cells #[.int .i64 x.f0, .slice A m c, .bool x.f2] 84)).drew w.heap.size [.int .i64 x.f0, .slice A m c, .bool x.f2] 84 := XW.alloc (.cells #[.int .i64 x.f0, .slice A m c, .bool x.f2] 84)
          have X3 : Stc w3 w.heap.size [.int .i64 x.f0, .slice A m c, .bool x.f2] 84 := (hgr3.block w.heap.size hXB.lt (fun e => hapX.out e.symm)).trans hXB
          have B3 : Below g w w3 := ⟨hgr3.os.trans hbW2.os, hgr3.tape.trans hbW2.tape, hgr3.output.trans hbW2.output, Nat.le_trans hbW2.size (Nat.le_trans (Nat.le_of_lt (by show wq.heap.size < (wq.alloc (.cells #[.int .i64 x.f0, .slice A m c, .bool x.f2] 84)).heap.size; rw [World.size_alloc]; omega)) hgr3.size), fun k hk => (hgr3.block k (by have := hbW2.size; show k < (wq.alloc (.cells #[.int .i64 x.f0, .slice A m c, .bool x.f2] 84)).heap.size; rw [World.size_alloc]; omega) (fun e => by have := hapB.out k e.symm; omega)).trans ((Below.heap_alloc _ _ k (by have := hbW2.size; show k < wq.heap.size; omega)).trans (hbW2.block k hk))⟩
          have y1 := S3.cell (i := 1) rfl
          have yf := S3.frozen
          refine hK.out _ _ ⟨X3.cell (i := 0) rfl, X3.cell (i := 1) rfl, X3.cell (i := 2) rfl⟩ (fun hsC => ?_)
          clear hK K
          refine wpAnyH_take (i := 9) (oi := _) (v := .pointer (some ⟨g, 0, none⟩)) rfl (by kernel_rfl) (by kernel_rfl) (by kernel_rfl) (fun _ _ _ h => h) (Or.inl ⟨by rfl, by intro W hSw; obtain ⟨z0, z1, z2⟩ := hSw; go_simp⟩) (by assumption) ?_
          refine wpAnyH_take (i := 10) (oi := _) (v := .pointer (some ⟨g, 1, none⟩)) rfl (by kernel_rfl) (by kernel_rfl) (by kernel_rfl) (fun _ _ _ h => h) (Or.inl ⟨by rfl, by intro W hSw; obtain ⟨z0, z1, z2⟩ := hSw; go_simp⟩) (by assumption) ?_
          refine wpAnyH_ready (rs := [11]) (by kernel_rfl) (by simp) (AllReadyH.cons (o := _) rfl (fun K hK => ?_) AllReadyH.nil)
          rw [if_pos (by rfl)]
          go_simp
          have X4 := X3.far (p := ⟨g, 1, none⟩) (by show ¬ w.heap.size = g; omega) (.slice A3 np c3)
          refine hK.out _ _ ⟨X4.cell (i := 0) rfl, X4.cell (i := 1) rfl, X4.cell (i := 2) rfl⟩ (fun _ => ?_)
          clear hK K
          refine wpAnyH_done (by kernel_rfl) (NoPanic.normal ?_) _
          try simp only [List.getElem_toArray, List.getElem_cons_succ, List.getElem_cons_zero, Act.put, List.setIfInBounds_toArray, List.set_cons_zero, List.set_cons_succ]
          all_goals
            go_wp2
            rw [Exit.noGoto_normal]
            refine bodyPost_norm (v := .tuple #[]) (by simp [results, Try.results45, go_sem]) rfl ?_
            refine ⟨rfl, ⟨(.slice A3 np c3), S3.set_ (i := 1) (.slice A3 np c3), ?_⟩, B3.setCell (Nat.le_refl _) _⟩
            rw [EN.out]
            exact (hap3.far (p := ⟨g, 1, none⟩) hg (.slice A3 np c3))
        · have t2 : (e.f0 == x.f0) = false := by simpa using hq
          have t3 : decide (e.f0 > x.f0) = false := by simpa using hq2
          have hall2 : Shut (∀ (j : Nat) (e : HeldD), j < k + 1 → els[j]? = some e → e.f0 < x.f0) := ⟨fun j e2 hj he2 => by
            rcases Nat.lt_or_ge j k with h1 | h1
            · exact hall.out j e2 h1 he2
            · obtain rfl : j = k := by omega
              rw [he.out] at he2
              injection he2 with he2
              subst he2
              omega⟩
          clear hL hq hB' hq2 hall
          go_wp2
          go_roundw
          case rel => exact ⟨k + 1, by omega, by go_num, rfl, hall2, ab hbel _, ab hbelX _⟩
          case measure => simp [intOf]; omega
    · obtain rfl : k = n := by omega
      have EN : Shut (nowH first els x = els.take k ++ [x] ++ els.drop k) := ⟨by
        have hh : hasH x.f0 els = false := hasH_falseP fun j e2 he2 h3 => by
          have := hall.out j e2 (by have := (List.getElem?_eq_some_iff.1 he2).1; rw [Hl.out] at this; omega) he2
          omega
        have hp : plcH x.f0 els = k := by rw [← Hl.out]; exact plc_end (fun j e2 h2 => by have := hall.out j e2 (by have := (List.getElem?_eq_some_iff.1 h2).1; rw [Hl.out] at this; omega) h2; omega)
        unfold nowH canH
        rw [hh, if_pos (by simp; omega), insH_eq, hp]
        simp⟩
      clear hL hall hup hlo
      go_wp2_with fail
      refine wp_region_noPanic ?_
      refine wp_region_held_drew (S := fun W => W.cell? ⟨w.heap.size, 0, none⟩ = some (.int .i64 x.f0) ∧ W.cell? ⟨w.heap.size, 1, none⟩ = some (.slice A m c) ∧ W.cell? ⟨w.heap.size, 2, none⟩ = some (.bool x.f2)) (by kernel_rfl) ?_ (fun hHeld => ?_)
      · exact ⟨x0, x1, x2⟩
      refine wpAnyH_take (i := 0) (oi := _) (v := .pointer (some ⟨g, 0, none⟩)) rfl (by kernel_rfl) (by kernel_rfl) (by kernel_rfl) (fun _ _ _ h => h) (Or.inl ⟨by rfl, by intro W hSw; obtain ⟨z0, z1, z2⟩ := hSw; go_simp⟩) (by assumption) ?_
      refine wpAnyH_take (i := 1) (oi := _) (v := .pointer (some ⟨g, 0, none⟩)) rfl (by kernel_rfl) (by kernel_rfl) (by kernel_rfl) (fun _ _ _ h => h) (Or.inl ⟨by rfl, by intro W hSw; obtain ⟨z0, z1, z2⟩ := hSw; go_simp⟩) (by assumption) ?_
      refine wpAnyH_take (i := 2) (oi := _) (v := .pointer (some ⟨g, 0, none⟩)) rfl (by kernel_rfl) (by kernel_rfl) (by kernel_rfl) (fun _ _ _ h => h) (Or.inl ⟨by rfl, by intro W hSw; obtain ⟨z0, z1, z2⟩ := hSw; go_simp⟩) (by assumption) ?_
      refine wpAnyH_take (i := 3) (oi := _) (v := .pointer (some ⟨g, 1, none⟩)) rfl (by kernel_rfl) (by kernel_rfl) (by kernel_rfl) (fun _ _ _ h => h) (Or.inl ⟨by rfl, by intro W hSw; obtain ⟨z0, z1, z2⟩ := hSw; go_simp⟩) (by assumption) ?_
      refine wpAnyH_take (i := 5) (oi := _) (v := .int .i64 k) rfl (by kernel_rfl) (by kernel_rfl) (by kernel_rfl) (fun _ _ _ h => h) (Or.inl ⟨by rfl, by intro W hSw; obtain ⟨z0, z1, z2⟩ := hSw; go_simp⟩) (by assumption) ?_
      refine wpAnyH_take (i := 6) (oi := _) (v := .agg #[.int .i64 x.f0, .slice A m c, .bool x.f2]) rfl (by kernel_rfl) (by kernel_rfl) (by kernel_rfl) (fun _ _ _ h => h) (Or.inl ⟨by rfl, by intro W hSw; obtain ⟨z0, z1, z2⟩ := hSw; go_simp⟩) (by assumption) ?_
      refine wpAnyH_ready (rs := [4, 7]) (by kernel_rfl) (by simp) (AllReadyH.cons (o := _) rfl (fun K hK => ?_) (AllReadyH.cons (o := _) rfl (fun K hK => ?_) AllReadyH.nil))
      rw [if_pos (by rfl)]
      go_simp
      refine hK.out _ _ hHeld (fun _ => ?_)
      clear hK K
      refine wpAnyH_ready (rs := [7]) (by kernel_rfl) (by simp) (AllReadyH.cons (o := _) rfl (fun K hK => ?_) AllReadyH.nil)
      rw [if_pos (by rfl)]
      go_simp
      have hsA := (fun (p : Addr) (u : Value) (h : wr.drew.cell? p = some u) => cell_past (.cells #[.int .i64 x.f0, .slice A m c, .bool x.f2] 84) h)
      refine hK.out _ _ ⟨hsA _ _ x0, hsA _ _ x1, hsA _ _ x2⟩ (fun hsB => ?_)
      clear hK K
      refine wpAnyH_ready (rs := [8]) (by kernel_rfl) (by simp) (AllReadyH.cons (o := _) rfl (fun K hK => ?_) AllReadyH.nil)
      rw [if_pos (by rfl)]
      go_simp
      have hbi : Below w0.heap.size w0 (wr.alloc (.cells #[.int .i64 x.f0, .slice A m c, .bool x.f2] 84)).drew := (hbW.out.trans ((ab (Below.refl wr.heap.size wr) (.cells #[.int .i64 x.f0, .slice A m c, .bool x.f2] 84)).mono hbW.out.size)).drew
      have hvi : Stc (wr.alloc (.cells #[.int .i64 x.f0, .slice A m c, .bool x.f2] 84)).drew wr.heap.size [.int .i64 x.f0, .slice A m c, .bool x.f2] 84 := Stc.new wr _ _ _ rfl
      have hoi := hoW.out.below ((ab (Below.refl wr.heap.size wr) (.cells #[.int .i64 x.f0, .slice A m c, .bool x.f2] 84)).drew) (Nat.le_refl _)
      refine (insertH_any B k wr.heap.size _ els x A m c w0 (wr.alloc (.cells #[.int .i64 x.f0, .slice A m c, .bool x.f2] 84)).drew hap hbi hB (by have := Hl.out; omega) (by have := Hl.out; omega) hbW.out.size hvi hoi hz).mono ?_
      rintro x3 w3 ⟨⟨v3, rfl, hap3, hlay3⟩, hgr3⟩
      obtain ⟨np, hnp⟩ : ∃ np, (els.take k ++ [x] ++ els.drop k).length = np := ⟨_, rfl⟩
      have Hnp := Shut.mk hnp
      clear hnp
      obtain ⟨A3, c3, rfl, _, _⟩ := hap3.lo Hnp.out
      have hSi : Stc (wr.alloc (.cells #[.int .i64 x.f0, .slice A m c, .bool x.f2] 84)).drew g [.int .i64 first, .slice A0 k c0] 93 := SW.alloc (.cells #[.int .i64 x.f0, .slice A m c, .bool x.f2] 84)
      have hne3 : (.slice A0 k c0 : Value).ownBlock ≠ some g := fun h => by have := hapB.out g h; omega
      have S3 : Stc w3 g [.int .i64 first, .slice A0 k c0] 93 := (hgr3.block g hSi.lt (fun e => hne3 e.symm)).trans hSi
      have hXB : Stc (wr.alloc (.cells #[.int .i64 x.f0, .slice A m c, .bool x.f2] 84)).drew w.heap.size [.int .i64 x.f0, .slice A m c, .bool x.f2] 84 := XW.alloc (.cells #[.int .i64 x.f0, .slice A m c, .bool x.f2] 84)
      have X3 : Stc w3 w.heap.size [.int .i64 x.f0, .slice A m c, .bool x.f2] 84 := (hgr3.block w.heap.size hXB.lt (fun e => hapX.out e.symm)).trans hXB
      have B3 : Below g w w3 := ⟨hgr3.os.trans hbW2.os, hgr3.tape.trans hbW2.tape, hgr3.output.trans hbW2.output, Nat.le_trans hbW2.size (Nat.le_trans (Nat.le_of_lt (by show wr.heap.size < (wr.alloc (.cells #[.int .i64 x.f0, .slice A m c, .bool x.f2] 84)).heap.size; rw [World.size_alloc]; omega)) hgr3.size), fun k hk => (hgr3.block k (by have := hbW2.size; show k < (wr.alloc (.cells #[.int .i64 x.f0, .slice A m c, .bool x.f2] 84)).heap.size; rw [World.size_alloc]; omega) (fun e => by have := hapB.out k e.symm; omega)).trans ((Below.heap_alloc _ _ k (by have := hbW2.size; show k < wr.heap.size; omega)).trans (hbW2.block k hk))⟩
      have y1 := S3.cell (i := 1) rfl
      have yf := S3.frozen
      refine hK.out _ _ ⟨X3.cell (i := 0) rfl, X3.cell (i := 1) rfl, X3.cell (i := 2) rfl⟩ (fun hsC => ?_)
      clear hK K
      refine wpAnyH_take (i := 9) (oi := _) (v := .pointer (some ⟨g, 0, none⟩)) rfl (by kernel_rfl) (by kernel_rfl) (by kernel_rfl) (fun _ _ _ h => h) (Or.inl ⟨by rfl, by intro W hSw; obtain ⟨z0, z1, z2⟩ := hSw; go_simp⟩) (by assumption) ?_
      refine wpAnyH_take (i := 10) (oi := _) (v := .pointer (some ⟨g, 1, none⟩)) rfl (by kernel_rfl) (by kernel_rfl) (by kernel_rfl) (fun _ _ _ h => h) (Or.inl ⟨by rfl, by intro W hSw; obtain ⟨z0, z1, z2⟩ := hSw; go_simp⟩) (by assumption) ?_
      refine wpAnyH_ready (rs := [11]) (by kernel_rfl) (by simp) (AllReadyH.cons (o := _) rfl (fun K hK => ?_) AllReadyH.nil)
      rw [if_pos (by rfl)]
      go_simp
      have X4 := X3.far (p := ⟨g, 1, none⟩) (by show ¬ w.heap.size = g; omega) (.slice A3 np c3)
      refine hK.out _ _ ⟨X4.cell (i := 0) rfl, X4.cell (i := 1) rfl, X4.cell (i := 2) rfl⟩ (fun _ => ?_)
      clear hK K
      refine wpAnyH_done (by kernel_rfl) (NoPanic.normal ?_) _
      try simp only [List.getElem_toArray, List.getElem_cons_succ, List.getElem_cons_zero, Act.put, List.setIfInBounds_toArray, List.set_cons_zero, List.set_cons_succ]
      rotate_left
      rw [if_pos (by rfl)]
      go_simp
      have hsA := (fun (p : Addr) (u : Value) (h : wr.drew.cell? p = some u) => cell_past (.cells #[.int .i64 x.f0, .slice A m c, .bool x.f2] 84) h)
      refine hK.out _ _ ⟨hsA _ _ x0, hsA _ _ x1, hsA _ _ x2⟩ (fun hsB => ?_)
      clear hK K
      refine wpAnyH_ready (rs := [4]) (by kernel_rfl) (by simp) (AllReadyH.cons (o := _) rfl (fun K hK => ?_) AllReadyH.nil)
      rw [if_pos (by rfl)]
      go_simp
      refine hK.out _ _ hsB (fun _ => ?_)
      clear hK K
      refine wpAnyH_ready (rs := [8]) (by kernel_rfl) (by simp) (AllReadyH.cons (o := _) rfl (fun K hK => ?_) AllReadyH.nil)
      rw [if_pos (by rfl)]
      go_simp
      have hbi : Below w0.heap.size w0 (wr.alloc (.cells #[.int .i64 x.f0, .slice A m c, .bool x.f2] 84)).drew := (hbW.out.trans ((ab (Below.refl wr.heap.size wr) (.cells #[.int .i64 x.f0, .slice A m c, .bool x.f2] 84)).mono hbW.out.size)).drew
      have hvi : Stc (wr.alloc (.cells #[.int .i64 x.f0, .slice A m c, .bool x.f2] 84)).drew wr.heap.size [.int .i64 x.f0, .slice A m c, .bool x.f2] 84 := Stc.new wr _ _ _ rfl
      have hoi := hoW.out.below ((ab (Below.refl wr.heap.size wr) (.cells #[.int .i64 x.f0, .slice A m c, .bool x.f2] 84)).drew) (Nat.le_refl _)
      refine (insertH_any B k wr.heap.size _ els x A m c w0 (wr.alloc (.cells #[.int .i64 x.f0, .slice A m c, .bool x.f2] 84)).drew hap hbi hB (by have := Hl.out; omega) (by have := Hl.out; omega) hbW.out.size hvi hoi hz).mono ?_
      rintro x3 w3 ⟨⟨v3, rfl, hap3, hlay3⟩, hgr3⟩
      obtain ⟨np, hnp⟩ : ∃ np, (els.take k ++ [x] ++ els.drop k).length = np := ⟨_, rfl⟩
      have Hnp := Shut.mk hnp
      clear hnp
      obtain ⟨A3, c3, rfl, _, _⟩ := hap3.lo Hnp.out
      have hSi : Stc (wr.alloc (.cells #[.int .i64 x.f0, .slice A m c, .bool x.f2] 84)).drew g [.int .i64 first, .slice A0 k c0] 93 := SW.alloc (.cells #[.int .i64 x.f0, .slice A m c, .bool x.f2] 84)
      have hne3 : (.slice A0 k c0 : Value).ownBlock ≠ some g := fun h => by have := hapB.out g h; omega
      have S3 : Stc w3 g [.int .i64 first, .slice A0 k c0] 93 := (hgr3.block g hSi.lt (fun e => hne3 e.symm)).trans hSi
      have hXB : Stc (wr.alloc (.cells #[.int .i64 x.f0, .slice A m c, .bool x.f2] 84)).drew w.heap.size [.int .i64 x.f0, .slice A m c, .bool x.f2] 84 := XW.alloc (.cells #[.int .i64 x.f0, .slice A m c, .bool x.f2] 84)
      have X3 : Stc w3 w.heap.size [.int .i64 x.f0, .slice A m c, .bool x.f2] 84 := (hgr3.block w.heap.size hXB.lt (fun e => hapX.out e.symm)).trans hXB
      have B3 : Below g w w3 := ⟨hgr3.os.trans hbW2.os, hgr3.tape.trans hbW2.tape, hgr3.output.trans hbW2.output, Nat.le_trans hbW2.size (Nat.le_trans (Nat.le_of_lt (by show wr.heap.size < (wr.alloc (.cells #[.int .i64 x.f0, .slice A m c, .bool x.f2] 84)).heap.size; rw [World.size_alloc]; omega)) hgr3.size), fun k hk => (hgr3.block k (by have := hbW2.size; show k < (wr.alloc (.cells #[.int .i64 x.f0, .slice A m c, .bool x.f2] 84)).heap.size; rw [World.size_alloc]; omega) (fun e => by have := hapB.out k e.symm; omega)).trans ((Below.heap_alloc _ _ k (by have := hbW2.size; show k < wr.heap.size; omega)).trans (hbW2.block k hk))⟩
      have y1 := S3.cell (i := 1) rfl
      have yf := S3.frozen
      refine hK.out _ _ ⟨X3.cell (i := 0) rfl, X3.cell (i := 1) rfl, X3.cell (i := 2) rfl⟩ (fun hsC => ?_)
      clear hK K
      refine wpAnyH_take (i := 9) (oi := _) (v := .pointer (some ⟨g, 0, none⟩)) rfl (by kernel_rfl) (by kernel_rfl) (by kernel_rfl) (fun _ _ _ h => h) (Or.inl ⟨by rfl, by intro W hSw; obtain ⟨z0, z1, z2⟩ := hSw; go_simp⟩) (by assumption) ?_
      refine wpAnyH_take (i := 10) (oi := _) (v := .pointer (some ⟨g, 1, none⟩)) rfl (by kernel_rfl) (by kernel_rfl) (by kernel_rfl) (fun _ _ _ h => h) (Or.inl ⟨by rfl, by intro W hSw; obtain ⟨z0, z1, z2⟩ := hSw; go_simp⟩) (by assumption) ?_
      refine wpAnyH_ready (rs := [11]) (by kernel_rfl) (by simp) (AllReadyH.cons (o := _) rfl (fun K hK => ?_) AllReadyH.nil)
      rw [if_pos (by rfl)]
      go_simp
      have X4 := X3.far (p := ⟨g, 1, none⟩) (by show ¬ w.heap.size = g; omega) (.slice A3 np c3)
      refine hK.out _ _ ⟨X4.cell (i := 0) rfl, X4.cell (i := 1) rfl, X4.cell (i := 2) rfl⟩ (fun _ => ?_)
      clear hK K
      refine wpAnyH_done (by kernel_rfl) (NoPanic.normal ?_) _
      try simp only [List.getElem_toArray, List.getElem_cons_succ, List.getElem_cons_zero, Act.put, List.setIfInBounds_toArray, List.set_cons_zero, List.set_cons_succ]
      all_goals
        go_wp2
        try rw [Exit.noGoto_normal]
        refine bodyPost_norm (v := .tuple #[]) (by simp [results, Try.results45, go_sem]) rfl ?_
        refine ⟨rfl, ⟨(.slice A3 np c3), S3.set_ (i := 1) (.slice A3 np c3), ?_⟩, B3.setCell (Nat.le_refl _) _⟩
        rw [EN.out]
        exact (hap3.far (p := ⟨g, 1, none⟩) hg (.slice A3 np c3))
end Go.Proofs.Ytpaemmoopjkppaa
