/- A range over slices.Backward: joinLow. -/
import Derived.RangeFuncFrom
import Derived.RangeFuncBox
import Derived.RangeFuncLeaves
import Derived.RangeFuncNested
import Derived.RangeFuncBound
import Derived.RangeFuncCalls
import Derived.Shelf.Abstract
import Derived.OwnWalkIn
import Derived.TacticsInMore
import Derived.LoopNIn
import Derived.LoopIn
import Derived.Test.YtbjcgdgebbiieaaReadC
import Derived.Test.YtbjcgdgebbiieaaBackC
namespace Go.Proofs.Ytbjcgdgebbiieaa
open Go.RowKit Go.Shelf

attribute [local go_sem] Oper.semAt_some

/-- what a round is handed: a place, and a byte -/
abbrev Came := Int × { x : Int // 0 ≤ x ∧ x < 256 }
def cameArgs (p : Came) : Array Value := #[.int .i64 p.1, .int .u8 p.2.1]
def vals (pre : List Came) : List Int := pre.map fun p => p.2.1
theorem vals_snoc (pre : List Came) (p : Came) : vals (pre ++ [p]) = vals pre ++ [p.2.1] := by simp [vals]
theorem vals_byte (pre : List Came) : By (vals pre) := fun x hx => by
  simp only [vals, List.mem_map] at hx
  obtain ⟨p, _, rfl⟩ := hx
  exact p.2.2

theorem rev_take (l : List Int) (n k : Nat) (h : l.length = n) (hk : k < n) : l.reverse.take (k + 1) = l.reverse.take k ++ [l.getD (n - 1 - k) 0] := by
  rw [List.take_succ_eq_append_getElem (by rw [List.length_reverse]; omega), List.getElem_reverse]
  simp [List.getD, List.getElem?_eq_getElem (show n - 1 - k < l.length by omega), h]

/-- what lay below n0 lies as it lay, and so does block Bx -/
def Kb (n0 Bx : Nat) (A B : World) : Prop := Below n0 A B ∧ B.heap[Bx]? = A.heap[Bx]?
theorem Kb.refl (n0 Bx : Nat) (A : World) : Kb n0 Bx A A := ⟨Below.refl _ _, rfl⟩
theorem Kb.trans {n0 Bx : Nat} {A B C : World} (h : Kb n0 Bx A B) (k : Kb n0 Bx B C) : Kb n0 Bx A C := ⟨h.1.trans k.1, k.2.trans h.2⟩
theorem Kb.cellBox {n0 Bx : Nat} {A B : World} (h : Kb n0 Bx A B) : B.cell? ⟨Bx, 0, none⟩ = A.cell? ⟨Bx, 0, none⟩ := World.cell?_of_block (a := ⟨Bx, 0, none⟩) h.2

set_option maxRecDepth 100000 in
set_option maxHeartbeats 2000000 in
/-- the closure of slices.Backward, for every body of a loop that keeps what lay below n0 -/
theorem Back1_in (F : Fence) (fn0 : Nat) (hf : F.fn 75) (hro : F.round = none) (hn : 1 ≤ fn0) (lp Bx n0 n c : Nat) (A : Option Addr) (l : List Int) (hreach : n ≤ 140737488351232)
    (J Jx : List Came → World → Prop)
    (hY : ∀ pre x W, J pre W → pre.length < n → YieldAt F (fn0 - 1) Try.prog lp (cameArgs x) W fun e W' =>
      (e = .returned (.bool true) ∧ J (pre ++ [x]) W' ∧ Kb n0 Bx W W') ∨ (e = .returned (.bool false) ∧ Jx (pre ++ [x]) W'))
    (W : World) (hBx : W.cell? ⟨Bx, 0, none⟩ = some (.slice A n c)) (hl : Bs W A n l) (hsz : ∀ b off, A = some ⟨b, off, none⟩ → 0 < n → b < n0) (h0 : J [] W) :
    CallsIn F fn0 Try.prog 75 #[.func (.yield lp) #[] #[], .pointer (some ⟨Bx, 0, none⟩)] W fun e W' => (∃ v, e = .returned v) ∧
      ((∃ ys, vals ys = l.reverse ∧ J ys W') ∨ (∃ pre, True ∧ Jx pre W')) := by
  have Hl := Lib.hid hl.len
  refine callsIn_of_wp Try.func75 rfl hf ?_ hro
  simp only [Try.ntmps75, List.size_toArray, List.length_cons, List.length_nil, Nat.reduceAdd, Nat.reduceSub, Array.replicate_succ, Array.replicate_zero, List.push_toArray, List.append_toArray, List.nil_append, List.cons_append]
  gi_wp2
  gi_loopw [3] (fun i wr => ∃ (k : Nat) (pre : List Came), k ≤ n ∧ i = .int .i64 ((n : Int) - 1 - (k : Int)) ∧ pre.length = k ∧ vals pre = l.reverse.take k ∧ J pre wr ∧ Kb n0 Bx W wr)
    (fun i _ => (intOf i + 1).toNat)
  case atStart => exact ⟨0, [], Nat.zero_le _, by go_num, rfl, rfl, h0, Kb.refl _ _ _⟩
  case round =>
    obtain ⟨k, pre, hk, rfl, hpl, hv, hJs, hbel⟩ := hrel
    have hbx := hbel.cellBox.trans hBx
    by_cases hlt : k < n
    · obtain ⟨j, hj⟩ : ∃ j : Nat, j + k + 1 = n := ⟨n - 1 - k, by omega⟩
      obtain ⟨b, off, X, rfl, _, hX0, hX1, HX, hx⟩ := hl.get (show j < n by omega)
      have hx' := (hbel.1.cell (p := ⟨b, off + j, none⟩) (hsz _ _ rfl (by omega))).trans hx
      clear hx
      have ej : (n : Int) - 1 - (k : Int) = (j : Int) := by omega
      rw [ej]
      have Hrt : Hid (l.reverse.take (k + 1) = l.reverse.take k ++ [X]) := by
        show l.reverse.take (k + 1) = l.reverse.take k ++ [X]
        rw [rev_take l n k Hl.out hlt, show n - 1 - k = j by omega, HX.out]
      obtain ⟨fn, tmps, assign, body, hy, hR⟩ := hY pre ((j : Int), ⟨X, hX0, hX1⟩) wr hJs (by omega)
      dsimp only [cameArgs] at hy
      have Hv := Lib.hid hv
      have Hpl := Lib.hid hpl
      have Hj := Lib.hid hj
      have hjn : j < n := by omega
      clear hv hpl ej hj
      gi_wp2
      refine hR.mono ?_
      rintro e W3 (⟨rfl, hJ3, hk3⟩ | ⟨rfl, hJx3⟩)
      · gi_wp2
        go_roundw
        case rel => exact ⟨k + 1, pre ++ [((j : Int), ⟨X, hX0, hX1⟩)], by omega, by have := Hj.out; go_num, by rw [List.length_append, Hpl.out]; rfl, by rw [vals_snoc, Hv.out, Hrt.out], hJ3, hbel.trans hk3⟩
        case measure => simp [intOf]
      · gi_wp2
        refine bodyPost_ret (results_none rfl _ _ _) rfl ?_
        exact ⟨⟨_, rfl⟩, .inr ⟨_, trivial, hJx3⟩⟩
    · obtain rfl : k = n := by omega
      have hfin : vals pre = l.reverse := by rw [hv, List.take_of_length_le (by rw [List.length_reverse, Hl.out]; exact Nat.le_refl _)]
      clear hv hpl
      gi_wp2
      go_end0
      exact ⟨⟨_, rfl⟩, .inl ⟨_, hfin, hJs⟩⟩

set_option maxHeartbeats 1000000 in
theorem Backward_in (F : Fence) (n : Nat) (hf : F.fn 73) (hro : F.round = none) (a : Option Addr) (len cap : Nat) (w : World) :
    CallsIn F n Try.prog 73 #[.slice a len cap] w fun e w' => e = .returned (.func (.func 75) #[] #[.pointer (some ⟨w.heap.size, 0, none⟩)]) ∧ w' = w.alloc (.cells #[.slice a len cap] 22) := by
  refine callsIn_of_wp Try.func73 rfl hf ?_ hro
  simp only [Try.ntmps73, List.size_toArray, List.length_cons, List.length_nil, Nat.reduceAdd, Nat.reduceSub, Array.replicate_succ, Array.replicate_zero, List.push_toArray, List.append_toArray, List.nil_append, List.cons_append]
  gi_wp2
  go_ret
  exact ⟨rfl, rfl⟩

theorem Backward_stops (F : Fence) (fn0 : Nat) (hf : F.fn 75) (hro : F.round = none) (hn : 1 ≤ fn0) (Bx n0 n c : Nat) (A : Option Addr) (l : List Int) (hreach : n ≤ 140737488351232) (w : World)
    (hBx : w.cell? ⟨Bx, 0, none⟩ = some (.slice A n c)) (hl : Bs w A n l) (hsz : ∀ b off, A = some ⟨b, off, none⟩ → 0 < n → b < n0) :
    SeqStopsK F fn0 Try.prog 75 #[.pointer (some ⟨Bx, 0, none⟩)] cameArgs (Kb n0 Bx) (fun ys => vals ys = l.reverse) (fun _ => True) n w := fun lp J Jx W hW _ _ hY h0 =>
  Back1_in F fn0 hf hro hn lp Bx n0 n c A l hreach J Jx hY W ((hW.cell (p := ⟨Bx, 0, none⟩) (World.block_lt_of_cell? w _ hBx)).trans hBx) (hl.below hW) hsz h0

theorem one_new (W : World) (v : Value) (t : TypeId) : (W.alloc (.cells #[v] t)).cell? ⟨W.heap.size, 0, none⟩ = some v ∧ (W.alloc (.cells #[v] t)).frozen? ⟨W.heap.size, 0, none⟩ = false := by
  have e := heap_alloc_new W (.cells #[v] t)
  have f : ∀ (w' : World) (b : Nat), w'.heap[b]? = some (.cells #[v] t (0, 0)) → w'.frozen? ⟨b, 0, none⟩ = false := fun w' b h => by simp [World.frozen?, h]
  have g : ∀ (w' : World) (b : Nat), w'.heap[b]? = some (.cells #[v] t (0, 0)) → w'.cell? ⟨b, 0, none⟩ = some v := fun w' b h => by
    have := cell_of_row w' b 0 _ _ (0, 0) h
    simpa using this
  exact ⟨g _ _ e, f _ _ e⟩
theorem cell_past {W : World} {a : Addr} {v : Value} (o : Obj) (h : W.cell? a = some v) : (W.alloc o).cell? a = some v :=
  (World.cell?_of_block (Below.heap_alloc W o a.block (World.block_lt_of_cell? W a h))).trans h
theorem frozen_past {W : World} {a : Addr} {v : Value} (o : Obj) (h : W.cell? a = some v) (hf : W.frozen? a = false) : (W.alloc o).frozen? a = false :=
  (World.frozen?_of_block (Below.heap_alloc W o a.block (World.block_lt_of_cell? W a h))).trans hf

theorem putObj_other (W : World) (l : Nat) (o : Obj) (k : Nat) (h : k ≠ l) : (W.putObj l o).heap[k]? = W.heap[k]? := by
  simp only [World.putObj]
  rw [Array.getElem?_setIfInBounds_ne (by omega)]

theorem hi_bd6 (l : List Int) (h : By l) (hk : l.length ≤ 6) : 0 ≤ hi l ∧ hi l < 281474976710656 := by
  have := hi_take_bd l h l.length hk
  rwa [List.take_length] at this

/-- the number of bytes, the lowest one first -/
def lo (l : List Int) : Int := hi l.reverse

set_option maxRecDepth 100000 in
set_option maxHeartbeats 2000000 in
theorem joinLow_in (F : Fence) (n : Nat) (h48 : F.fn 52) (h65 : F.fn 73) (h67 : F.fn 75) (hro : F.round = none) (hn : 3 ≤ n) (A : Option Addr) (len c : Nat) (l : List Int) (w : World) (h : Bs w A len l) (hlen : len ≤ 7) :
    CallsIn F n Try.prog 52 #[.slice A len c] w fun e W' => e = .returned (.int .i64 (lo l)) ∧ Below w.heap.size w W' := by
  have h1 : 1 ≤ n := by omega
  refine callsIn_of_wp_marks Try.func52 rfl h48 ?_ hro
  simp only [Try.ntmps52, List.size_toArray, List.length_cons, List.length_nil, Nat.reduceAdd, Nat.reduceSub, Array.replicate_succ, Array.replicate_zero, List.push_toArray, List.append_toArray, List.nil_append, List.cons_append]
  gi_wp2_with (gi_at_call 73; refine (Backward_in F (n - 1) h65 hro _ _ _ _).mono ?_; rintro e w' ⟨rfl, rfl⟩)
  have hs := one_new w (.int .i64 0) 2
  have hb := one_new (w.alloc (.cells #[.int .i64 0] 2)) (.slice A len c) 22
  rw [World.size_alloc] at hb
  have hB0 : Below w.heap.size w ((w.alloc (.cells #[.int .i64 0] 2)).alloc (.cells #[.slice A len c] 22)) := ab (ab (Below.refl _ w) _) _
  refine wpIn_rangeFunc_ownF hro h1 (gf := 75) (lb := #[.pointer (some ⟨w.heap.size + 1, 0, none⟩)]) rfl h67 (enters_of Try.func75 (by kernel_rfl) rfl)
    (Backward_stops F (n - 1) h67 hro (by omega) (w.heap.size + 1) w.heap.size len c A l (by omega) _ hb.1 ((h.alloc _).alloc _) (fun b off e hp => by obtain ⟨b', off', e', hlt, _⟩ := h.at_ hp; rw [e] at e'; injection e' with e'; injection e' with e'; omega))
    (fun {A B C} => Kb.trans) (fun W2 l2 o o' hle ho h1 h2 => ⟨belowK_b (w := w) (Nat.le_refl _) W2 l2 o o' (by simp at hle; omega) ho h1 h2, putObj_other W2 l2 o' (w.heap.size + 1) (by simp at hle; omega)⟩) (Below.refl _ _) (fun _ => rfl)
    (fun pre W => (W.cell? ⟨w.heap.size, 0, none⟩ = some (.int .i64 (hi (vals pre))) ∧ W.frozen? ⟨w.heap.size, 0, none⟩ = false) ∧ Below w.heap.size w W)
    (fun _ _ _ => False)
    (OwnFrom.and (Own.from (fun s A B row hs hg hr => ⟨cell_kept hs.1 hg hr, (frozen_kept hs.1 hg hr).trans hs.2⟩) _) (ownFrom_below (Nat.le_refl _) (by simp; omega)))
    (fun _ _ _ _ _ hs _ _ => hs)
    ⟨⟨cell_past _ hs.1, frozen_past _ hs.1 hs.2⟩, hB0⟩
    (fun x => { tmps := #[.slice A len c, undef, .int .i64 0, .pointer (some ⟨w.heap.size, 0, none⟩), undef, .int .u8 x.2.1, .slice A len c, .func (.func 75) #[] #[.pointer (some ⟨w.heap.size + 1, 0, none⟩)], .int .i64 x.1, .int .u8 x.2.1, undef, undef, undef, undef, undef, undef], defers := [] }) ?assign ?body ?done ?stop
  case assign =>
    intro lp x W K hK
    simp only [cameArgs]
    gi_wp2
    exact hK
  case body =>
    rintro lp pre x W ⟨⟨hc, hf⟩, hB⟩ hpre
    obtain ⟨hb0, hb1⟩ := hi_bd6 (vals pre) (vals_byte pre) (by rw [vals, List.length_map]; omega)
    obtain ⟨i, X, hX0, hX1⟩ := x
    have Ho := Lib.hid (or_byte _ X hb0 hb1 hX0 hX1)
    gi_wp2
    refine ⟨KeepsOthers.setCell _ _ _, ⟨(Below.refl w.heap.size W).setCell (p := ⟨w.heap.size, 0, none⟩) (Nat.le_refl _) _, Below.heap_setCell W ⟨w.heap.size, 0, none⟩ _ (w.heap.size + 1) (by simp)⟩, ⟨?_, by rw [World.frozen?_setCell]; exact hf⟩, hB.setCell (p := ⟨w.heap.size, 0, none⟩) (Nat.le_refl _) _⟩
    rw [vals_snoc, hi_snoc, Ho.out]
    exact World.cell?_setCell_same W _ _ hc
  case done =>
    rintro D ys W hD hys ⟨⟨hc, _⟩, hB⟩ hK
    gi_wp2
    refine ⟨by simp, .inl ⟨_, _, rfl, run_takeDeferred hK, ?_⟩⟩
    exact ⟨_, results_tmp rfl _ _ _, by simp [lo], hB.trans (belowK_b (w := w) (Nat.le_refl _) W D _ _ (by simp at hD; omega) hK rfl rfl)⟩
  case stop =>
    rintro D c pre W _ _ h _
    exact h.elim

theorem joinLow_any (A : Option Addr) (n c : Nat) (l : List Int) (w : World) (h : Bs w A n l) (hn : n ≤ 7) :
    Calls Try.prog 52 #[.slice A n c] w fun e w' => e = .returned (.int .i64 (lo l)) ∧ Below w.heap.size w w' :=
  (callsIn_wide (n := 3)).1 (joinLow_in Fence.wide 3 trivial trivial trivial rfl (by omega) A n c l w h hn)

theorem specl1ReadLow_any (A : Option Addr) (n c : Nat) (l : List Int) (w : World) (h : Bs w A n l) (hn : n ≤ 7) :
    Calls Try.prog 57 #[.slice A n c] w fun e w' => e = .returned (.int .i64 (lo l)) ∧ Below w.heap.size w w' := by
  go_enter Try.func57, Try.ntmps57
  go_wp2_with fail
  refine (l1Back_any _ _ _ _ _ h (by omega)).mono ?_
  rintro e w1 ⟨⟨A1, c1, rfl, how⟩, hb⟩
  go_wp2_with fail
  refine (specl1ReadHigh_any _ _ _ _ _ how.bs hn).mono ?_
  rintro e w2 ⟨rfl, rfl⟩
  go_wp2
  go_ret
  exact ⟨rfl, hb⟩

def rlow (l : List Int) : Int := if 1 ≤ l.length ∧ l.length ≤ 7 then lo l else 0

theorem implReadLow_any (A : Option Addr) (n c : Nat) (l : List Int) (w : World) (h : Bs w A n l) (hn : n ≤ 140737488351232) :
    Calls Try.prog 19 #[.slice A n c] w fun e w' => e = .returned (.agg #[.int .i64 (rcode n), .int .i64 (rlow l)]) ∧ Below w.heap.size w w' := by
  have hl := h.len
  by_cases hr : 1 ≤ n ∧ n ≤ 7
  · have Hf : Hid (rcode n = 0 ∧ rlow l = lo l) := by
      refine ⟨by simp [rcode, hr], ?_⟩
      unfold rlow
      rw [if_pos (by omega)]
    have hd : decide (1 ≤ n ∧ n ≤ 7) = true := by simpa using hr
    have Hd := Lib.hid hd
    have h7 := hr.2
    clear hd hr hl
    go_enter Try.func19, Try.ntmps19
    go_wp2_with fail
    refine (canRead_any _ _ _ _ hn).mono ?_
    rintro e w' ⟨rfl, rfl⟩
    rw [Hd.out]
    go_wp2_with fail
    refine (joinLow_any _ _ _ _ _ (h.alloc _) h7).mono ?_
    rintro e w1 ⟨rfl, hb⟩
    have t1 := (Two.new w 31 (.int .i64 0) (.int .i64 0)).below hb (by simp)
    obtain ⟨x0, x1, x2, x3⟩ := t1.cells
    go_wp2
    refine bodyPost_ret (v := .agg #[.int .i64 0, .int .i64 (lo l)]) (by simp [results, Try.results19, go_sem, x0, x1]) rfl ?_
    rw [Hf.out.1, Hf.out.2]
    exact ⟨rfl, ((ac (ab (Below.refl _ w) _) hb).setCell (by simp) _).setCell (by simp) _⟩
  · have Hf : Hid (rcode n = 2 ∧ rlow l = 0) := by
      refine ⟨by simp [rcode, hr], ?_⟩
      unfold rlow
      rw [if_neg (by omega)]
    have hd : decide (1 ≤ n ∧ n ≤ 7) = false := by simpa using hr
    have Hd := Lib.hid hd
    clear hd hr hl
    go_enter Try.func19, Try.ntmps19
    go_wp2_with fail
    refine (canRead_any _ _ _ _ hn).mono ?_
    rintro e w' ⟨rfl, rfl⟩
    rw [Hd.out]
    go_wp2
    go_returns
    rw [Hf.out.1, Hf.out.2]
    exact ⟨rfl, by go_grown⟩

theorem specReadLow_any (A : Option Addr) (n c : Nat) (l : List Int) (w : World) (h : Bs w A n l) (hn : n ≤ 140737488351232) :
    Calls Try.prog 24 #[.slice A n c] w fun e w' => e = .returned (.agg #[.int .i64 (rcode n), .int .i64 (rlow l)]) ∧ Below w.heap.size w w' := by
  have hl := h.len
  by_cases hr : 1 ≤ n ∧ n ≤ 7
  · have Hf : Hid (rcode n = 0 ∧ rlow l = lo l) := by
      refine ⟨by simp [rcode, hr], ?_⟩
      unfold rlow
      rw [if_pos (by omega)]
    obtain ⟨h1, h7⟩ := hr
    clear hl
    go_enter Try.func24, Try.ntmps24
    go_wp2_with fail
    refine (specl1ReadLow_any _ _ _ _ _ (h.alloc _) h7).mono ?_
    rintro e w1 ⟨rfl, hb⟩
    have t1 := (Two.new w 31 (.int .i64 0) (.int .i64 0)).below hb (by simp)
    obtain ⟨x0, x1, x2, x3⟩ := t1.cells
    go_wp2
    refine bodyPost_ret (v := .agg #[.int .i64 0, .int .i64 (lo l)]) (by simp [results, Try.results24, go_sem, x0, x1]) rfl ?_
    rw [Hf.out.1, Hf.out.2]
    exact ⟨rfl, ((ac (ab (Below.refl _ w) _) hb).setCell (by simp) _).setCell (by simp) _⟩
  · have Hf : Hid (rcode n = 2 ∧ rlow l = 0) := by
      refine ⟨by simp [rcode, hr], ?_⟩
      unfold rlow
      rw [if_neg (by omega)]
    clear hl
    by_cases h1 : 1 ≤ n
    · have h7 : 7 < n := by omega
      clear hr
      go_enter Try.func24, Try.ntmps24
      go_wp2
      go_returns
      rw [Hf.out.1, Hf.out.2]
      exact ⟨rfl, by go_grown⟩
    · have h0 : n < 1 := by omega
      clear hr h1
      go_enter Try.func24, Try.ntmps24
      go_wp2
      go_returns
      rw [Hf.out.1, Hf.out.2]
      exact ⟨rfl, by go_grown⟩
end Go.Proofs.Ytbjcgdgebbiieaa
