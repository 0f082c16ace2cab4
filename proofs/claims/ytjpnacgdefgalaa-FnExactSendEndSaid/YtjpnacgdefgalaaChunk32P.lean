/- A range over slices.Chunk, 32 bytes at a time; the last ones may be fewer. -/
import Derived.RangeFuncFrom
import Derived.RangeFuncBox
import Derived.RangeFuncLeaves
import Derived.RangeFuncNested
import Derived.RangeFuncBound
import Derived.RangeFuncCalls
import Derived.Shelf.Abstract
import Derived.OwnWalkIn
import Derived.TacticsInMore
import Derived.LoopNIn
import Derived.LoopIn
import Derived.Test.YtjpnacgdefgalaaWordP
namespace Go.Proofs.Ytjpnacgdefgalaa
open Go.RowKit Go.Shelf

attribute [local go_sem] Oper.semAt_some

/-- what a round is handed: the bytes at a place of n -/
abbrev Pc32 (n : Nat) := { k : Nat // 32 * k < n }
def len32 (n k : Nat) : Nat := if 32 * k + 32 ≤ n then 32 else n - 32 * k
def pcArgs32 (b off : Nat) {n : Nat} (p : Pc32 n) : Array Value := #[.slice (some ⟨b, off + 32 * p.1, none⟩) (len32 n p.1) (len32 n p.1)]

/-- what lay below n0 lies as it lay, and so do two blocks -/
def Kd32 (n0 x y : Nat) (A B : World) : Prop := Below n0 A B ∧ B.heap[x]? = A.heap[x]? ∧ B.heap[y]? = A.heap[y]?
theorem Kd32.refl (n0 x y : Nat) (A : World) : Kd32 n0 x y A A := ⟨Below.refl _ _, rfl, rfl⟩
theorem Kd32.trans {n0 x y : Nat} {A B C : World} (h : Kd32 n0 x y A B) (k : Kd32 n0 x y B C) : Kd32 n0 x y A C := ⟨h.1.trans k.1, k.2.1.trans h.2.1, k.2.2.trans h.2.2⟩
theorem Kd32.drew {n0 x y : Nat} {A B : World} (h : Kd32 n0 x y A B) : Kd32 n0 x y A B.drew := ⟨h.1.drew, h.2⟩
theorem Kd32.cx {n0 x y : Nat} {A B : World} (h : Kd32 n0 x y A B) : B.cell? ⟨x, 0, none⟩ = A.cell? ⟨x, 0, none⟩ := World.cell?_of_block (a := ⟨x, 0, none⟩) h.2.1
theorem Kd32.cy {n0 x y : Nat} {A B : World} (h : Kd32 n0 x y A B) : B.cell? ⟨y, 0, none⟩ = A.cell? ⟨y, 0, none⟩ := World.cell?_of_block (a := ⟨y, 0, none⟩) h.2.2

set_option maxRecDepth 100000 in
set_option maxHeartbeats 4000000 in
/-- the closure of slices.Chunk, for every body of a loop that keeps what lay below n0 -/
theorem Chunk321_in (F : Fence) (fn0 : Nat) (hf : F.fn 176) (hro : F.round = none) (hn : 1 ≤ fn0) (lp Bs_ Bn n0 b off n c : Nat) (A : Option Addr) (hA : 0 < n → A = some ⟨b, off, none⟩) (hnc : n ≤ c) (hq : n ≤ 2000000000)
    (J Jx : List (Pc32 n) → World → Prop)
    (hY : ∀ pre x W, J pre W → pre.length < n → YieldAt F (fn0 - 1) Try.prog lp (pcArgs32 b off x) W fun e W' =>
      (e = .returned (.bool true) ∧ J (pre ++ [x]) W' ∧ Kd32 n0 Bs_ Bn W W') ∨ (e = .returned (.bool false) ∧ Jx (pre ++ [x]) W'))
    (W : World) (hBs : W.cell? ⟨Bs_, 0, none⟩ = some (.slice A n c)) (hBn : W.cell? ⟨Bn, 0, none⟩ = some (.int .i64 32)) (B0 : Nat) (hJ : AbidesFrom B0 J) (h0 : J [] W) :
    CallsIn F fn0 Try.prog 176 #[.func (.yield lp) #[] #[], .pointer (some ⟨Bs_, 0, none⟩), .pointer (some ⟨Bn, 0, none⟩)] W fun e W' => (∃ v, e = .returned v) ∧
      ((∃ ys : List (Pc32 n), (∃ q, ys.map (·.1) = List.range q ∧ n ≤ 32 * q ∧ (0 < q → 32 * (q - 1) < n)) ∧ J ys W') ∨ (∃ pre, True ∧ Jx pre W')) := by
  refine callsIn_of_wp Try.func176 rfl hf ?_ hro
  simp only [Try.ntmps176, List.size_toArray, List.length_cons, List.length_nil, Nat.reduceAdd, Nat.reduceSub, Array.replicate_succ, Array.replicate_zero, List.push_toArray, List.append_toArray, List.nil_append, List.cons_append]
  gi_wp2
  gi_loopw [4] (fun i wr => ∃ (k : Nat) (pre : List (Pc32 n)), i = .int .i64 (32 * (k : Int)) ∧ pre.length = k ∧ pre.map (·.1) = List.range k ∧ (0 < k → 32 * (k - 1) < n) ∧ J pre wr ∧ Kd32 n0 Bs_ Bn W wr)
    (fun i _ => n + 32 - (intOf i).toNat)
  case atStart => exact ⟨0, [], rfl, rfl, rfl, fun h => absurd h (Nat.lt_irrefl 0), h0, Kd32.refl _ _ _ _⟩
  case round =>
    obtain ⟨k, pre, rfl, hpl, hv, hpr, hJs, hbel⟩ := hrel
    have hbs := hbel.cx.trans hBs
    have hbn := hbel.cy.trans hBn
    by_cases hlt : 32 * k < n
    · obtain ⟨fn, tmps, assign, body, hy, hR⟩ := hY pre ⟨k, hlt⟩ wr.drew (hJ pre wr wr.drew none hJs ⟨rfl, rfl, rfl, Nat.le_refl _, fun _ _ _ => rfl⟩ (fun r e => by cases e)) (by omega)
      have hA1 := hA (by omega)
      rw [hA1] at hbs
      dsimp only [pcArgs32] at hy
      have Hv := Shut.mk hv
      have Hpl := Shut.mk hpl
      have i1 : (32 : Int) * (k : Int) < (n : Int) := by omega
      have n1 : ((32 : Int) * (k : Int)).toNat = 32 * k := by omega
      have c1 : ¬ c = 32 * k := by omega
      have c2 : (32 : Int) * (k : Int) ≤ (c : Int) := by omega
      clear hv hpl hpr hA hA1
      by_cases hfull : 32 * k + 32 ≤ n
      · have hl : len32 n k = 32 := if_pos hfull
        rw [hl] at hy
        have m1 : ¬ (((n - 32 * k : Nat) : Int) < 32) := by omega
        have i2 : (32 : Int) * (k : Int) + 32 ≤ (c : Int) := by omega
        have a2 : 32 * k + 32 - 32 * k = 32 := by omega
        have n2 : ((32 : Int) * (k : Int) + 32).toNat = 32 * k + 32 := by omega
        clear hl
        gi_wp2
        gi_region
        all_goals
          gi_wp2
          refine hR.mono ?_
          rintro e W3 (⟨rfl, hJ3, hk3⟩ | ⟨rfl, hJx3⟩)
          · have hbn3 := hk3.cy.trans (show wr.drew.cell? ⟨Bn, 0, none⟩ = _ from hbn)
            clear hbn hbs
            gi_wp2
            go_roundw
            case rel => exact ⟨k + 1, pre ++ [⟨k, hlt⟩], by go_num, by rw [List.length_append, Hpl.out]; rfl, by rw [List.map_append, Hv.out, List.range_succ]; rfl, fun _ => hlt, hJ3, (hbel.drew).trans hk3⟩
            case measure => simp [intOf]; omega
          · gi_wp2
            refine bodyPost_ret (results_none rfl _ _ _) rfl ?_
            exact ⟨⟨_, rfl⟩, .inr ⟨_, trivial, hJx3⟩⟩
      · have hl : len32 n k = n - 32 * k := if_neg hfull
        rw [hl] at hy
        obtain ⟨r, hr⟩ : ∃ r, r = n - 32 * k := ⟨_, rfl⟩
        rw [← hr] at hy
        have m1 : ((r : Nat) : Int) < 32 := by omega
        have i2 : (32 : Int) * (k : Int) + (r : Int) ≤ (c : Int) := by omega
        have a2 : 32 * k + r - 32 * k = r := by omega
        have n2 : ((32 : Int) * (k : Int) + (r : Int)).toNat = 32 * k + r := by omega
        have r0 : 0 < r := by omega
        have r1 : n - 32 * k = r := hr.symm
        clear hl hr hfull
        gi_wp2
        gi_region
        all_goals
          gi_wp2
          refine hR.mono ?_
          rintro e W3 (⟨rfl, hJ3, hk3⟩ | ⟨rfl, hJx3⟩)
          · have hbn3 := hk3.cy.trans (show wr.drew.cell? ⟨Bn, 0, none⟩ = _ from hbn)
            clear hbn hbs
            gi_wp2
            go_roundw
            case rel => exact ⟨k + 1, pre ++ [⟨k, hlt⟩], by go_num, by rw [List.length_append, Hpl.out]; rfl, by rw [List.map_append, Hv.out, List.range_succ]; rfl, fun _ => hlt, hJ3, (hbel.drew).trans hk3⟩
            case measure => simp [intOf]; omega
          · gi_wp2
            refine bodyPost_ret (results_none rfl _ _ _) rfl ?_
            exact ⟨⟨_, rfl⟩, .inr ⟨_, trivial, hJx3⟩⟩
    · have i1 : ¬ ((32 : Int) * (k : Int) < (n : Int)) := by omega
      gi_wp2
      go_end0
      exact ⟨⟨_, rfl⟩, .inl ⟨_, ⟨k, hv, by omega, hpr⟩, hJs⟩⟩

set_option maxHeartbeats 1000000 in
theorem Chunk32_in (F : Fence) (n : Nat) (hf : F.fn 162) (hro : F.round = none) (a : Option Addr) (len cap : Nat) (w : World) :
    CallsIn F n Try.prog 162 #[.slice a len cap, .int .i64 32] w fun e w' => e = .returned (.func (.func 176) #[] #[.pointer (some ⟨w.heap.size, 0, none⟩), .pointer (some ⟨w.heap.size + 1, 0, none⟩)]) ∧ w' = (w.alloc (.cells #[.slice a len cap] 26)).alloc (.cells #[.int .i64 32] 3) := by
  refine callsIn_of_wp Try.func162 rfl hf ?_ hro
  simp only [Try.ntmps162, List.size_toArray, List.length_cons, List.length_nil, Nat.reduceAdd, Nat.reduceSub, Array.replicate_succ, Array.replicate_zero, List.push_toArray, List.append_toArray, List.nil_append, List.cons_append]
  gi_wp2
  go_ret
  exact ⟨rfl, rfl⟩

theorem Chunk32_stops (F : Fence) (fn0 : Nat) (hf : F.fn 176) (hro : F.round = none) (hn : 1 ≤ fn0) (X Y n0 b off n c : Nat) (A : Option Addr) (hA : 0 < n → A = some ⟨b, off, none⟩) (hnc : n ≤ c) (hq : n ≤ 2000000000) (w : World)
    (hX : w.cell? ⟨X, 0, none⟩ = some (.slice A n c)) (hY : w.cell? ⟨Y, 0, none⟩ = some (.int .i64 32)) :
    SeqStopsK F fn0 Try.prog 176 #[.pointer (some ⟨X, 0, none⟩), .pointer (some ⟨Y, 0, none⟩)] (pcArgs32 b off) (Kd32 n0 X Y) (fun ys : List (Pc32 n) => ∃ q, ys.map (·.1) = List.range q ∧ n ≤ 32 * q ∧ (0 < q → 32 * (q - 1) < n)) (fun _ => True) n w := fun lp J Jx W hW hJ _ hYy h0 =>
  Chunk321_in F fn0 hf hro hn lp X Y n0 b off n c A hA hnc hq J Jx hYy W ((hW.cell (p := ⟨X, 0, none⟩) (World.block_lt_of_cell? w _ hX)).trans hX) ((hW.cell (p := ⟨Y, 0, none⟩) (World.block_lt_of_cell? w _ hY)).trans hY) _ hJ h0
end Go.Proofs.Ytjpnacgdefgalaa
