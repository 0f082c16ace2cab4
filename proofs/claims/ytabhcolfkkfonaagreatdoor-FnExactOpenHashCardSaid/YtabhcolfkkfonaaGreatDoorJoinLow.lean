/- A range over slices.Backward: joinLow. -/
import Derived.RangeFuncFrom
import Derived.RangeFuncBox
import Derived.RangeFuncLeaves
import Derived.RangeFuncNested
import Derived.RangeFuncBound
import Derived.RangeFuncCalls
import Derived.Shelf.Abstract
import Derived.OwnWalkIn
import Derived.TacticsInMore
import Derived.LoopNIn
import Derived.LoopIn
import Derived.Test.YtabhcolfkkfonaaGreatDoorBase
namespace Go.Proofs.YtabhcolfkkfonaaGreatDoor
open Go.RowKit Go.Shelf

attribute [local go_sem] Oper.semAt_some

/-- what a round is handed: a place, and a byte -/
abbrev Came := Int × { x : Int // 0 ≤ x ∧ x < 256 }
def cameArgs (p : Came) : Array Value := #[.int .i64 p.1, .int .u8 p.2.1]
def vals (pre : List Came) : List Int := pre.map fun p => p.2.1
theorem vals_snoc (pre : List Came) (p : Came) : vals (pre ++ [p]) = vals pre ++ [p.2.1] := by simp [vals]
theorem vals_byte (pre : List Came) : By (vals pre) := fun x hx => by
  simp only [vals, List.mem_map] at hx
  obtain ⟨p, _, rfl⟩ := hx
  exact p.2.2

theorem rev_take (l : List Int) (n k : Nat) (h : l.length = n) (hk : k < n) : l.reverse.take (k + 1) = l.reverse.take k ++ [l.getD (n - 1 - k) 0] := by
  rw [List.take_succ_eq_append_getElem (by rw [List.length_reverse]; omega), List.getElem_reverse]
  simp [List.getD, List.getElem?_eq_getElem (show n - 1 - k < l.length by omega), h]

/-- what lay below n0 lies as it lay, and so does block Bx -/
def Kb (n0 Bx : Nat) (A B : World) : Prop := Below n0 A B ∧ B.heap[Bx]? = A.heap[Bx]?
theorem Kb.refl (n0 Bx : Nat) (A : World) : Kb n0 Bx A A := ⟨Below.refl _ _, rfl⟩
theorem Kb.trans {n0 Bx : Nat} {A B C : World} (h : Kb n0 Bx A B) (k : Kb n0 Bx B C) : Kb n0 Bx A C := ⟨h.1.trans k.1, k.2.trans h.2⟩
theorem Kb.cellBox {n0 Bx : Nat} {A B : World} (h : Kb n0 Bx A B) : B.cell? ⟨Bx, 0, none⟩ = A.cell? ⟨Bx, 0, none⟩ := World.cell?_of_block (a := ⟨Bx, 0, none⟩) h.2

set_option maxRecDepth 100000 in
set_option maxHeartbeats 2000000 in
/-- the closure of slices.Backward, for every body of a loop that keeps what lay below n0 -/
theorem Back1_in (F : Fence) (fn0 : Nat) (hf : F.fn 250) (hro : F.round = none) (hn : 1 ≤ fn0) (lp Bx n0 n c : Nat) (A : Option Addr) (l : List Int) (hreach : n ≤ 140737488351232)
    (J Jx : List Came → World → Prop)
    (hY : ∀ pre x W, J pre W → pre.length < n → YieldAt F (fn0 - 1) Tryz.prog lp (cameArgs x) W fun e W' =>
      (e = .returned (.bool true) ∧ J (pre ++ [x]) W' ∧ Kb n0 Bx W W') ∨ (e = .returned (.bool false) ∧ Jx (pre ++ [x]) W'))
    (W : World) (hBx : W.cell? ⟨Bx, 0, none⟩ = some (.slice A n c)) (hl : Bs W A n l) (hsz : ∀ b off, A = some ⟨b, off, none⟩ → 0 < n → b < n0) (h0 : J [] W) :
    CallsIn F fn0 Tryz.prog 250 #[.func (.yield lp) #[] #[], .pointer (some ⟨Bx, 0, none⟩)] W fun e W' => (∃ v, e = .returned v) ∧
      ((∃ ys, vals ys = l.reverse ∧ J ys W') ∨ (∃ pre, True ∧ Jx pre W')) := by
  have Hl := Lib.hid hl.len
  refine callsIn_of_wp Tryz.func250 rfl hf ?_ hro
  simp only [Tryz.ntmps250, List.size_toArray, List.length_cons, List.length_nil, Nat.reduceAdd, Nat.reduceSub, Array.replicate_succ, Array.replicate_zero, List.push_toArray, List.append_toArray, List.nil_append, List.cons_append]
  gi_wp2
  gi_loopw [3] (fun i wr => ∃ (k : Nat) (pre : List Came), k ≤ n ∧ i = .int .i64 ((n : Int) - 1 - (k : Int)) ∧ pre.length = k ∧ vals pre = l.reverse.take k ∧ J pre wr ∧ Kb n0 Bx W wr)
    (fun i _ => (intOf i + 1).toNat)
  case atStart => exact ⟨0, [], Nat.zero_le _, by go_num, rfl, rfl, h0, Kb.refl _ _ _⟩
  case round =>
    obtain ⟨k, pre, hk, rfl, hpl, hv, hJs, hbel⟩ := hrel
    have hbx := hbel.cellBox.trans hBx
    by_cases hlt : k < n
    · obtain ⟨j, hj⟩ : ∃ j : Nat, j + k + 1 = n := ⟨n - 1 - k, by omega⟩
      obtain ⟨b, off, X, rfl, _, hX0, hX1, HX, hx⟩ := hl.get (show j < n by omega)
      have hx' := (hbel.1.cell (p := ⟨b, off + j, none⟩) (hsz _ _ rfl (by omega))).trans hx
      clear hx
      have ej : (n : Int) - 1 - (k : Int) = (j : Int) := by omega
      rw [ej]
      have Hrt : Hid (l.reverse.take (k + 1) = l.reverse.take k ++ [X]) := by
        show l.reverse.take (k + 1) = l.reverse.take k ++ [X]
        rw [rev_take l n k Hl.out hlt, show n - 1 - k = j by omega, HX.out]
      obtain ⟨fn, tmps, assign, body, hy, hR⟩ := hY pre ((j : Int), ⟨X, hX0, hX1⟩) wr hJs (by omega)
      dsimp only [cameArgs] at hy
      have Hv := Lib.hid hv
      have Hpl := Lib.hid hpl
      have Hj := Lib.hid hj
      have hjn : j < n := by omega
      clear hv hpl ej hj
      gi_wp2
      refine hR.mono ?_
      rintro e W3 (⟨rfl, hJ3, hk3⟩ | ⟨rfl, hJx3⟩)
      · gi_wp2
        go_roundw
        case rel => exact ⟨k + 1, pre ++ [((j : Int), ⟨X, hX0, hX1⟩)], by omega, by have := Hj.out; go_num, by rw [List.length_append, Hpl.out]; rfl, by rw [vals_snoc, Hv.out, Hrt.out], hJ3, hbel.trans hk3⟩
        case measure => simp [intOf]
      · gi_wp2
        refine bodyPost_ret (results_none rfl _ _ _) rfl ?_
        exact ⟨⟨_, rfl⟩, .inr ⟨_, trivial, hJx3⟩⟩
    · obtain rfl : k = n := by omega
      have hfin : vals pre = l.reverse := by rw [hv, List.take_of_length_le (by rw [List.length_reverse, Hl.out]; exact Nat.le_refl _)]
      clear hv hpl
      gi_wp2
      go_end0
      exact ⟨⟨_, rfl⟩, .inl ⟨_, hfin, hJs⟩⟩

set_option maxHeartbeats 1000000 in
theorem Backward_in (F : Fence) (n : Nat) (hf : F.fn 246) (hro : F.round = none) (a : Option Addr) (len cap : Nat) (w : World) :
    CallsIn F n Tryz.prog 246 #[.slice a len cap] w fun e w' => e = .returned (.func (.func 250) #[] #[.pointer (some ⟨w.heap.size, 0, none⟩)]) ∧ w' = w.alloc (.cells #[.slice a len cap] 22) := by
  refine callsIn_of_wp Tryz.func246 rfl hf ?_ hro
  simp only [Tryz.ntmps246, List.size_toArray, List.length_cons, List.length_nil, Nat.reduceAdd, Nat.reduceSub, Array.replicate_succ, Array.replicate_zero, List.push_toArray, List.append_toArray, List.nil_append, List.cons_append]
  gi_wp2
  go_ret
  exact ⟨rfl, rfl⟩

theorem Backward_stops (F : Fence) (fn0 : Nat) (hf : F.fn 250) (hro : F.round = none) (hn : 1 ≤ fn0) (Bx n0 n c : Nat) (A : Option Addr) (l : List Int) (hreach : n ≤ 140737488351232) (w : World)
    (hBx : w.cell? ⟨Bx, 0, none⟩ = some (.slice A n c)) (hl : Bs w A n l) (hsz : ∀ b off, A = some ⟨b, off, none⟩ → 0 < n → b < n0) :
    SeqStopsK F fn0 Tryz.prog 250 #[.pointer (some ⟨Bx, 0, none⟩)] cameArgs (Kb n0 Bx) (fun ys => vals ys = l.reverse) (fun _ => True) n w := fun lp J Jx W hW _ _ hY h0 =>
  Back1_in F fn0 hf hro hn lp Bx n0 n c A l hreach J Jx hY W ((hW.cell (p := ⟨Bx, 0, none⟩) (World.block_lt_of_cell? w _ hBx)).trans hBx) (hl.below hW) hsz h0

theorem hi_bd6 (l : List Int) (h : By l) (hk : l.length ≤ 6) : 0 ≤ hi l ∧ hi l < 281474976710656 := by
  have := hi_take_bd l h l.length hk
  rwa [List.take_length] at this

/-- the number of bytes, the lowest one first -/
def lo (l : List Int) : Int := hi l.reverse

theorem specl1ReadLow_any (A : Option Addr) (n c : Nat) (l : List Int) (w : World) (h : Bs w A n l) (hn : n ≤ 7) :
    Calls Tryz.prog 156 #[.slice A n c] w fun e w' => e = .returned (.int .i64 (lo l)) ∧ Below w.heap.size w w' := by
  go_enter Tryz.func156, Tryz.ntmps156
  go_wp2_with fail
  refine (l1Back_any _ _ _ _ _ h (by omega)).mono ?_
  rintro e w1 ⟨⟨A1, c1, rfl, how⟩, hb⟩
  go_wp2_with fail
  refine (specl1ReadHigh_any _ _ _ _ _ how.bs hn).mono ?_
  rintro e w2 ⟨rfl, rfl⟩
  go_wp2
  go_ret
  exact ⟨rfl, hb⟩

def rlow (l : List Int) : Int := if 1 ≤ l.length ∧ l.length ≤ 7 then lo l else 0

end Go.Proofs.YtabhcolfkkfonaaGreatDoor
