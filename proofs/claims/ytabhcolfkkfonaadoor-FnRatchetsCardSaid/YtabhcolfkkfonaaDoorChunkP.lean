/- A range over slices.Chunk: the hash of the program. -/
import Derived.RangeFuncFrom
import Derived.RangeFuncBox
import Derived.RangeFuncLeaves
import Derived.RangeFuncNested
import Derived.RangeFuncBound
import Derived.RangeFuncCalls
import Derived.Shelf.Abstract
import Derived.OwnWalkIn
import Derived.TacticsInMore
import Derived.LoopNIn
import Derived.LoopIn
import Derived.Test.YtabhcolfkkfonaaDoorBytesP
import Derived.Test.YtabhcolfkkfonaaDoorJoinP
import Derived.Test.YtabhcolfkkfonaaDoorPadP
namespace Go.Proofs.YtabhcolfkkfonaaDoor
open Go.RowKit Go.Shelf

attribute [local go_sem] Oper.semAt_some

/-- what a round is handed: the slice of 64 bytes at a place below q -/
abbrev Piece (q : Nat) := { k : Nat // k < q }
def pieceArgs (b : Nat) {q : Nat} (p : Piece q) : Array Value := #[.slice (some ⟨b, 64 * p.1, none⟩) 64 64]

/-- what lay below n0 lies as it lay, and so do two blocks -/
def Kc (n0 x y : Nat) (A B : World) : Prop := Below n0 A B ∧ B.heap[x]? = A.heap[x]? ∧ B.heap[y]? = A.heap[y]?
theorem Kc.refl (n0 x y : Nat) (A : World) : Kc n0 x y A A := ⟨Below.refl _ _, rfl, rfl⟩
theorem Kc.trans {n0 x y : Nat} {A B C : World} (h : Kc n0 x y A B) (k : Kc n0 x y B C) : Kc n0 x y A C := ⟨h.1.trans k.1, k.2.1.trans h.2.1, k.2.2.trans h.2.2⟩
theorem Kc.drew {n0 x y : Nat} {A B : World} (h : Kc n0 x y A B) : Kc n0 x y A B.drew := ⟨h.1.drew, h.2⟩
theorem Kc.cx {n0 x y : Nat} {A B : World} (h : Kc n0 x y A B) : B.cell? ⟨x, 0, none⟩ = A.cell? ⟨x, 0, none⟩ := World.cell?_of_block (a := ⟨x, 0, none⟩) h.2.1
theorem Kc.cy {n0 x y : Nat} {A B : World} (h : Kc n0 x y A B) : B.cell? ⟨y, 0, none⟩ = A.cell? ⟨y, 0, none⟩ := World.cell?_of_block (a := ⟨y, 0, none⟩) h.2.2

set_option maxRecDepth 100000 in
set_option maxHeartbeats 2000000 in
/-- the closure of slices.Chunk, over a slice of q times 64 bytes at the head of block b, for every body of a loop that keeps what lay below n0 -/
theorem Chunk1_in (F : Fence) (fn0 : Nat) (hf : F.fn 59) (hro : F.round = none) (hn : 1 ≤ fn0) (lp Bs_ Bn n0 b q : Nat) (hq : 64 * q ≤ 2000000000)
    (J Jx : List (Piece q) → World → Prop)
    (hY : ∀ pre x W, J pre W → pre.length < q → YieldAt F (fn0 - 1) Tryd.prog lp (pieceArgs b x) W fun e W' =>
      (e = .returned (.bool true) ∧ J (pre ++ [x]) W' ∧ Kc n0 Bs_ Bn W W') ∨ (e = .returned (.bool false) ∧ Jx (pre ++ [x]) W'))
    (W : World) (hBs : W.cell? ⟨Bs_, 0, none⟩ = some (.slice (some ⟨b, 0, none⟩) (64 * q) (64 * q))) (hBn : W.cell? ⟨Bn, 0, none⟩ = some (.int .i64 64)) (B0 : Nat) (hJ : AbidesFrom B0 J) (h0 : J [] W) :
    CallsIn F fn0 Tryd.prog 59 #[.func (.yield lp) #[] #[], .pointer (some ⟨Bs_, 0, none⟩), .pointer (some ⟨Bn, 0, none⟩)] W fun e W' => (∃ v, e = .returned v) ∧
      ((∃ ys : List (Piece q), ys.map (·.1) = List.range q ∧ J ys W') ∨ (∃ pre, True ∧ Jx pre W')) := by
  refine callsIn_of_wp Tryd.func59 rfl hf ?_ hro
  simp only [Tryd.ntmps59, List.size_toArray, List.length_cons, List.length_nil, Nat.reduceAdd, Nat.reduceSub, Array.replicate_succ, Array.replicate_zero, List.push_toArray, List.append_toArray, List.nil_append, List.cons_append]
  gi_wp2
  gi_loopw [4] (fun i wr => ∃ (k : Nat) (pre : List (Piece q)), k ≤ q ∧ i = .int .i64 (64 * (k : Int)) ∧ pre.length = k ∧ pre.map (·.1) = List.range k ∧ J pre wr ∧ Kc n0 Bs_ Bn W wr)
    (fun i _ => 64 * q - (intOf i).toNat)
  case atStart => exact ⟨0, [], Nat.zero_le _, rfl, rfl, rfl, h0, Kc.refl _ _ _ _⟩
  case round =>
    obtain ⟨k, pre, hk, rfl, hpl, hv, hJs, hbel⟩ := hrel
    have hbs := hbel.cx.trans hBs
    have hbn := hbel.cy.trans hBn
    by_cases hlt : k < q
    · obtain ⟨fn, tmps, assign, body, hy, hR⟩ := hY pre ⟨k, hlt⟩ wr.drew (hJ pre wr wr.drew none hJs ⟨rfl, rfl, rfl, Nat.le_refl _, fun _ _ _ => rfl⟩ (fun r e => by cases e)) (by omega)
      dsimp only [pieceArgs] at hy
      have Hv := Shut.mk hv
      have Hpl := Shut.mk hpl
      clear hv hpl
      have i1 : (64 : Int) * (k : Int) < 64 * (q : Int) := by omega
      have n1 : ((64 : Int) * (k : Int)).toNat = 64 * k := by omega
      have m1 : ¬ (((64 * q - 64 * k : Nat) : Int) < 64) := by omega
      have a1 : 64 * q - 64 * k = 64 * (q - k) := by omega
      have i2 : (64 : Int) * (k : Int) + 64 ≤ 64 * (q : Int) := by omega
      have a2 : 64 * k + 64 - 64 * k = 64 := by omega
      have n2 : ((64 : Int) * (k : Int) + 64).toNat = 64 * k + 64 := by omega
      clear a1
      gi_wp2
      gi_region
      all_goals
        gi_wp2
        refine hR.mono ?_
        rintro e W3 (⟨rfl, hJ3, hk3⟩ | ⟨rfl, hJx3⟩)
        · have hbn3 := hk3.cy.trans (show wr.drew.cell? ⟨Bn, 0, none⟩ = _ from hbn)
          clear hbn hbs
          gi_wp2
          go_roundw
          case rel => exact ⟨k + 1, pre ++ [⟨k, hlt⟩], by omega, by go_num, by rw [List.length_append, Hpl.out]; rfl, by rw [List.map_append, Hv.out, List.range_succ]; rfl, hJ3, (hbel.drew).trans hk3⟩
          case measure => simp [intOf]; omega
        · gi_wp2
          refine bodyPost_ret (results_none rfl _ _ _) rfl ?_
          exact ⟨⟨_, rfl⟩, .inr ⟨_, trivial, hJx3⟩⟩
    · obtain rfl : k = q := by omega
      gi_wp2
      go_end0
      exact ⟨⟨_, rfl⟩, .inl ⟨_, hv, hJs⟩⟩

set_option maxHeartbeats 1000000 in
theorem Chunk_in (F : Fence) (n : Nat) (hf : F.fn 49) (hro : F.round = none) (a : Option Addr) (len cap : Nat) (w : World) :
    CallsIn F n Tryd.prog 49 #[.slice a len cap, .int .i64 64] w fun e w' => e = .returned (.func (.func 59) #[] #[.pointer (some ⟨w.heap.size, 0, none⟩), .pointer (some ⟨w.heap.size + 1, 0, none⟩)]) ∧ w' = (w.alloc (.cells #[.slice a len cap] 22)).alloc (.cells #[.int .i64 64] 3) := by
  refine callsIn_of_wp Tryd.func49 rfl hf ?_ hro
  simp only [Tryd.ntmps49, List.size_toArray, List.length_cons, List.length_nil, Nat.reduceAdd, Nat.reduceSub, Array.replicate_succ, Array.replicate_zero, List.push_toArray, List.append_toArray, List.nil_append, List.cons_append]
  gi_wp2
  go_ret
  exact ⟨rfl, rfl⟩

theorem Chunk_stops (F : Fence) (fn0 : Nat) (hf : F.fn 59) (hro : F.round = none) (hn : 1 ≤ fn0) (X Y n0 b q : Nat) (hq : 64 * q ≤ 2000000000) (w : World)
    (hX : w.cell? ⟨X, 0, none⟩ = some (.slice (some ⟨b, 0, none⟩) (64 * q) (64 * q))) (hY : w.cell? ⟨Y, 0, none⟩ = some (.int .i64 64)) :
    SeqStopsK F fn0 Tryd.prog 59 #[.pointer (some ⟨X, 0, none⟩), .pointer (some ⟨Y, 0, none⟩)] (pieceArgs b) (Kc n0 X Y) (fun ys : List (Piece q) => ys.map (·.1) = List.range q) (fun _ => True) q w := fun lp J Jx W hW hJ _ hYy h0 =>
  Chunk1_in F fn0 hf hro hn lp X Y n0 b q hq J Jx hYy W ((hW.cell (p := ⟨X, 0, none⟩) (World.block_lt_of_cell? w _ hX)).trans hX) ((hW.cell (p := ⟨Y, 0, none⟩) (World.block_lt_of_cell? w _ hY)).trans hY) _ hJ h0

/-- the state behind these pieces -/
def foldB (P : List Int) {q : Nat} (pre : List (Piece q)) : List Int := pre.foldl (fun H p => blockW H ((P.drop (64 * p.1)).take 64)) firstWords
theorem foldB_snoc (P : List Int) {q : Nat} (pre : List (Piece q)) (x : Piece q) : foldB P (pre ++ [x]) = blockW (foldB P pre) ((P.drop (64 * x.1)).take 64) := by simp [foldB]
theorem foldB_len (P : List Int) {q : Nat} (pre : List (Piece q)) : (foldB P pre).length = 8 := by
  have key : ∀ (pre : List (Piece q)) (H : List Int), H.length = 8 → (pre.foldl (fun H p => blockW H ((P.drop (64 * p.1)).take 64)) H).length = 8 := by
    intro pre
    induction pre with
    | nil => exact fun H h => h
    | cons x pre ih => exact fun H _ => ih _ (blockW_len _ _)
  exact key pre _ rfl
theorem foldB_wd (P : List Int) {q : Nat} (pre : List (Piece q)) : Wd (foldB P pre) := by
  have key : ∀ (pre : List (Piece q)) (H : List Int), Wd H → Wd (pre.foldl (fun H p => blockW H ((P.drop (64 * p.1)).take 64)) H) := by
    intro pre
    induction pre with
    | nil => exact fun H h => h
    | cons x pre ih => exact fun H _ => ih _ (blockW_wd _ _)
  exact key pre _ (by unfold Wd; decide)
theorem foldB_all (P : List Int) {q : Nat} (pre : List (Piece q)) (h : pre.map (·.1) = List.range q) : foldB P pre = chainW P q := by
  have h1 : foldB P pre = (pre.map (·.1)).foldl (fun H (k : Nat) => blockW H ((P.drop (64 * k)).take 64)) firstWords := by
    unfold foldB
    rw [List.foldl_map]
  rw [h1, h]
  have key : ∀ k : Nat, (List.range k).foldl (fun H (k : Nat) => blockW H ((P.drop (64 * k)).take 64)) firstWords = chainW P k := by
    intro k
    induction k with
    | zero => rfl
    | succ k ih => rw [List.range_succ, List.foldl_append, ih]; rfl
  exact key q
end Go.Proofs.YtabhcolfkkfonaaDoor
