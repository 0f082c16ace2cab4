import Derived.Test.YtgmbofoneeagiaaDoorBase
import Derived.Test.YtgmbofoneeagiaaDoorHasX
import Derived.Test.YtgmbofoneeagiaaDoorShaX
import Derived.Test.YtgmbofoneeagiaaDoorWordP
import Derived.RangeFuncFrom
import Derived.RangeFuncBox
import Derived.RangeFuncLeaves
import Derived.RangeFuncNested
import Derived.RangeFuncBound
import Derived.RangeFuncCalls
import Derived.Shelf.Abstract
import Derived.OwnWalkIn
import Derived.TacticsInMore
import Derived.LoopNIn
import Derived.LoopIn
import Derived.Test.YtgmbofoneeagiaaDoorJoinP

/-! PadP -/
/- A padded message, of the program. -/
namespace Go.Proofs.YtgmbofoneeagiaaDoor
open Go.RowKit

def padL (n : Nat) : Nat := (n + 72) / 64 * 64
theorem padL_eq (n : Nat) : padL n = n + 9 + padN n := by unfold padL padN; omega

theorem pad_one (l : List Int) (n : Nat) (h : l.length = n) : (laidOver (List.replicate (padL n) 0) 0 l).set n 128 = l ++ [128] ++ List.replicate (padN n + 8) 0 := by
  have e := padL_eq n
  unfold laidOver
  rw [List.take_zero, List.nil_append, Nat.zero_add, List.drop_replicate, h, List.set_append, if_neg (by omega), h, Nat.sub_self, show padL n - n = (padN n + 8) + 1 by omega, List.replicate_succ, List.set_cons_zero, List.append_assoc]
  rfl
theorem pad_all (l : List Int) (n : Nat) (h : l.length = n) (hn : n ≤ 1000000000) :
    laidOver (l ++ [128] ++ List.replicate (padN n + 8) 0) (padL n - 8) (lowOf (8 * (n : Int)) 8).reverse = padW l := by
  have e := padL_eq n
  have hr : (lowOf (8 * (n : Int)) 8).reverse.length = 8 := by rw [List.length_reverse, lowOf_len]
  have h7 : (8 * (n : Int)) / 256 ^ 7 % 256 = 0 := by
    rw [show (256 : Int) ^ 7 = 72057594037927936 by rfl, Int.ediv_eq_zero_of_lt (by omega) (by omega)]; rfl
  unfold laidOver padW
  rw [hr, List.drop_eq_nil_of_le (by simp [h]; omega), List.append_nil, lowOf_succ, h7, List.reverse_append, h]
  rw [List.take_append, List.take_of_length_le (by simp [h]; omega), List.take_replicate]
  rw [show (l ++ [(128 : Int)]).length = n + 1 by simp [h], show min (padL n - 8 - (n + 1)) (padN n + 8) = padN n by omega]
  simp

set_option maxRecDepth 100000 in
set_option maxHeartbeats 1000000 in
theorem padded_any (A : Option Addr) (n c : Nat) (l : List Int) (w : World) (h : Bs w A n l) (hn : n ≤ 1000000000) :
    Calls Tryd.prog 35 #[.slice A n c] w fun e w' => e = .returned (.slice (some ⟨w.heap.size, 0, none⟩) (padW l).length (padW l).length) ∧ Blk w' w.heap.size (padW l) ∧ Below w.heap.size w w' := by
  have Hn := Lib.hid h.len
  have hp : padL n = n + 9 + padN n := padL_eq n
  have hpn := padN_lt n
  have Hlen : Hid ((padW l).length = padL n) := by
    show (padW l).length = padL n
    rw [padW_len, Hn.out]; omega
  have Hone := Lib.hid (pad_one l n Hn.out)
  have Hall := Lib.hid (pad_all l n Hn.out hn)
  have hmk : ∀ W : World, (Instr.makeSlice 22 (.int .i64 (((n : Int) + 1 + 8 + 64 - 1) / 64 * 64)) (.int .i64 (((n : Int) + 1 + 8 + 64 - 1) / 64 * 64))).run Tryd.prog W = .ok (.slice (some ⟨W.heap.size, 0, none⟩) (padL n) (padL n)) (W.alloc (.cells (zeroB (padL n)) 5)) := by
    intro W
    have e : ((n : Int) + 1 + 8 + 64 - 1) / 64 * 64 = (padL n : Int) := by unfold padL; omega
    rw [e]
    exact run_make_bytes (padL n) (by omega) W
  rw [Hlen.out]
  go_enter Tryd.func35, Tryd.ntmps35
  generalize hL : padL n = L at *
  generalize padN n = p at *
  have HL := Lib.hid hL
  have HP := Lib.hid hp
  clear hL hp
  have hLn : n + 9 ≤ L := by have := HP.out; omega
  have Hlo := Lib.hid (laidOver_len (List.replicate L 0) l 0 (by rw [List.length_replicate, Hn.out]; omega))
  go_wp2_with (refine wpList_copyb rfl _ _ rfl _ w.heap.size 0 L L A n c (List.replicate L 0) l rfl rfl (Blk.zeroB w L) (h.alloc _) (by omega) (by rw [List.length_replicate]; omega) w.heap.size w (ab (Below.refl _ _) _) (Nat.le_refl _) ?_; intro w1 k1 b1; have c1 := k1.cell (i := n) (by rw [Hlo.out, List.length_replicate]; omega); have f1 := k1.frozen n)
  have k2 := k1.set_ n 128
  rw [Hone.out] at k2
  have b2 := b1.setCell (p := ⟨w.heap.size, n, none⟩) (Nat.le_refl _) (.int .u8 128)
  clear c1 f1 k1 b1
  generalize w1.setCell ⟨w.heap.size, n, none⟩ (.int .u8 128) = w2 at *
  have hs2 := k2.lt
  have hL8 : (L : Int) - 8 = ((L - 8 : Nat) : Int) := by omega
  have hw1 : IntKind.i64.wrap ((L - 8 : Nat) : Int) = ((L - 8 : Nat) : Int) := IntWalk.i64_in _ (by have := HP.out; omega)
  have hw2 : IntKind.i64.wrap (8 * (n : Int)) = 8 * (n : Int) := IntWalk.i64_in _ (by have := HP.out; omega)
  have hw3 : ((L - 8 : Nat) : Int) ≤ (L : Int) := by omega
  have hw4 : ¬ L = L - 8 := by omega
  have hw5 : L - (L - 8) = 8 := by omega
  have k2d : Blk w2.drew w.heap.size (l ++ [128] ++ List.replicate (p + 8) 0) := k2
  have b2d : Below w.heap.size w w2.drew := b2.drew
  have hs2d : w.heap.size < w2.drew.heap.size := hs2
  have hll : (l ++ [128] ++ List.replicate (p + 8) 0).length = L := by simp [Hn.out]; have := HP.out; omega
  have Hll := Lib.hid hll
  clear hll
  go_region_law (first | (refine step_copyb rfl _ _ rfl _ w.heap.size (L - 8) 8 8 (some ⟨w2.heap.size, 0, none⟩) 8 8 _ _ rfl rfl (k2d.below b3 hs2d) how.bs (by omega) (by rw [Hll.out]; omega) w.heap.size w (b2d.trans (b3.mono (Nat.le_of_lt hs2d))) (Nat.le_refl _) ?_; intro w4 k4 b4) | (go_simp; go_wp2_with (go_at_call 17; refine (spreadHigh_any (8 * (n : Int)) 8 _ (by omega)).mono ?_; rintro e w3 ⟨rfl, how, b3⟩)))
  rw [Hall.out] at k4
  go_wp2
  go_ret
  exact ⟨rfl, k4, b4⟩
end Go.Proofs.YtgmbofoneeagiaaDoor

/-! BytesP -/
/- The bytes of a state, of the program. -/
namespace Go.Proofs.YtgmbofoneeagiaaDoor
open Go.RowKit

theorem spreadHighW_any (n : Int) (m : Nat) (w : World) (hm : m ≤ 4) :
    Calls Tryd.prog 44 #[.int .u32 n, .int .i64 (m : Int)] w fun e w' => e = .returned (.slice (some ⟨w.heap.size, 0, none⟩) m m) ∧ Ow w' w.heap.size (some ⟨w.heap.size, 0, none⟩) m (lowOf n m).reverse ∧ Below w.heap.size w w' := by
  go_enter Tryd.func44, Tryd.ntmps44
  go_wp2_with fail
  refine (spreadLowW_any _ _ _ hm).mono ?_
  rintro e w1 ⟨rfl, hblk, hb⟩
  have how := hblk.own (lowOf_byte n m) (lowOf_len n m)
  go_wp2_with fail
  refine (Reverse_any _ _ _ _ _ _ how (by omega)).mono ?_
  rintro e w2 ⟨rfl, how2, hon⟩
  go_wp2
  go_ret
  exact ⟨rfl, how2, hb.trans (hon.below (fun hn a ha => by have := how.base hn a ha; omega))⟩

set_option maxHeartbeats 1000000 in
theorem bytes_any (H0 H1 H2 H3 H4 H5 H6 H7 : Int) (hwd : Wd [H0, H1, H2, H3, H4, H5, H6, H7]) (w : World) :
    Calls Tryd.prog 37 #[.agg #[.int .u32 H0, .int .u32 H1, .int .u32 H2, .int .u32 H3, .int .u32 H4, .int .u32 H5, .int .u32 H6, .int .u32 H7]] w fun e w' =>
      (∃ A c, e = .returned (.slice A 32 c) ∧ Row w' w.heap.size (.slice A 32 c) (outTo [H0, H1, H2, H3, H4, H5, H6, H7] 8)) ∧ Below w.heap.size w w' := by
  have hmk : ∀ W : World, (Instr.makeSlice 22 (.int .i64 0) (.int .i64 32)).run Tryd.prog W = .ok (.slice (some ⟨W.heap.size, 0, none⟩) 0 32) (W.alloc (.cells (zeroB 32) 5)) := fun _ => by kernel_rfl
  go_enter Tryd.func37, Tryd.ntmps37
  go_wp2
  clear hmk
  have r0 := Row.room (w.alloc (.cells #[.int .u32 H0, .int .u32 H1, .int .u32 H2, .int .u32 H3, .int .u32 H4, .int .u32 H5, .int .u32 H6, .int .u32 H7] 46)) 32 (by omega) _ rfl
  rw [World.size_alloc] at r0
  go_loopw [3, 8] (fun v i wq => ∃ m : Nat, m ≤ 8 ∧ i = .int .i64 (m : Int) ∧ Row wq (w.heap.size + 1) v (outTo [H0, H1, H2, H3, H4, H5, H6, H7] m) ∧ Below w.heap.size w wq ∧ w.heap.size + 1 ≤ wq.heap.size) (fun _ i _ => 8 - (intOf i).toNat)
  case atStart => exact ⟨0, by omega, rfl, r0, ab (ab (Below.refl _ _) _) _, by simp⟩
  case round =>
    clear r0
    obtain ⟨m, hm, rfl, hrow, hbel, hsz⟩ := hrel
    have hol := outTo_len [H0, H1, H2, H3, H4, H5, H6, H7] m
    obtain ⟨A5, c5, rfl, _⟩ := hrow.ow hol
    by_cases hlm : m < 8
    · have hix : (#[Value.int .u32 H0, .int .u32 H1, .int .u32 H2, .int .u32 H3, .int .u32 H4, .int .u32 H5, .int .u32 H6, .int .u32 H7] : Array Value)[m]? = some (.int .u32 ([H0, H1, H2, H3, H4, H5, H6, H7].getD m 0)) := by
        have e : m = 0 ∨ m = 1 ∨ m = 2 ∨ m = 3 ∨ m = 4 ∨ m = 5 ∨ m = 6 ∨ m = 7 := by omega
        rcases e with rfl | rfl | rfl | rfl | rfl | rfl | rfl | rfl <;> rfl
      have hi := idx8 _ m _ hix hlm
      have hsucc := Shut.mk (outTo_succ [H0, H1, H2, H3, H4, H5, H6, H7] m)
      have r0 := hwd.get m
      have HL := Shut.mk hol
      generalize [H0, H1, H2, H3, H4, H5, H6, H7].getD m 0 = HM at *
      obtain ⟨r00, r01⟩ := r0
      have hmi : (m : Int) < 8 := by omega
      clear hix hol
      go_wp2_with fail
      refine (spreadHighW_any HM 4 wr (by omega)).mono ?_
      rintro e w2 ⟨rfl, ow2, b2⟩
      have s2 := b2.size
      have row2 := hrow.keep (w' := w2) (fun g _ h2 => b2.block g h2)
      clear hi
      go_wp2_with (at_builtin; refine wpList_row_join rfl _ _ rfl _ (w.heap.size + 1) (.slice A5 (4 * m) c5) _ _ rfl row2 (by omega) (some ⟨wr.heap.size, 0, none⟩) 4 4 rfl ow2.bs (fun e => by cases e) (by rw [HL.out]; omega) ?_; intro v4 w4 hr4 hb4 hs4)
      refine ⟨⟨m + 1, by omega, by go_num, by rw [hsucc.out]; exact hr4, (ac hbel b2).trans (hb4.mono (by omega)), by omega⟩, by simp [intOf]; omega⟩
    · obtain rfl : m = 8 := by omega
      go_wp2
      go_ret
      exact ⟨⟨A5, c5, rfl, hrow.mono (by omega)⟩, hbel⟩
end Go.Proofs.YtgmbofoneeagiaaDoor

/-! ChunkP -/
/- A range over slices.Chunk: the hash of the program. -/
namespace Go.Proofs.YtgmbofoneeagiaaDoor
open Go.RowKit Go.Shelf

attribute [local go_sem] Oper.semAt_some

/-- what a round is handed: the slice of 64 bytes at a place below q -/
abbrev Piece (q : Nat) := { k : Nat // k < q }
def pieceArgs (b : Nat) {q : Nat} (p : Piece q) : Array Value := #[.slice (some ⟨b, 64 * p.1, none⟩) 64 64]

/-- what lay below n0 lies as it lay, and so do two blocks -/
def Kc (n0 x y : Nat) (A B : World) : Prop := Below n0 A B ∧ B.heap[x]? = A.heap[x]? ∧ B.heap[y]? = A.heap[y]?
theorem Kc.refl (n0 x y : Nat) (A : World) : Kc n0 x y A A := ⟨Below.refl _ _, rfl, rfl⟩
theorem Kc.trans {n0 x y : Nat} {A B C : World} (h : Kc n0 x y A B) (k : Kc n0 x y B C) : Kc n0 x y A C := ⟨h.1.trans k.1, k.2.1.trans h.2.1, k.2.2.trans h.2.2⟩
theorem Kc.drew {n0 x y : Nat} {A B : World} (h : Kc n0 x y A B) : Kc n0 x y A B.drew := ⟨h.1.drew, h.2⟩
theorem Kc.cx {n0 x y : Nat} {A B : World} (h : Kc n0 x y A B) : B.cell? ⟨x, 0, none⟩ = A.cell? ⟨x, 0, none⟩ := World.cell?_of_block (a := ⟨x, 0, none⟩) h.2.1
theorem Kc.cy {n0 x y : Nat} {A B : World} (h : Kc n0 x y A B) : B.cell? ⟨y, 0, none⟩ = A.cell? ⟨y, 0, none⟩ := World.cell?_of_block (a := ⟨y, 0, none⟩) h.2.2

set_option maxRecDepth 100000 in
set_option maxHeartbeats 2000000 in
/-- the closure of slices.Chunk, over a slice of q times 64 bytes at the head of block b, for every body of a loop that keeps what lay below n0 -/
theorem Chunk1_in (F : Fence) (fn0 : Nat) (hf : F.fn 41) (hro : F.round = none) (hn : 1 ≤ fn0) (lp Bs_ Bn n0 b q : Nat) (hq : 64 * q ≤ 2000000000)
    (J Jx : List (Piece q) → World → Prop)
    (hY : ∀ pre x W, J pre W → pre.length < q → YieldAt F (fn0 - 1) Tryd.prog lp (pieceArgs b x) W fun e W' =>
      (e = .returned (.bool true) ∧ J (pre ++ [x]) W' ∧ Kc n0 Bs_ Bn W W') ∨ (e = .returned (.bool false) ∧ Jx (pre ++ [x]) W'))
    (W : World) (hBs : W.cell? ⟨Bs_, 0, none⟩ = some (.slice (some ⟨b, 0, none⟩) (64 * q) (64 * q))) (hBn : W.cell? ⟨Bn, 0, none⟩ = some (.int .i64 64)) (B0 : Nat) (hJ : AbidesFrom B0 J) (h0 : J [] W) :
    CallsIn F fn0 Tryd.prog 41 #[.func (.yield lp) #[] #[], .pointer (some ⟨Bs_, 0, none⟩), .pointer (some ⟨Bn, 0, none⟩)] W fun e W' => (∃ v, e = .returned v) ∧
      ((∃ ys : List (Piece q), ys.map (·.1) = List.range q ∧ J ys W') ∨ (∃ pre, True ∧ Jx pre W')) := by
  refine callsIn_of_wp Tryd.func41 rfl hf ?_ hro
  simp only [Tryd.ntmps41, List.size_toArray, List.length_cons, List.length_nil, Nat.reduceAdd, Nat.reduceSub, Array.replicate_succ, Array.replicate_zero, List.push_toArray, List.append_toArray, List.nil_append, List.cons_append]
  gi_wp2
  gi_loopw [4] (fun i wr => ∃ (k : Nat) (pre : List (Piece q)), k ≤ q ∧ i = .int .i64 (64 * (k : Int)) ∧ pre.length = k ∧ pre.map (·.1) = List.range k ∧ J pre wr ∧ Kc n0 Bs_ Bn W wr)
    (fun i _ => 64 * q - (intOf i).toNat)
  case atStart => exact ⟨0, [], Nat.zero_le _, rfl, rfl, rfl, h0, Kc.refl _ _ _ _⟩
  case round =>
    obtain ⟨k, pre, hk, rfl, hpl, hv, hJs, hbel⟩ := hrel
    have hbs := hbel.cx.trans hBs
    have hbn := hbel.cy.trans hBn
    by_cases hlt : k < q
    · obtain ⟨fn, tmps, assign, body, hy, hR⟩ := hY pre ⟨k, hlt⟩ wr.drew (hJ pre wr wr.drew none hJs ⟨rfl, rfl, rfl, Nat.le_refl _, fun _ _ _ => rfl⟩ (fun r e => by cases e)) (by omega)
      dsimp only [pieceArgs] at hy
      have Hv := Shut.mk hv
      have Hpl := Shut.mk hpl
      clear hv hpl
      have i1 : (64 : Int) * (k : Int) < 64 * (q : Int) := by omega
      have n1 : ((64 : Int) * (k : Int)).toNat = 64 * k := by omega
      have m1 : ¬ (((64 * q - 64 * k : Nat) : Int) < 64) := by omega
      have a1 : 64 * q - 64 * k = 64 * (q - k) := by omega
      have i2 : (64 : Int) * (k : Int) + 64 ≤ 64 * (q : Int) := by omega
      have a2 : 64 * k + 64 - 64 * k = 64 := by omega
      have n2 : ((64 : Int) * (k : Int) + 64).toNat = 64 * k + 64 := by omega
      clear a1
      gi_wp2
      gi_region
      all_goals
        gi_wp2
        refine hR.mono ?_
        rintro e W3 (⟨rfl, hJ3, hk3⟩ | ⟨rfl, hJx3⟩)
        · have hbn3 := hk3.cy.trans (show wr.drew.cell? ⟨Bn, 0, none⟩ = _ from hbn)
          clear hbn hbs
          gi_wp2
          go_roundw
          case rel => exact ⟨k + 1, pre ++ [⟨k, hlt⟩], by omega, by go_num, by rw [List.length_append, Hpl.out]; rfl, by rw [List.map_append, Hv.out, List.range_succ]; rfl, hJ3, (hbel.drew).trans hk3⟩
          case measure => simp [intOf]; omega
        · gi_wp2
          refine bodyPost_ret (results_none rfl _ _ _) rfl ?_
          exact ⟨⟨_, rfl⟩, .inr ⟨_, trivial, hJx3⟩⟩
    · obtain rfl : k = q := by omega
      gi_wp2
      go_end0
      exact ⟨⟨_, rfl⟩, .inl ⟨_, hv, hJs⟩⟩

set_option maxHeartbeats 1000000 in
theorem Chunk_in (F : Fence) (n : Nat) (hf : F.fn 34) (hro : F.round = none) (a : Option Addr) (len cap : Nat) (w : World) :
    CallsIn F n Tryd.prog 34 #[.slice a len cap, .int .i64 64] w fun e w' => e = .returned (.func (.func 41) #[] #[.pointer (some ⟨w.heap.size, 0, none⟩), .pointer (some ⟨w.heap.size + 1, 0, none⟩)]) ∧ w' = (w.alloc (.cells #[.slice a len cap] 22)).alloc (.cells #[.int .i64 64] 3) := by
  refine callsIn_of_wp Tryd.func34 rfl hf ?_ hro
  simp only [Tryd.ntmps34, List.size_toArray, List.length_cons, List.length_nil, Nat.reduceAdd, Nat.reduceSub, Array.replicate_succ, Array.replicate_zero, List.push_toArray, List.append_toArray, List.nil_append, List.cons_append]
  gi_wp2
  go_ret
  exact ⟨rfl, rfl⟩

theorem Chunk_stops (F : Fence) (fn0 : Nat) (hf : F.fn 41) (hro : F.round = none) (hn : 1 ≤ fn0) (X Y n0 b q : Nat) (hq : 64 * q ≤ 2000000000) (w : World)
    (hX : w.cell? ⟨X, 0, none⟩ = some (.slice (some ⟨b, 0, none⟩) (64 * q) (64 * q))) (hY : w.cell? ⟨Y, 0, none⟩ = some (.int .i64 64)) :
    SeqStopsK F fn0 Tryd.prog 41 #[.pointer (some ⟨X, 0, none⟩), .pointer (some ⟨Y, 0, none⟩)] (pieceArgs b) (Kc n0 X Y) (fun ys : List (Piece q) => ys.map (·.1) = List.range q) (fun _ => True) q w := fun lp J Jx W hW hJ _ hYy h0 =>
  Chunk1_in F fn0 hf hro hn lp X Y n0 b q hq J Jx hYy W ((hW.cell (p := ⟨X, 0, none⟩) (World.block_lt_of_cell? w _ hX)).trans hX) ((hW.cell (p := ⟨Y, 0, none⟩) (World.block_lt_of_cell? w _ hY)).trans hY) _ hJ h0

/-- the state behind these pieces -/
def foldB (P : List Int) {q : Nat} (pre : List (Piece q)) : List Int := pre.foldl (fun H p => blockW H ((P.drop (64 * p.1)).take 64)) firstWords
theorem foldB_snoc (P : List Int) {q : Nat} (pre : List (Piece q)) (x : Piece q) : foldB P (pre ++ [x]) = blockW (foldB P pre) ((P.drop (64 * x.1)).take 64) := by simp [foldB]
theorem foldB_len (P : List Int) {q : Nat} (pre : List (Piece q)) : (foldB P pre).length = 8 := by
  have key : ∀ (pre : List (Piece q)) (H : List Int), H.length = 8 → (pre.foldl (fun H p => blockW H ((P.drop (64 * p.1)).take 64)) H).length = 8 := by
    intro pre
    induction pre with
    | nil => exact fun H h => h
    | cons x pre ih => exact fun H _ => ih _ (blockW_len _ _)
  exact key pre _ rfl
theorem foldB_wd (P : List Int) {q : Nat} (pre : List (Piece q)) : Wd (foldB P pre) := by
  have key : ∀ (pre : List (Piece q)) (H : List Int), Wd H → Wd (pre.foldl (fun H p => blockW H ((P.drop (64 * p.1)).take 64)) H) := by
    intro pre
    induction pre with
    | nil => exact fun H h => h
    | cons x pre ih => exact fun H _ => ih _ (blockW_wd _ _)
  exact key pre _ (by unfold Wd; decide)
theorem foldB_all (P : List Int) {q : Nat} (pre : List (Piece q)) (h : pre.map (·.1) = List.range q) : foldB P pre = chainW P q := by
  have h1 : foldB P pre = (pre.map (·.1)).foldl (fun H (k : Nat) => blockW H ((P.drop (64 * k)).take 64)) firstWords := by
    unfold foldB
    rw [List.foldl_map]
  rw [h1, h]
  have key : ∀ k : Nat, (List.range k).foldl (fun H (k : Nat) => blockW H ((P.drop (64 * k)).take 64)) firstWords = chainW P k := by
    intro k
    induction k with
    | zero => rfl
    | succ k ih => rw [List.range_succ, List.foldl_append, ih]; rfl
  exact key q
end Go.Proofs.YtgmbofoneeagiaaDoor

/-! HashP -/
/- The hash of the program: a range over slices.Chunk. -/
namespace Go.Proofs.YtgmbofoneeagiaaDoor
open Go.RowKit Go.Shelf

attribute [local go_sem] Oper.semAt_some

/-- 32 bytes of the call's own, the hash of l -/
def HashOut (l : List Int) (w : World) (e : Ending) (w' : World) : Prop := (∃ A c, e = .returned (.slice A 32 c) ∧ Row w' w.heap.size (.slice A 32 c) (hashW l)) ∧ Below w.heap.size w w'

theorem keepsOthers_below {W W' : World} (h : Below W.heap.size W W') : KeepsOthers W W' := ⟨h.size, fun k _ hk _ => (h.block k (Array.getElem?_eq_some_iff.1 hk).1).trans hk⟩
theorem keepsOthers8 (w : World) (g : Nat) (v0 v1 v2 v3 v4 v5 v6 v7 : Value) :
    KeepsOthers w ((((((((w.setCell ⟨g, 0, none⟩ v0).setCell ⟨g, 1, none⟩ v1).setCell ⟨g, 2, none⟩ v2).setCell ⟨g, 3, none⟩ v3).setCell ⟨g, 4, none⟩ v4).setCell ⟨g, 5, none⟩ v5).setCell ⟨g, 6, none⟩ v6).setCell ⟨g, 7, none⟩ v7) :=
  (((((((KeepsOthers.setCell _ _ _).trans (KeepsOthers.setCell _ _ _)).trans (KeepsOthers.setCell _ _ _)).trans (KeepsOthers.setCell _ _ _)).trans (KeepsOthers.setCell _ _ _)).trans (KeepsOthers.setCell _ _ _)).trans (KeepsOthers.setCell _ _ _)).trans (KeepsOthers.setCell _ _ _)
theorem heap8 (w : World) (g k : Nat) (hk : k ≠ g) (v0 v1 v2 v3 v4 v5 v6 v7 : Value) :
    ((((((((w.setCell ⟨g, 0, none⟩ v0).setCell ⟨g, 1, none⟩ v1).setCell ⟨g, 2, none⟩ v2).setCell ⟨g, 3, none⟩ v3).setCell ⟨g, 4, none⟩ v4).setCell ⟨g, 5, none⟩ v5).setCell ⟨g, 6, none⟩ v6).setCell ⟨g, 7, none⟩ v7).heap[k]? = w.heap[k]? := by
  have e : ∀ (W : World) (i : Nat) (v : Value), (W.setCell ⟨g, i, none⟩ v).heap[k]? = W.heap[k]? := fun W i v => Below.heap_setCell W ⟨g, i, none⟩ v k hk
  rw [e, e, e, e, e, e, e, e]
/-- a block of cells lies still where no cells are turned -/
theorem block_kept {W W' : World} {row : Option Nat} {b : Nat} {cs : Array Value} {t : TypeId} {f : Nat × Nat} (h : W.heap[b]? = some (.cells cs t f)) (hg : W.grownBy W' row) (hr : ∀ r, row = some r → ∃ o : Obj, W.heap[r]? = some o ∧ o.isCells = false) : W'.heap[b]? = W.heap[b]? :=
  hg.block b (Array.getElem?_eq_some_iff.1 h).1 (fun e => by
    obtain ⟨o, ho, hc⟩ := hr b e.symm
    rw [h] at ho
    injection ho with ho
    subst ho
    cases hc)
/-- eight words at block g of cells -/
structure St (w : World) (g : Nat) (l : List Int) : Prop where
  blk : ∃ cs t f, w.heap[g]? = some (.cells cs t f)
  kow : KOw .u32 w g l

theorem St.below {w w' : World} {B g : Nat} {l : List Int} (h : St w g l) (hb : Below B w w') (hl : g < B) : St w' g l := by
  obtain ⟨cs, t, f, e⟩ := h.blk
  exact ⟨⟨cs, t, f, (hb.block g hl).trans e⟩, h.kow.below hb hl⟩
theorem St.kept {W W' : World} {row : Option Nat} {g : Nat} {l : List Int} (h : St W g l) (hg : W.grownBy W' row) (hr : ∀ r, row = some r → ∃ o : Obj, W.heap[r]? = some o ∧ o.isCells = false) : St W' g l := by
  obtain ⟨cs, t, f, e⟩ := h.blk
  have k := block_kept e hg hr
  exact ⟨⟨cs, t, f, k.trans e⟩, h.kow.keep k hg.size⟩
theorem blk8 {w : World} {g : Nat} {cs : Array Value} {t : TypeId} {f : Nat × Nat} (h : w.heap[g]? = some (.cells cs t f)) (v0 v1 v2 v3 v4 v5 v6 v7 : Value) :
    ∃ cs t f, ((((((((w.setCell ⟨g, 0, none⟩ v0).setCell ⟨g, 1, none⟩ v1).setCell ⟨g, 2, none⟩ v2).setCell ⟨g, 3, none⟩ v3).setCell ⟨g, 4, none⟩ v4).setCell ⟨g, 5, none⟩ v5).setCell ⟨g, 6, none⟩ v6).setCell ⟨g, 7, none⟩ v7).heap[g]? = some (.cells cs t f) := by
  have e : ∀ (W : World) (i : Nat) (v : Value), (∃ cs t f, W.heap[g]? = some (.cells cs t f)) → ∃ cs t f, (W.setCell ⟨g, i, none⟩ v).heap[g]? = some (.cells cs t f) := fun W i v ⟨cs, t, f, h⟩ => by
    simp [World.setCell, Array.getElem?_modify, h]
  exact e _ _ _ (e _ _ _ (e _ _ _ (e _ _ _ (e _ _ _ (e _ _ _ (e _ _ _ (e _ _ _ ⟨cs, t, f, h⟩)))))))
set_option maxRecDepth 100000 in
set_option maxHeartbeats 4000000 in
theorem hashParts_in (F : Fence) (n : Nat) (hall : ∀ f, F.fn f) (hlift : ∀ (k : Nat) (f : FuncId) (args : Array Value) (W : World) (R : Ending → World → Prop), Calls Tryd.prog f args W R → CallsIn F k Tryd.prog f args W R) (hro : F.round = none) (hn : 3 ≤ n)
    (g m c : Nat) (ps : List Pt) (w : World) (hT : Tabs w) (h : Pts w g ps) (hm : ps.length = m) (hm2 : m ≤ 1000) (hs : sumN ps ≤ 100000000) :
    CallsIn F n Tryd.prog 28 #[.slice (some ⟨g, 0, none⟩) m c] w (HashOut (catL ps) w) := by
  have h1 : 1 ≤ n := by omega
  have Hc := Shut.mk (fun W (hW : Pts W g ps) => concat_any g m c ps W hW hm hm2 (by omega))
  obtain ⟨P, hP⟩ : ∃ P, P = padW (catL ps) := ⟨_, rfl⟩
  obtain ⟨N, hN⟩ : ∃ N, N = sumN ps := ⟨_, rfl⟩
  have hcl : (catL ps).length = N := by
    have := catL_len h ps.length (Nat.le_refl _)
    rw [List.take_length] at this
    rw [this, hN]
  obtain ⟨q, hq⟩ : ∃ q, P.length = 64 * q := ⟨P.length / 64, by have := padW_whole (catL ps); rw [← hP] at this; omega⟩
  have hq2 : 64 * q ≤ 2000000000 := by
    have e1 := padW_len (catL ps)
    have e2 := padN_lt (catL ps).length
    rw [← hP] at e1
    rw [← hq, e1]; omega
  have Hp := Shut.mk (fun (A : Option Addr) (d : Nat) (W : World) (hW : Bs W A N (catL ps)) => by
    have := padded_any A N d (catL ps) W hW (by omega)
    rw [← hP, hq] at this
    exact this)
  have Hh : Shut (hashW (catL ps) = outTo (chainW P q) 8) := ⟨by unfold hashW; rw [← hP, hq, Nat.mul_div_cancel_left q (by omega : 0 < 64)]⟩
  have Hby : Shut (By P) := ⟨by rw [hP]; exact padW_byte _ (by
    intro x hx
    simp only [catL, List.mem_flatMap] at hx
    obtain ⟨p, hp, hx⟩ := hx
    obtain ⟨i, hi, e⟩ := List.mem_iff_getElem.1 hp
    exact (h.bs i p (by rw [List.getElem?_eq_getElem hi, e])).byte x hx)⟩
  have Hq := Shut.mk hq
  rw [← hN] at Hc
  have TF := hT.first
  obtain ⟨ft, ff, hft⟩ := TF
  have f0 : ∀ i, w.cell? ⟨0, i, none⟩ = ((firstWords.map (Value.int .u32)).toArray)[i]? := fun i => cell_of_row w _ i _ ft ff hft
  have c0 : w.cell? ⟨0, 0, none⟩ = some (.int .u32 1779033703) := f0 0
  have c1 : w.cell? ⟨0, 1, none⟩ = some (.int .u32 3144134277) := f0 1
  have c2 : w.cell? ⟨0, 2, none⟩ = some (.int .u32 1013904242) := f0 2
  have c3 : w.cell? ⟨0, 3, none⟩ = some (.int .u32 2773480762) := f0 3
  have c4 : w.cell? ⟨0, 4, none⟩ = some (.int .u32 1359893119) := f0 4
  have c5 : w.cell? ⟨0, 5, none⟩ = some (.int .u32 2600822924) := f0 5
  have c6 : w.cell? ⟨0, 6, none⟩ = some (.int .u32 528734635) := f0 6
  have c7 : w.cell? ⟨0, 7, none⟩ = some (.int .u32 1541459225) := f0 7
  have Hcl := Shut.mk hcl
  clear hq hP hN hcl f0 hft
  have hPs := h.below (ab (Below.refl _ w) (.cells #[.int .u32 1779033703, .int .u32 3144134277, .int .u32 1013904242, .int .u32 2773480762, .int .u32 1359893119, .int .u32 2600822924, .int .u32 528734635, .int .u32 1541459225] 46))
  refine callsIn_of_wp_marks Tryd.func28 rfl (hall _) ?_ hro
  simp only [Tryd.ntmps28, List.size_toArray, List.length_cons, List.length_nil, Nat.reduceAdd, Nat.reduceSub, Array.replicate_succ, Array.replicate_zero, List.push_toArray, List.append_toArray, List.nil_append, List.cons_append]
  gi_wp2_with (first | (gi_at_call 18; refine (hlift _ _ _ _ _ (Hc.out _ hPs)).mono ?_; rintro e w2 ⟨⟨A2, d2, rfl, r2⟩, b2⟩) | (gi_at_call 35; refine (hlift _ _ _ _ _ (Hp.out A2 d2 w2 (r2.ow' Hcl.out).bs)).mono ?_; rintro e w3 ⟨rfl, k3, b3⟩) | (gi_at_call 34; refine (Chunk_in F (n - 1) (hall _) hro _ _ _ _).mono ?_; rintro e w' ⟨rfl, rfl⟩))
  clear c0 c1 c2 c3 c4 c5 c6 c7 hPs
  have B0 := ab (Below.refl _ w) (.cells #[.int .u32 1779033703, .int .u32 3144134277, .int .u32 1013904242, .int .u32 2773480762, .int .u32 1359893119, .int .u32 2600822924, .int .u32 528734635, .int .u32 1541459225] 46)
  have S0 : St (w.alloc (.cells #[.int .u32 1779033703, .int .u32 3144134277, .int .u32 1013904242, .int .u32 2773480762, .int .u32 1359893119, .int .u32 2600822924, .int .u32 528734635, .int .u32 1541459225] 46)) w.heap.size firstWords := ⟨⟨_, _, _, heap_alloc_new w _⟩, kow_new w .u32 _ firstWords _ rfl⟩
  have s2 := b2.size
  rw [World.size_alloc] at s2
  have s3 := k3.lt
  have B2 := ac B0 b2
  have B3 := ac B2 b3
  have S3 : St w3 w.heap.size firstWords := (S0.below b2 (by simp)).below b3 (by omega)
  have hb1 := one_new w3 (.slice (some ⟨w2.heap.size, 0, none⟩) (64 * q) (64 * q)) 22
  have hb2 := one_new (w3.alloc (.cells #[.slice (some ⟨w2.heap.size, 0, none⟩) (64 * q) (64 * q)] 22)) (.int .i64 64) 3
  rw [World.size_alloc] at hb2
  have hX : ((w3.alloc (.cells #[.slice (some ⟨w2.heap.size, 0, none⟩) (64 * q) (64 * q)] 22)).alloc (.cells #[.int .i64 64] 3)).cell? ⟨w3.heap.size, 0, none⟩ = some (.slice (some ⟨w2.heap.size, 0, none⟩) (64 * q) (64 * q)) := cell_past _ hb1.1
  have hY := hb2.1
  have W4b : Below w3.heap.size w3 ((w3.alloc (.cells #[.slice (some ⟨w2.heap.size, 0, none⟩) (64 * q) (64 * q)] 22)).alloc (.cells #[.int .i64 64] 3)) := ab (ab (Below.refl _ _) _) _
  have z4 : ((w3.alloc (.cells #[.slice (some ⟨w2.heap.size, 0, none⟩) (64 * q) (64 * q)] 22)).alloc (.cells #[.int .i64 64] 3)).heap.size = w3.heap.size + 2 := by simp
  have B4 := B3.trans (W4b.mono (by omega))
  have S4 := S3.below W4b (by omega)
  have k4 := k3.below W4b (by omega)
  clear B0 S0 hb1 hb2 S3 k3 B3 b2 b3 r2 B2
  generalize (w3.alloc (.cells #[.slice (some ⟨w2.heap.size, 0, none⟩) (64 * q) (64 * q)] 22)).alloc (.cells #[.int .i64 64] 3) = w4 at *
  refine wpIn_rangeFunc_ownF hro h1 (gf := 41) (lb := #[.pointer (some ⟨w3.heap.size, 0, none⟩), .pointer (some ⟨w3.heap.size + 1, 0, none⟩)]) rfl (hall _) (enters_of Tryd.func41 (by kernel_rfl) rfl)
    (Chunk_stops F (n - 1) (hall _) hro (by omega) w3.heap.size (w3.heap.size + 1) w.heap.size w2.heap.size q hq2 w4 hX hY)
    (fun {A B C} => Kc.trans) (fun W2 l2 o o' hle ho h1 h2 => ⟨belowK_b (w := w) (Nat.le_refl _) W2 l2 o o' (by omega) ho h1 h2, putObj_other W2 l2 o' _ (by omega), putObj_other W2 l2 o' _ (by omega)⟩) (Below.refl _ _) (fun _ => rfl)
    (fun pre W => (St W w.heap.size (foldB P pre) ∧ Blk W w2.heap.size P ∧ w3.heap.size + 2 ≤ W.heap.size) ∧ Below w.heap.size w W)
    (fun _ _ _ => False)
    (OwnFrom.and (Own.from (fun s A B row hs hg hr => ⟨hs.1.kept hg hr, (block_kept hs.2.1 hg hr).trans hs.2.1, Nat.le_trans hs.2.2 hg.size⟩) _) (ownFrom_below (Nat.le_refl _) (by omega)))
    (fun _ _ _ _ _ hs _ _ => hs)
    ⟨⟨S4, k4, by omega⟩, B4⟩
    (fun x => { tmps := #[.slice (some ⟨g, 0, none⟩) m c, undef, .slice none 0 0, .pointer (some ⟨w.heap.size, 0, none⟩), .slice (some ⟨w2.heap.size, 64 * x.1, none⟩) 64 64, .agg #[.int .u32 1779033703, .int .u32 3144134277, .int .u32 1013904242, .int .u32 2773480762, .int .u32 1359893119, .int .u32 2600822924, .int .u32 528734635, .int .u32 1541459225], .slice (some ⟨g, 0, none⟩) m c, .slice A2 N d2, .slice (some ⟨w2.heap.size, 0, none⟩) (64 * q) (64 * q), .func (.func 41) #[] #[.pointer (some ⟨w3.heap.size, 0, none⟩), .pointer (some ⟨w3.heap.size + 1, 0, none⟩)], .slice (some ⟨w2.heap.size, 64 * x.1, none⟩) 64 64, undef, undef, undef, undef, undef], defers := [] }) ?assign ?body ?done ?stop
  case assign =>
    intro lp x W K hK
    simp only [pieceArgs]
    gi_wp2
    exact hK
  case body =>
    rintro lp pre x W ⟨⟨hS, hP, hz⟩, hB⟩ hpre
    obtain ⟨xk, hxk⟩ := x
    have hwd := foldB_wd P pre
    have hln := foldB_len P pre
    have hsn := foldB_snoc P pre ⟨xk, hxk⟩
    have hbsx := (hP.bsn Hby.out Hq.out).part_ (64 * xk) 64 (by omega)
    rw [Nat.zero_add] at hbsx
    have hTW := hT.keep hB
    generalize foldB P pre = HH at *
    obtain ⟨H0, H1, H2, H3, H4, H5, H6, H7, rfl⟩ := list8x _ hln
    have hl8 := blockW_len8 [H0, H1, H2, H3, H4, H5, H6, H7] ((P.drop (64 * xk)).take 64)
    have G := block_any H0 H1 H2 H3 H4 H5 H6 H7 (some ⟨w2.heap.size, 64 * xk, none⟩) 64 ((P.drop (64 * xk)).take 64) W hTW hwd hbsx (Nat.le_refl _)
    dsimp only at hsn
    obtain ⟨U0, U1, U2, U3, U4, U5, U6, U7, hU⟩ := list8x _ hl8
    rw [hU] at G hsn
    have HSn := Shut.mk hsn
    have kS := hS.kow
    obtain ⟨c0, c1, c2, c3, c4, c5, c6, c7, _⟩ := kS.full8
    have G2 := Shut.mk (G.mono (fun e w' (hh : _ ∧ _) => (⟨hh.1, hh.2, (kS.below hh.2 kS.lt).full8⟩ : _ ∧ _ ∧ _)))
    clear G hU hl8 hsn hln hwd hbsx
    have hd1 : 1 ≤ n - 1 - 1 := by omega
    gi_wp2_with (gi_at_call 36; refine (CallsIn.inRound lp (hlift _ _ _ _ _ G2.out)).mono ?_; rintro e w5 ⟨rfl, b5, x0, x1, x2, x3, x4, x5, x6, x7, y0, y1, y2, y3, y4, y5, y6, y7⟩)
    have hK5 := kS.below b5 kS.lt
    have hP5 : Blk w5 w2.heap.size P := hP.below b5 hP.lt
    have hz5 := b5.size
    obtain ⟨cs, ct, cf, hcs⟩ := hS.blk
    refine ⟨(keepsOthers_below b5).trans (keepsOthers8 _ _ _ _ _ _ _ _ _ _), ⟨below8 (b5.mono hB.size) (Nat.le_refl _) _ _ _ _ _ _ _ _, (heap8 _ _ _ (by omega) _ _ _ _ _ _ _ _).trans (b5.block _ (by omega)), (heap8 _ _ _ (by omega) _ _ _ _ _ _ _ _).trans (b5.block _ (by omega))⟩, ⟨by rw [HSn.out]; exact ⟨blk8 ((b5.block _ kS.lt).trans hcs) _ _ _ _ _ _ _ _, set8 rfl hK5 _ _ _ _ _ _ _ _⟩, (heap8 _ _ _ (by omega) _ _ _ _ _ _ _ _).trans hP5, by simp; omega⟩, below8 (ac hB b5) (Nat.le_refl _) _ _ _ _ _ _ _ _⟩
  case done =>
    rintro D ys W hD hys ⟨⟨hS, _, hz⟩, hB⟩ hK
    rw [foldB_all P ys hys] at hS
    have hwd := chainW_wd P q
    have hln := chainW_len P q
    have hHo := Hh.out
    generalize chainW P q = HH at *
    obtain ⟨H0, H1, H2, H3, H4, H5, H6, H7, rfl⟩ := list8x _ hln
    obtain ⟨c0, c1, c2, c3, c4, c5, c6, c7, _⟩ := hS.kow.full8
    have hDl : D < W.heap.size := (Array.getElem?_eq_some_iff.1 hK).1
    have HH2 := Shut.mk hHo
    clear hHo hln
    gi_wp2_with (gi_at_call 37; refine (hlift _ _ _ _ _ (bytes_any H0 H1 H2 H3 H4 H5 H6 H7 hwd W)).mono ?_; rintro e w6 ⟨⟨A6, d6, rfl, r6⟩, b6⟩)
    have hK6 := (b6.block D hDl).trans hK
    refine ⟨by simp, .inl ⟨_, _, rfl, run_takeDeferred hK6, ?_⟩⟩
    refine ⟨_, results_tmp rfl _ _ _, ⟨A6, d6, rfl, ?_⟩, (ac hB b6).trans (belowK_b (w := w) (Nat.le_refl _) w6 D _ _ (by omega) hK6 rfl rfl)⟩
    rw [HH2.out]
    exact (r6.keep (fun g h1 _ => putObj_other w6 D _ g (by omega))).mono hB.size
  case stop =>
    rintro D c pre W _ _ h _
    exact h.elim

theorem hashParts_any (g m c : Nat) (ps : List Pt) (w : World) (hT : Tabs w) (h : Pts w g ps) (hm : ps.length = m) (hm2 : m ≤ 1000) (hs : sumN ps ≤ 100000000) :
    Calls Tryd.prog 28 #[.slice (some ⟨g, 0, none⟩) m c] w (HashOut (catL ps) w) :=
  (callsIn_wide (n := 3)).1 (hashParts_in Fence.wide 3 (fun _ => trivial) (fun _ _ _ _ _ hc => callsIn_wide.2 hc) rfl (by omega) g m c ps w hT h hm hm2 hs)
end Go.Proofs.YtgmbofoneeagiaaDoor
