/- The text of a cell, of the program: what a kind writes. -/
import Derived.Test.YtpoiecdifhkegaaEncC
import Derived.Laws.CopyOwn
namespace Go.Proofs.Ytpoiecdifhkegaa
open Go.RowKit

theorem save_setRow (w : World) (g : Nat) (cs : Array Value) : Save g w (w.setRow g cs) :=
  ⟨rfl, rfl, rfl, by simp [World.setRow], fun k _ hk => setRow_other w g k cs hk⟩

theorem Save.drewX {x : Nat} {w w' : World} (h : Save x w w') : Save x w w'.drew := ⟨h.os, h.tape, h.output, h.size, h.block⟩

theorem Bs.off {w w' : World} {A : Option Addr} {n g : Nat} {l : List Int} (h : Bs w A n l) (hne : 0 < n → ∀ a, A = some a → a.block ≠ g) (hs : Save g w w') : Bs w' A n l :=
  ⟨h.len, h.byte, fun hn => by
    obtain ⟨b, off, e, hb, hc⟩ := h.at_ hn
    have hx := hne hn _ e
    refine ⟨b, off, e, Nat.lt_of_lt_of_le hb hs.size, fun i hi => ?_⟩
    have hh := hs.block b hb hx
    rw [← hc i hi]
    simp [World.cell?, hh]⟩

/-- a copy into a block that is known whole, as one step of a region that draws its order: no other block is turned -/
theorem step_copyb_save {ops : Array Oper} {o : Oper} {a : Act} {K : Act → World → Prop} {Q : Exit → Act → World → Prop} {E : Prop} (hgd : o.guard = none) (d s : Operand)
    (ho : o.op = .call { callee := .builtin .copy, args := #[d, s], argTypes := #[22, 22] })
    (w : World) (g off dLen dCap : Nat) (A : Option Addr) (n c : Nat) (L r : List Int) (hd : a.eval d = .slice (some ⟨g, off, none⟩) dLen dCap) (hs : a.eval s = .slice A n c)
    (hL : Blk w g L) (hr : Bs w A n r) (hnd : n ≤ dLen) (hfit : off + n ≤ L.length)
    (h : ∀ w', Blk w' g (laidOver L off r) → Save g w w' → K (a.put o.dst (goInt n)) w') : if Region.wanted o (yielded ops a.tmps) = true then Oper.wp Try.prog o a w K Q else E := by
  have hw : Region.wanted o (yielded ops a.tmps) = true := by simp [Region.wanted, hgd]
  rw [if_pos hw]
  have hl := hr.len
  have hn : (r.map (Value.int .u8)).length = Nat.min n dLen := by rw [List.length_map, hl]; exact (Nat.min_eq_left hnd).symm
  by_cases h0 : n = 0
  · subst h0
    obtain rfl : r = [] := List.eq_nil_of_length_eq_zero hl
    have hrun := run_copy_none (P := Try.prog) w 22 22 o.type 5 (some ⟨g, off, none⟩) A dLen dCap 0 c Try.underlying22 size_u8 (by simp)
    unfold Oper.wp
    simp [execOp, ho, resolve, invoke, builtin, hd, hs, hrun, Result.andThen]
    exact h w (by simpa [laidOver] using hL) (Save.refl g w)
  · obtain ⟨b, of, e, _⟩ := hr.at_ (by omega)
    subst e
    have hrun := run_copy_row (P := Try.prog) w 22 22 o.type 5 g off dLen dCap ⟨b, of, none⟩ n c (L.map (Value.int .u8)).toArray 5 (r.map (Value.int .u8)) Try.underlying22 size_u8 hL hn (bs_src hr _ rfl) (by simpa [hl] using hfit) (fun u hu => by obtain ⟨y, _, rfl⟩ := List.mem_map.1 hu; rfl)
    unfold Oper.wp
    simp [execOp, ho, resolve, invoke, builtin, hd, hs, hrun, Result.andThen, hl]
    refine h _ ?_ (save_setRow w g _)
    unfold Blk
    rw [setRow_heap w g _ _ _ _ hL]
    simp [laidOver, hl, List.map_take, List.map_drop]

/-- what data write of themselves -/
def writ (P : List Int) (b : Int) (v : Bool) (l : List Int) : List Int :=
  laidOver ((if v then (laidOver P 1 (hi2 b)).set 6 1 else laidOver P 1 (hi2 b)).set 7 (l.length : Int)) 8 l

set_option maxRecDepth 100000 in
set_option maxHeartbeats 4000000 in
theorem dataWrite_any (b : Int) (v : Bool) (A : Option Addr) (n f g : Nat) (l P : List Int) (w : World) (hP : Blk w g P) (hPl : P.length = 44) (hA : Bs w A n l) (hne : 0 < n → ∀ a, A = some a → a.block ≠ g) (hn : n ≤ 32) :
    Calls Try.prog 86 #[.agg #[.int .i64 b, .bool v, .slice A n f], .slice (some ⟨g, 0, none⟩) 44 44] w fun e w' => e = .returned (.tuple #[]) ∧ Blk w' g (writ P b v l) ∧ Save g w w' := by
  have wn : IntKind.u8.wrap (n : Int) = (n : Int) := IntWalk.u8_in (n : Int) (by omega)
  have Hl := Lib.hid hA.len
  have hg := hP.lt
  have L0 := Shut.mk hPl
  have L1 : Shut ((laidOver P 1 (hi2 b)).length = 44) := ⟨by rw [laidOver_len _ _ _ (by rw [hi2_len, hPl]; omega), hPl]⟩
  have sv0 : Save g w (w.alloc (.cells #[.int .i64 b, .bool v, .slice A n f] 71)) := Save.ofBelow (ab (Below.refl _ w) _)
  have hA0 := hA.off hne sv0
  clear hPl hA
  have hgn : ¬ w.heap.size = g := by omega
  have hgn2 : ¬ g = w.heap.size := by omega
  cases v
  · have D0 := Stc.new w 71 [.int .i64 b, .bool false, .slice A n f] _ rfl
    have P0 := hP.alloc (.cells #[.int .i64 b, .bool false, .slice A n f] 71)
    have F : Shut (writ P b false l = laidOver ((laidOver P 1 (hi2 b)).set 7 (n : Int)) 8 l) := ⟨by simp [writ, Hl.out]⟩
    rw [F.out]
    clear F
    go_enter Try.func86, Try.ntmps86
    go_wp2_with fail
    generalize hw0 : w.alloc (.cells #[.int .i64 b, .bool false, .slice A n f] 71) = w0 at *
    clear hw0 hP
    have hg0 := P0.lt
    have hlt := D0.lt
    have x0 := D0.cell (i := 0) rfl
    have sr := Save.refl g w0
    have HB : Shut (∀ W : World, (W.cell? ⟨w.heap.size, 0, none⟩ = some (.int .i64 b) ∧ Save g w0 W) → Calls Try.prog 62 #[.int .i64 b, .int .i64 2] W fun e w' => (∃ q, e = .returned (.slice (some ⟨q, 0, none⟩) 2 2) ∧ Bs w' (some ⟨q, 0, none⟩) 2 (hi2 b)) ∧ Below W.heap.size W w' ∧ w'.cell? ⟨w.heap.size, 0, none⟩ = some (.int .i64 b) ∧ Save g w0 w') := by
      refine ⟨fun W ⟨z0, z1⟩ => (spreadHigh_any b 2 W (by omega)).mono ?_⟩
      rintro e w' ⟨rfl, ho, hb⟩
      exact ⟨⟨_, rfl, ho.bs⟩, hb, (hb.cell (p := ⟨w.heap.size, 0, none⟩) (Nat.lt_of_lt_of_le hlt z1.size)).trans z0, z1.then hb⟩
    go_region_held3 (fun W => W.cell? ⟨w.heap.size, 0, none⟩ = some (.int .i64 b) ∧ Save g w0 W)
      (first | (exact ⟨by assumption, by assumption⟩) | (exact ⟨x0, sr.drewN 1⟩) | go_keep)
      (first
      | (go_at_call 62; refine (HB.out _ ?_).mono ?_; (first | assumption | (simp [*]; done)); rintro e w1 ⟨⟨q1, rfl, o1⟩, b1, z0, z1⟩)
      | (refine step_copyb_save rfl _ _ rfl w1 g 1 43 43 (some ⟨q1, 0, none⟩) 2 2 P (hi2 b) rfl rfl (Blk.below (w := w0.drew) P0 b1 hg0) o1 (by omega) (by rw [L0.out]; omega) ?_; intro w2 k2 s2; have y1 := z1.trans s2; have y0 := (D0.save y1 hgn).cell (i := 0) rfl))
    have D2 := D0.save y1 hgn
    have x1 := D2.cell (i := 1) rfl
    have x2 := D2.cell (i := 2) rfl
    clear HB x0 sr o1 b1 z0 z1 s2 y0
    have c7 := k2.cell (i := 7) (by rw [L1.out]; omega)
    have f7 := k2.frozen 7
    go_wp2_with fail
    have k3 := k2.set_ 7 (n : Int)
    have y3 := y1.set_ 7 (.int .u8 (n : Int))
    generalize hw3 : w2.setCell ⟨g, 7, none⟩ (.int .u8 (n : Int)) = w3 at *
    clear hw3
    have D3 := D0.save y3 hgn
    have x3 := D3.cell (i := 2) rfl
    have A3 := hA0.off hne y3
    clear x1 x2 c7 f7 D2
    go_region_held3 (fun W => W.cell? ⟨w.heap.size, 2, none⟩ = some (.slice A n f) ∧ Save g w0 W)
      (first | (exact ⟨by assumption, by assumption⟩) | (exact ⟨x3, y3.drewN 1⟩) | go_keep)
      (first
      | (refine step_copyb_save rfl _ _ rfl w3.drew g 8 36 36 A n f ((laidOver P 1 (hi2 b)).set 7 (n : Int)) l rfl rfl k3 A3.drewX (by omega) (by simp [L1.out]; omega) ?_; intro w4 k4 s4; have y4 := y3.drewX.trans s4; have x4 := (D0.save y4 hgn).cell (i := 2) rfl))
    go_wp2
    go_end0
    exact ⟨rfl, k4, sv0.trans y4⟩
  · have D0 := Stc.new w 71 [.int .i64 b, .bool true, .slice A n f] _ rfl
    have P0 := hP.alloc (.cells #[.int .i64 b, .bool true, .slice A n f] 71)
    have F : Shut (writ P b true l = laidOver (((laidOver P 1 (hi2 b)).set 6 1).set 7 (n : Int)) 8 l) := ⟨by simp [writ, Hl.out]⟩
    rw [F.out]
    clear F
    go_enter Try.func86, Try.ntmps86
    go_wp2_with fail
    generalize hw0 : w.alloc (.cells #[.int .i64 b, .bool true, .slice A n f] 71) = w0 at *
    clear hw0 hP
    have hg0 := P0.lt
    have hlt := D0.lt
    have x0 := D0.cell (i := 0) rfl
    have sr := Save.refl g w0
    have HB : Shut (∀ W : World, (W.cell? ⟨w.heap.size, 0, none⟩ = some (.int .i64 b) ∧ Save g w0 W) → Calls Try.prog 62 #[.int .i64 b, .int .i64 2] W fun e w' => (∃ q, e = .returned (.slice (some ⟨q, 0, none⟩) 2 2) ∧ Bs w' (some ⟨q, 0, none⟩) 2 (hi2 b)) ∧ Below W.heap.size W w' ∧ w'.cell? ⟨w.heap.size, 0, none⟩ = some (.int .i64 b) ∧ Save g w0 w') := by
      refine ⟨fun W ⟨z0, z1⟩ => (spreadHigh_any b 2 W (by omega)).mono ?_⟩
      rintro e w' ⟨rfl, ho, hb⟩
      exact ⟨⟨_, rfl, ho.bs⟩, hb, (hb.cell (p := ⟨w.heap.size, 0, none⟩) (Nat.lt_of_lt_of_le hlt z1.size)).trans z0, z1.then hb⟩
    go_region_held3 (fun W => W.cell? ⟨w.heap.size, 0, none⟩ = some (.int .i64 b) ∧ Save g w0 W)
      (first | (exact ⟨by assumption, by assumption⟩) | (exact ⟨x0, sr.drewN 1⟩) | go_keep)
      (first
      | (go_at_call 62; refine (HB.out _ ?_).mono ?_; (first | assumption | (simp [*]; done)); rintro e w1 ⟨⟨q1, rfl, o1⟩, b1, z0, z1⟩)
      | (refine step_copyb_save rfl _ _ rfl w1 g 1 43 43 (some ⟨q1, 0, none⟩) 2 2 P (hi2 b) rfl rfl (Blk.below (w := w0.drew) P0 b1 hg0) o1 (by omega) (by rw [L0.out]; omega) ?_; intro w2 k2 s2; have y1 := z1.trans s2; have y0 := (D0.save y1 hgn).cell (i := 0) rfl))
    have D2 := D0.save y1 hgn
    have x1 := D2.cell (i := 1) rfl
    have x2 := D2.cell (i := 2) rfl
    clear HB x0 sr o1 b1 z0 z1 s2 y0
    have c6 := k2.cell (i := 6) (by rw [L1.out]; omega)
    have f6 := k2.frozen 6
    have c7 := k2.cell (i := 7) (by rw [L1.out]; omega)
    have f7 := k2.frozen 7
    go_wp2_with fail
    have k3 := (k2.set_ 6 1).set_ 7 (n : Int)
    have y3 := (y1.set_ 6 (.int .u8 1)).set_ 7 (.int .u8 (n : Int))
    generalize hw3 : (w2.setCell ⟨g, 6, none⟩ (.int .u8 1)).setCell ⟨g, 7, none⟩ (.int .u8 (n : Int)) = w3 at *
    clear hw3
    have D3 := D0.save y3 hgn
    have x3 := D3.cell (i := 2) rfl
    have A3 := hA0.off hne y3
    clear x1 x2 c7 f7 D2
    go_region_held3 (fun W => W.cell? ⟨w.heap.size, 2, none⟩ = some (.slice A n f) ∧ Save g w0 W)
      (first | (exact ⟨by assumption, by assumption⟩) | (exact ⟨x3, y3.drewN 1⟩) | go_keep)
      (first
      | (refine step_copyb_save rfl _ _ rfl w3.drew g 8 36 36 A n f (((laidOver P 1 (hi2 b)).set 6 1).set 7 (n : Int)) l rfl rfl k3 A3.drewX (by omega) (by simp [L1.out]; omega) ?_; intro w4 k4 s4; have y4 := y3.drewX.trans s4; have x4 := (D0.save y4 hgn).cell (i := 2) rfl))
    go_wp2
    go_end0
    exact ⟨rfl, k4, sv0.trans y4⟩
end Go.Proofs.Ytpoiecdifhkegaa
