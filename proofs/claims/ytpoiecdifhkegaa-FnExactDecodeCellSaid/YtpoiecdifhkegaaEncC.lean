/- The text of a cell, of the model. -/
import Derived.Test.YtpoiecdifhkegaaCellF
import Derived.Deep.RegionHeld3
import Derived.IntWalk
import Derived.Deep.CutRange
namespace Go.Proofs.Ytpoiecdifhkegaa
open Go.RowKit

theorem Row.madeR (w : World) (l : List Int) (n : Nat) (hl : By l) (hn : l.length = n) (hm : n ≤ 1000000) : Row (w.alloc (.cells (l.map (Value.int .u8)).toArray 5)) w.heap.size (.slice (some ⟨w.heap.size, 0, none⟩) n n) l := by
  subst hn
  refine ⟨hl, ⟨by simp, .inr ⟨w.heap.size, l.length, _, rfl, Nat.le_refl _, heap_alloc_new w _, Nat.le_refl _, by unfold maxLen; omega, by simp, ?_⟩⟩⟩
  rw [Nat.mul_one]
  exact List.take_of_length_le (by simp)
theorem Row.belowR {w w' : World} {B C : Nat} {v : Value} {l : List Int} (h : Row w B v l) (hb : Below C w w') (hC : w.heap.size ≤ C) : Row w' B v l := h.keep (fun g _ h2 => hb.block g (by omega))

theorem Bs.drewX {w : World} {A : Option Addr} {n : Nat} {l : List Int} (h : Bs w A n l) : Bs w.drew A n l := ⟨h.len, h.byte, h.at_⟩

set_option maxRecDepth 100000 in
/-- bytes put behind a row, as one step of a region that draws its order -/
theorem step_join_putR {ops : Array Oper} {o : Oper} {a : Act} {K : Act → World → Prop} {Q : Exit → Act → World → Prop} {E : Prop} (hgd : o.guard = none) (s x : Operand)
    (ho : o.op = .call { callee := .builtin .append, args := #[s, x], argTypes := #[22, 22] })
    (w : World) (B : Nat) (v : Value) (l r : List Int) (hs : a.eval s = v) (hrow : Row w B v l) (hB : B ≤ w.heap.size)
    (ad : Addr) (n c : Nat) (hx : a.eval x = .slice (some ad) n c) (hbs : Bs w (some ad) n r) (hlen : l.length + n ≤ 140737488351232)
    (h : ∀ v' w', Row w' B v' (l ++ r) → Below B w w' → w.heap.size ≤ w'.heap.size → K (a.put o.dst v') w') :
    if Region.wanted o (yielded ops a.tmps) = true then Oper.wp Try.prog o a w K Q else E := by
  have hw : Region.wanted o (yielded ops a.tmps) = true := by simp [Region.wanted, hgd]
  rw [if_pos hw]
  obtain ⟨i0, hi, hz0, hz1, hz2⟩ := info_parts info_u8
  have hrl := hbs.len
  have hcell : ∀ j u, (r.map (Value.int .u8))[j]? = some u → w.cell? (ad.add j) = some u := by
    intro j u hu
    have hj : j < r.length := by
      rcases Nat.lt_or_ge j r.length with h1 | h1
      · exact h1
      · rw [List.getElem?_eq_none (by simpa using h1)] at hu; cases hu
    obtain ⟨b, off, e, _, hc⟩ := hbs.at_ (by omega)
    injection e with e
    subst e
    have hadd : (⟨b, off, none⟩ : Addr).add j = ⟨b, off + j, none⟩ := by unfold Addr.add; split <;> simp_all
    rw [hadd, hc j (by omega)]
    rw [List.getElem?_map, List.getElem?_eq_getElem hj] at hu
    simpa [List.getD, List.getElem?_eq_getElem hj] using hu
  refine wp_append_own w s x 22 ho B 5 i0 (.int .u8 0) 1 1 Try.underlying22 hi hz0 hz1 hz2 rfl (by decide) v l.length _ hs hrow.own ad n c (r.map (Value.int .u8)) hx (by simp [hrl]) hcell
    (fun u hu => by obtain ⟨y, _, rfl⟩ := List.mem_map.1 hu; rfl) (by unfold maxLen; omega) (by omega) hB ?_
  intro v' w' hown hgrow _
  refine h v' w' ⟨hrow.byte.append hbs.byte, ?_⟩ ⟨hgrow.os, hgrow.tape, hgrow.output, hgrow.size, fun k hk => hgrow.block k (by omega) (fun e => ?_)⟩ hgrow.size
  · rw [List.length_append, List.map_append, hrl]; exact hown
  · have := (hrow.own.lt k e.symm).1
    omega

theorem high2_any (n : Int) (w : World) (h0 : 0 ≤ n) (hn : n ≤ 9223372036854775807) :
    Calls Try.prog 63 #[.int .i64 n, .int .i64 2] w fun e w' => (∃ g c, e = .returned (.slice (some ⟨g, 0, none⟩) 2 c) ∧ Bs w' (some ⟨g, 0, none⟩) 2 (hi2 n)) ∧ Below w.heap.size w w' :=
  (l1High_any n 2 w h0 hn (by omega)).mono fun e w' ⟨⟨A, c, he, ho⟩, hb⟩ => by
    obtain ⟨g, rfl, _⟩ := ho.at_ (by omega)
    exact ⟨⟨g, c, he, ho.bs⟩, hb⟩


set_option maxRecDepth 100000 in
set_option maxHeartbeats 4000000 in
theorem l6Encode_any (p : Nat) (a b c d : Int) (v : Bool) (A : Option Addr) (n f : Nat) (l : List Int) (w : World) (hS : Stc w p [.int .i64 a, .int .i64 b, .int .i64 c, .int .i64 d, .bool v, .slice A n f] 25) (hA : Bs w A n l) (hcap : A = none → f = 0)
    (ha0 : 0 ≤ a) (ha1 : a < 256) (hb0 : 0 ≤ b) (hb1 : b ≤ 100000) (hc0 : 0 ≤ c) (hc1 : c ≤ 100000) (hd0 : 0 ≤ d) (hd1 : d < 256) (hn : n ≤ 32) :
    Calls Try.prog 43 #[.pointer (some ⟨p, 0, none⟩)] w fun e w' => (∃ A' c', e = .returned (.slice A' 44 c') ∧ Row w' w.heap.size (.slice A' 44 c') (cellL a b c d v l)) ∧ Below w.heap.size w w' := by
  have wa : IntKind.u8.wrap a = a := IntWalk.u8_in a (by omega)
  have wd : IntKind.u8.wrap d = d := IntWalk.u8_in d (by omega)
  have wn : IntKind.u8.wrap (n : Int) = (n : Int) := IntWalk.u8_in (n : Int) (by omega)
  have x0 := hS.cell (i := 0) rfl
  have x1 := hS.cell (i := 1) rfl
  have x4 := hS.cell (i := 4) rfl
  have hlt := hS.lt
  have Hl := Lib.hid hA.len
  have hWW := Below.refl w.heap.size w
  have By1 : By [a] := fun x hx => by simp at hx; omega
  have By3 : By [d, bit v, (n : Int)] := fun x hx => by
    simp only [List.mem_cons, List.not_mem_nil, or_false] at hx
    rcases hx with rfl | rfl | rfl
    · omega
    · unfold bit; split <;> omega
    · omega
  have HA : Shut (∀ W : World, (W.cell? ⟨p, 0, none⟩ = some (.int .i64 a) ∧ W.cell? ⟨p, 1, none⟩ = some (.int .i64 b) ∧ Below w.heap.size w W) → Calls Try.prog 63 #[.int .i64 b, .int .i64 2] W fun e w' => (∃ g c, e = .returned (.slice (some ⟨g, 0, none⟩) 2 c) ∧ Bs w' (some ⟨g, 0, none⟩) 2 (hi2 b)) ∧ Below W.heap.size W w' ∧ w'.cell? ⟨p, 0, none⟩ = some (.int .i64 a) ∧ w'.cell? ⟨p, 1, none⟩ = some (.int .i64 b) ∧ Below w.heap.size w w') := by
    refine ⟨fun W ⟨z0, z1, z2⟩ => (high2_any b W hb0 (by omega)).mono ?_⟩
    rintro e w' ⟨h, hb⟩
    have hc := fun (i : Nat) => hb.cell (p := ⟨p, i, none⟩) (Nat.lt_of_lt_of_le hlt z2.size)
    exact ⟨h, hb, (hc 0).trans z0, (hc 1).trans z1, ac z2 hb⟩
  have kw : ∀ e : Bool, e = v → (if e = true then (1 : Int) else 0) = bit v := by intro e he; subst he; rfl
  clear kw
  cases v
  · replace By3 : By [d, 0, (n : Int)] := By3
    go_enter Try.func43, Try.ntmps43
    go_wp2_with fail
    go_cut [4] from 9 to 20 (fun s wx => Row wx w.heap.size s ([a] ++ hi2 b) ∧ Below w.heap.size w wx)
    case first =>
      go_region_held3 (fun W => W.cell? ⟨p, 0, none⟩ = some (.int .i64 a) ∧ W.cell? ⟨p, 1, none⟩ = some (.int .i64 b) ∧ Below w.heap.size w W)
        (first | (exact ⟨by assumption, by assumption, by assumption⟩) | (exact ⟨x0, x1, hWW.drew⟩) | (exact ⟨(hS.alloc _).cell (i := 0) rfl, (hS.alloc _).cell (i := 1) rfl, (ab hWW _).drew⟩) | (exact ⟨cell_past _ (by assumption), cell_past _ (by assumption), ab (by assumption) _⟩) | go_keep)
        (first
        | (go_at_call 63; refine (HA.out _ ?_).mono ?_; (first | assumption | (simp [*]; done)); rintro e w1 ⟨⟨g1, c1, rfl, o1⟩, b1, z0, z1, z2⟩)
        | (refine step_join_putR rfl _ _ rfl w1 w.heap.size (.slice (some ⟨w.heap.size, 0, none⟩) 1 1) [a] (hi2 b) rfl ?_ ?_ ⟨g1, 0, none⟩ 2 c1 rfl o1 (by simp) ?_; exact (((Row.madeR w [a] 1 By1 rfl (by omega)).drew).belowR b1 (Nat.le_refl _)); exact z2.size; intro v3 w3 r3 b3 s3; have y0 := (b3.cell (p := ⟨p, 0, none⟩) hlt).trans z0; have y1 := (b3.cell (p := ⟨p, 1, none⟩) hlt).trans z1; have y2 := z2.trans b3)
        | (refine step_join_putR rfl _ _ rfl (w1.alloc (.cells #[.int .u8 a] 5)) w.heap.size (.slice (some ⟨w1.heap.size, 0, none⟩) 1 1) [a] (hi2 b) rfl ?_ ?_ ⟨g1, 0, none⟩ 2 c1 rfl (o1.alloc _) (by simp) ?_; exact ((Row.madeR w1 [a] 1 By1 rfl (by omega)).mono z2.size); exact Nat.le_trans z2.size (by simp); intro v3 w3 r3 b3 s3; have y0 := (b3.cell (p := ⟨p, 0, none⟩) hlt).trans (cell_past _ z0); have y1 := (b3.cell (p := ⟨p, 1, none⟩) hlt).trans (cell_past _ z1); have y2 := (ab z2 (.cells #[.int .u8 a] 5)).trans b3))
      all_goals
        go_wp2_with fail
        go_meet
        exact ⟨r3, y2⟩
    case rest =>
      obtain ⟨rc, bc⟩ := hcut
      clear HA x0 x1 x4 hWW
      have sc := hS.below bc hlt
      have x2 := sc.cell (i := 2) rfl
      go_wp2_with fail
      refine (high2_any c _ hc0 (by omega)).mono ?_
      rintro e w5 ⟨⟨g5, c5, rfl, o5⟩, b5⟩
      have r5 := rc.belowR b5 (Nat.le_refl _)
      have B5 := ac bc b5
      have z5 := B5.size
      clear x2 sc rc bc b5
      go_wp2_with (at_builtin; refine wpList_row_join rfl _ _ rfl _ w.heap.size u4 _ (hi2 c) rfl r5 z5 (some ⟨g5, 0, none⟩) 2 c5 rfl o5 (fun e => by cases e) (by simp [hi2_len]) ?_; intro v6 w6 r6 b6 s6)
      have B6 := B5.trans b6
      have S6 := hS.below B6 hlt
      have x3 := S6.cell (i := 3) rfl
      have x5 := S6.cell (i := 5) rfl
      have z6 := B6.size
      clear o5 r5 B5 b6 s6
      go_region_held3 (fun W => W.cell? ⟨p, 3, none⟩ = some (.int .i64 d) ∧ W.cell? ⟨p, 5, none⟩ = some (.slice A n f) ∧ Below w.heap.size w W)
        (first | (exact ⟨by assumption, by assumption, by assumption⟩) | (exact ⟨x3, x5, B6.drew⟩) | (exact ⟨(S6.alloc _).cell (i := 3) rfl, (S6.alloc _).cell (i := 5) rfl, (B6.alloc z6 _).drew⟩) | go_keep)
        (first | (refine step_join_putR rfl _ _ rfl (w6.alloc (.cells #[.int .u8 d, .int .u8 0, .int .u8 (n : Int)] 5)).drew w.heap.size v6 _ [d, 0, (n : Int)] rfl ((r6.alloc _).drew) ?_ ⟨w6.heap.size, 0, none⟩ 3 3 rfl ?_ ?_ ?_; exact Nat.le_trans z6 (show w6.heap.size ≤ (w6.alloc _).heap.size by simp); exact (Blk.bsn (n := 3) (Blk.made w6 [d, 0, (n : Int)]) By3 rfl).drewX; simp [hi2_len]; intro v7 w7 r7 b7 s7; have y3 := (b7.cell (p := ⟨p, 3, none⟩) hlt).trans ((S6.alloc _).cell (i := 3) rfl); have y5 := (b7.cell (p := ⟨p, 5, none⟩) hlt).trans ((S6.alloc _).cell (i := 5) rfl); have B7 := (B6.alloc z6 (.cells #[.int .u8 d, .int .u8 0, .int .u8 (n : Int)] 5)).drew.trans b7))
      have hl32 : l.length ≤ 32 := by rw [Hl.out]; exact hn
      have hA7 := hA.below B7
      have z7 := B7.size
      have y5 := (hS.below B7 hlt).cell (i := 5) rfl
      have L7 : Shut (((([a] ++ hi2 b) ++ hi2 c) ++ [d, 0, (n : Int)]).length = 8) := ⟨by simp [hi2_len]⟩
      have E7 : Shut (∀ k : Nat, k = 36 - l.length → ((((([a] ++ hi2 b) ++ hi2 c) ++ [d, 0, (n : Int)]) ++ l) ++ List.replicate k 0) = cellL a b c d false l) := ⟨fun k hk => by
        subst hk
        have := Hl.out
        simp [cellL, bit, this]⟩
      generalize hL : ((([a] ++ hi2 b) ++ hi2 c) ++ [d, 0, (n : Int)]) = L at *
      clear hL r6 B6 S6 z6 z5 y3 b7 s7 x3 x5
      go_wp2_with (at_builtin; refine wpList_row_join rfl _ _ rfl _ w.heap.size v7 L l rfl r7 z7 A n f rfl hA7 hcap (by have := L7.out; omega) ?_; intro v8 w8 r8 b8 s8)
      have B8 := B7.trans b8
      have z8 := B8.size
      have L8 : Shut ((L ++ l).length = 8 + n) := ⟨by rw [List.length_append, L7.out, Hl.out]⟩
      generalize hM : L ++ l = M at *
      clear hM r7 B7 z7 b8 s8 hA7 y5 L7
      go_loopw [4] (fun s wr => ∃ k : Nat, k ≤ 36 - n ∧ Row wr w.heap.size s (M ++ List.replicate k 0) ∧ Below w.heap.size w wr) (fun s wr => 44 - (match s with | .slice _ m _ => m | _ => 0))
      case atStart => exact ⟨0, Nat.zero_le _, by simpa using r8, B8⟩
      case round =>
        obtain ⟨k, hk, rk, Bk⟩ := hrel
        have zk := Bk.size
        have Lk : Shut ((M ++ List.replicate k (0 : Int)).length = 8 + n + k) := ⟨by rw [List.length_append, L8.out, List.length_replicate]⟩
        obtain ⟨Ak, ck, rfl, ok⟩ := rk.ow Lk.out
        have Ek : Shut ((M ++ List.replicate k (0 : Int)) ++ [0] = M ++ List.replicate (k + 1) 0) := ⟨by rw [List.replicate_succ', List.append_assoc]⟩
        by_cases hlk : k < 36 - n
        · have ht : ((8 + n + k : Nat) : Int) < 44 := by omega
          have hlen : (M ++ List.replicate k (0 : Int)).length ≤ 140737488351232 := by rw [Lk.out]; omega
          clear ok
          generalize hN : M ++ List.replicate k (0 : Int) = N at *
          clear hN
          go_wp2_with (at_builtin; refine wpList_row_append rfl _ _ rfl _ w.heap.size _ N rfl (rk.alloc _) (by simp; omega) ⟨wr.heap.size, 0, none⟩ 1 0 rfl (cell_one _ _ _) (by omega) (by omega) hlen ?_; intro v9 w9 r9 b9 s9)
          obtain ⟨A9, c9, rfl, _⟩ := r9.ow (n := 8 + n + k + 1) (by rw [List.length_append, Lk.out]; rfl)
          refine ⟨⟨k + 1, by omega, by rw [← Ek.out]; exact r9, (Bk.alloc zk _).trans b9⟩, ?_⟩
          show 44 - (8 + n + k + 1) < 44 - (8 + n + k)
          omega
        · have ht : ¬ ((8 + n + k : Nat) : Int) < 44 := by omega
          obtain rfl : k = 36 - n := by omega
          have e8 : 8 + n + (36 - n) = 44 := by omega
          rw [e8] at rk
          have F : Shut (M ++ List.replicate (36 - n) (0 : Int) = cellL a b c d false l) := ⟨E7.out _ (by rw [Hl.out])⟩
          clear ok E7
          go_wp2
          go_ret
          rw [← F.out]
          exact ⟨⟨Ak, ck, rfl, rk⟩, Bk⟩
  · replace By3 : By [d, 1, (n : Int)] := By3
    go_enter Try.func43, Try.ntmps43
    go_wp2_with fail
    go_cut [4] from 9 to 20 (fun s wx => Row wx w.heap.size s ([a] ++ hi2 b) ∧ Below w.heap.size w wx)
    case first =>
      go_region_held3 (fun W => W.cell? ⟨p, 0, none⟩ = some (.int .i64 a) ∧ W.cell? ⟨p, 1, none⟩ = some (.int .i64 b) ∧ Below w.heap.size w W)
        (first | (exact ⟨by assumption, by assumption, by assumption⟩) | (exact ⟨x0, x1, hWW.drew⟩) | (exact ⟨(hS.alloc _).cell (i := 0) rfl, (hS.alloc _).cell (i := 1) rfl, (ab hWW _).drew⟩) | (exact ⟨cell_past _ (by assumption), cell_past _ (by assumption), ab (by assumption) _⟩) | go_keep)
        (first
        | (go_at_call 63; refine (HA.out _ ?_).mono ?_; (first | assumption | (simp [*]; done)); rintro e w1 ⟨⟨g1, c1, rfl, o1⟩, b1, z0, z1, z2⟩)
        | (refine step_join_putR rfl _ _ rfl w1 w.heap.size (.slice (some ⟨w.heap.size, 0, none⟩) 1 1) [a] (hi2 b) rfl ?_ ?_ ⟨g1, 0, none⟩ 2 c1 rfl o1 (by simp) ?_; exact (((Row.madeR w [a] 1 By1 rfl (by omega)).drew).belowR b1 (Nat.le_refl _)); exact z2.size; intro v3 w3 r3 b3 s3; have y0 := (b3.cell (p := ⟨p, 0, none⟩) hlt).trans z0; have y1 := (b3.cell (p := ⟨p, 1, none⟩) hlt).trans z1; have y2 := z2.trans b3)
        | (refine step_join_putR rfl _ _ rfl (w1.alloc (.cells #[.int .u8 a] 5)) w.heap.size (.slice (some ⟨w1.heap.size, 0, none⟩) 1 1) [a] (hi2 b) rfl ?_ ?_ ⟨g1, 0, none⟩ 2 c1 rfl (o1.alloc _) (by simp) ?_; exact ((Row.madeR w1 [a] 1 By1 rfl (by omega)).mono z2.size); exact Nat.le_trans z2.size (by simp); intro v3 w3 r3 b3 s3; have y0 := (b3.cell (p := ⟨p, 0, none⟩) hlt).trans (cell_past _ z0); have y1 := (b3.cell (p := ⟨p, 1, none⟩) hlt).trans (cell_past _ z1); have y2 := (ab z2 (.cells #[.int .u8 a] 5)).trans b3))
      all_goals
        go_wp2_with fail
        go_meet
        exact ⟨r3, y2⟩
    case rest =>
      obtain ⟨rc, bc⟩ := hcut
      clear HA x0 x1 x4 hWW
      have sc := hS.below bc hlt
      have x2 := sc.cell (i := 2) rfl
      go_wp2_with fail
      refine (high2_any c _ hc0 (by omega)).mono ?_
      rintro e w5 ⟨⟨g5, c5, rfl, o5⟩, b5⟩
      have r5 := rc.belowR b5 (Nat.le_refl _)
      have B5 := ac bc b5
      have z5 := B5.size
      clear x2 sc rc bc b5
      go_wp2_with (at_builtin; refine wpList_row_join rfl _ _ rfl _ w.heap.size u4 _ (hi2 c) rfl r5 z5 (some ⟨g5, 0, none⟩) 2 c5 rfl o5 (fun e => by cases e) (by simp [hi2_len]) ?_; intro v6 w6 r6 b6 s6)
      have B6 := B5.trans b6
      have S6 := hS.below B6 hlt
      have x3 := S6.cell (i := 3) rfl
      have x5 := S6.cell (i := 5) rfl
      have z6 := B6.size
      clear o5 r5 B5 b6 s6
      go_region_held3 (fun W => W.cell? ⟨p, 3, none⟩ = some (.int .i64 d) ∧ W.cell? ⟨p, 5, none⟩ = some (.slice A n f) ∧ Below w.heap.size w W)
        (first | (exact ⟨by assumption, by assumption, by assumption⟩) | (exact ⟨x3, x5, B6.drew⟩) | (exact ⟨(S6.alloc _).cell (i := 3) rfl, (S6.alloc _).cell (i := 5) rfl, (B6.alloc z6 _).drew⟩) | go_keep)
        (first | (refine step_join_putR rfl _ _ rfl (w6.alloc (.cells #[.int .u8 d, .int .u8 1, .int .u8 (n : Int)] 5)).drew w.heap.size v6 _ [d, 1, (n : Int)] rfl ((r6.alloc _).drew) ?_ ⟨w6.heap.size, 0, none⟩ 3 3 rfl ?_ ?_ ?_; exact Nat.le_trans z6 (show w6.heap.size ≤ (w6.alloc _).heap.size by simp); exact (Blk.bsn (n := 3) (Blk.made w6 [d, 1, (n : Int)]) By3 rfl).drewX; simp [hi2_len]; intro v7 w7 r7 b7 s7; have y3 := (b7.cell (p := ⟨p, 3, none⟩) hlt).trans ((S6.alloc _).cell (i := 3) rfl); have y5 := (b7.cell (p := ⟨p, 5, none⟩) hlt).trans ((S6.alloc _).cell (i := 5) rfl); have B7 := (B6.alloc z6 (.cells #[.int .u8 d, .int .u8 1, .int .u8 (n : Int)] 5)).drew.trans b7))
      have hl32 : l.length ≤ 32 := by rw [Hl.out]; exact hn
      have hA7 := hA.below B7
      have z7 := B7.size
      have y5 := (hS.below B7 hlt).cell (i := 5) rfl
      have L7 : Shut (((([a] ++ hi2 b) ++ hi2 c) ++ [d, 1, (n : Int)]).length = 8) := ⟨by simp [hi2_len]⟩
      have E7 : Shut (∀ k : Nat, k = 36 - l.length → ((((([a] ++ hi2 b) ++ hi2 c) ++ [d, 1, (n : Int)]) ++ l) ++ List.replicate k 0) = cellL a b c d true l) := ⟨fun k hk => by
        subst hk
        have := Hl.out
        simp [cellL, bit, this]⟩
      generalize hL : ((([a] ++ hi2 b) ++ hi2 c) ++ [d, 1, (n : Int)]) = L at *
      clear hL r6 B6 S6 z6 z5 y3 b7 s7 x3 x5
      go_wp2_with (at_builtin; refine wpList_row_join rfl _ _ rfl _ w.heap.size v7 L l rfl r7 z7 A n f rfl hA7 hcap (by have := L7.out; omega) ?_; intro v8 w8 r8 b8 s8)
      have B8 := B7.trans b8
      have z8 := B8.size
      have L8 : Shut ((L ++ l).length = 8 + n) := ⟨by rw [List.length_append, L7.out, Hl.out]⟩
      generalize hM : L ++ l = M at *
      clear hM r7 B7 z7 b8 s8 hA7 y5 L7
      go_loopw [4] (fun s wr => ∃ k : Nat, k ≤ 36 - n ∧ Row wr w.heap.size s (M ++ List.replicate k 0) ∧ Below w.heap.size w wr) (fun s wr => 44 - (match s with | .slice _ m _ => m | _ => 0))
      case atStart => exact ⟨0, Nat.zero_le _, by simpa using r8, B8⟩
      case round =>
        obtain ⟨k, hk, rk, Bk⟩ := hrel
        have zk := Bk.size
        have Lk : Shut ((M ++ List.replicate k (0 : Int)).length = 8 + n + k) := ⟨by rw [List.length_append, L8.out, List.length_replicate]⟩
        obtain ⟨Ak, ck, rfl, ok⟩ := rk.ow Lk.out
        have Ek : Shut ((M ++ List.replicate k (0 : Int)) ++ [0] = M ++ List.replicate (k + 1) 0) := ⟨by rw [List.replicate_succ', List.append_assoc]⟩
        by_cases hlk : k < 36 - n
        · have ht : ((8 + n + k : Nat) : Int) < 44 := by omega
          have hlen : (M ++ List.replicate k (0 : Int)).length ≤ 140737488351232 := by rw [Lk.out]; omega
          clear ok
          generalize hN : M ++ List.replicate k (0 : Int) = N at *
          clear hN
          go_wp2_with (at_builtin; refine wpList_row_append rfl _ _ rfl _ w.heap.size _ N rfl (rk.alloc _) (by simp; omega) ⟨wr.heap.size, 0, none⟩ 1 0 rfl (cell_one _ _ _) (by omega) (by omega) hlen ?_; intro v9 w9 r9 b9 s9)
          obtain ⟨A9, c9, rfl, _⟩ := r9.ow (n := 8 + n + k + 1) (by rw [List.length_append, Lk.out]; rfl)
          refine ⟨⟨k + 1, by omega, by rw [← Ek.out]; exact r9, (Bk.alloc zk _).trans b9⟩, ?_⟩
          show 44 - (8 + n + k + 1) < 44 - (8 + n + k)
          omega
        · have ht : ¬ ((8 + n + k : Nat) : Int) < 44 := by omega
          obtain rfl : k = 36 - n := by omega
          have e8 : 8 + n + (36 - n) = 44 := by omega
          rw [e8] at rk
          have F : Shut (M ++ List.replicate (36 - n) (0 : Int) = cellL a b c d true l) := ⟨E7.out _ (by rw [Hl.out])⟩
          clear ok E7
          go_wp2
          go_ret
          rw [← F.out]
          exact ⟨⟨Ak, ck, rfl, rk⟩, Bk⟩
end Go.Proofs.Ytpoiecdifhkegaa
