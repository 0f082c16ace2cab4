import Derived.Test.YtabhcolfkkfonaaGreatDoorMdlX
import Derived.Test.YtabhcolfkkfonaaGreatDoorBase
import Derived.Test.YtabhcolfkkfonaaGreatDoorChunk4P
import Derived.Test.YtabhcolfkkfonaaGreatDoorRoundP
import Derived.Test.YtabhcolfkkfonaaGreatDoorStartC
import Derived.Stop.RegionWithIn
import Derived.Maps.AppendAt
import Derived.Test.YtabhcolfkkfonaaGreatDoorTimX

/-! StepP -/
/- A quarter round, of the program. -/
namespace Go.Proofs.YtabhcolfkkfonaaGreatDoor
open Go.RowKit

set_option maxRecDepth 100000 in
set_option maxHeartbeats 4000000 in
/-- the word at b goes to that at a, which turns the one at d -/
theorem step_any (g : Nat) (V : List Int) (a b c d : Nat) (x y z u r : Int) (w : World) (q0 : Q4 w g V a b c d x y z u) (hr : 1 ≤ r ∧ r ≤ 31) (hx : a < 16) (hy : b < 16) (hd : d < 16) :
    Calls Tryz.prog 239 #[.pointer (some ⟨g, 0, none⟩), .int .i64 a, .int .i64 b, .int .i64 d, .int .i64 r] w fun e w' => e = .returned (.tuple #[]) ∧ Q4 w' g ((V.set a (addW x y)).set d (turn (xorW u (addW x y)) r)) a b c d (addW x y) y z (turn (xorW u (addW x y)) r) ∧ But g w.heap.size w w' := by
  have B0 : But g w.heap.size w w := But.refl _ _ _
  have ia : (a : Int) < 16 := by omega
  have ib : (b : Int) < 16 := by omega
  have id' : (d : Int) < 16 := by omega
  obtain ⟨r0, r1⟩ := hr
  obtain ⟨x1, hx1⟩ : ∃ x1, addW x y = x1 := ⟨_, rfl⟩
  rw [hx1]
  have hx2 : (x + y) % 4294967296 = x1 := hx1
  have HX := Shut.mk hx2
  clear hx1 hx2
  obtain ⟨t1, ht1⟩ : ∃ t1, turn (xorW u x1) r = t1 := ⟨_, rfl⟩
  rw [ht1]
  have HT := Shut.mk ht1
  clear ht1
  go_enter Tryz.func239, Tryz.ntmps239
  have c1 := q0.cell
  have c2 := q0.rot.cell
  have c3 := q0.fz
  go_wp2
  go_region
  go_wp2
  rw [HX.out]
  have q1 := q0.seta x1
  have B1 := (B0.setCell a (.int .u32 x1)).drewN 1
  rw [show ∀ x : World, x.drewN 1 = x.drew from fun _ => rfl] at B1
  clear c1 c2 c3 q0 B0
  generalize (w.setCell ⟨g, a, none⟩ (.int .u32 x1)).drew = w1 at *
  have c1 := q1.rot.rot.rot.cell
  have c2 := q1.cell
  have c3 := q1.rot.rot.rot.fz
  have q2 := q1.setd t1
  go_region_law (first | (go_simp; go_at_call 243; refine (turnLeft_any _ _ (by omega) (by omega) _).mono ?_; rintro e w' ⟨rfl, nd, rfl⟩))
  all_goals
    go_wp2
    rw [show turn (bits BinOp.xor IntKind.u32 u x1) r = t1 from HT.out]
    go_end0
    exact ⟨rfl, { q2 with k := (q1.k.drewN _).set_ d q1.ld t1 }, (B1.drewN _).setCell d _⟩

set_option maxRecDepth 100000 in
set_option maxHeartbeats 4000000 in
theorem quarter_any (g : Nat) (V : List Int) (a b c d : Nat) (w : World) (h : KOw .u32 w g V) (hV : V.length = 16)
    (ha : a < 16) (hb : b < 16) (hc : c < 16) (hd : d < 16) (hab : a ≠ b) (hac : a ≠ c) (had : a ≠ d) (hbc : b ≠ c) (hbd : b ≠ d) (hcd : c ≠ d) :
    Calls Tryz.prog 217 #[.pointer (some ⟨g, 0, none⟩), .agg #[.int .i64 a, .int .i64 b, .int .i64 c, .int .i64 d]] w fun e w' => e = .returned (.tuple #[]) ∧ KOw .u32 w' g (qr V a b c d) ∧ But g w.heap.size w w' := by
  have hgl := h.lt
  have q0 : Q4 (w.alloc (.cells #[.int .i64 a, .int .i64 b, .int .i64 c, .int .i64 d] 208)).drew g V a b c d _ _ _ _ := ⟨(h.below (ab (Below.refl _ w) (.cells #[.int .i64 a, .int .i64 b, .int .i64 c, .int .i64 d] 208)) h.lt).drew, by omega, by omega, by omega, by omega, hab, hac, had, hbc, hbd, hcd, rfl, rfl, rfl, rfl⟩
  have B0 : But g w.heap.size w (w.alloc (.cells #[.int .i64 a, .int .i64 b, .int .i64 c, .int .i64 d] 208)).drew := (But.of_below (ab (Below.refl _ w) (.cells #[.int .i64 a, .int .i64 b, .int .i64 c, .int .i64 d] 208))).drewN 1
  have HQ := Shut.mk (show qr V a b c d = put4 V a b c d (wholeQ (V.getD a 0) (V.getD b 0) (V.getD c 0) (V.getD d 0)) from rfl)
  have H8 := fun x1 u1 z1 y1 x2 u2 z2 y2 => Shut.mk (eight_sets V a b c d x1 u1 z1 y1 x2 u2 z2 y2 hbc hbd hcd)
  have z0 : w.heap.size < (w.alloc (.cells #[.int .i64 a, .int .i64 b, .int .i64 c, .int .i64 d] 208)).drew.heap.size := by simp
  generalize V.getD a 0 = va at *
  generalize V.getD b 0 = vb at *
  generalize V.getD c 0 = vc at *
  generalize V.getD d 0 = vd at *
  generalize qr V a b c d = VQ at *
  clear h hV hab hac had hbc hbd hcd hgl
  go_enter Tryz.func217, Tryz.ntmps217
  go_wp2
  go_region
  generalize (w.alloc (.cells #[.int .i64 a, .int .i64 b, .int .i64 c, .int .i64 d] 208)).drew = w0 at *
  go_wp2_with fail
  refine (step_any g V a b c d va vb vc vd 16 w0 q0 (by omega) ha hb hd).mono ?_
  rintro e w1 ⟨rfl, q1, b1⟩
  have B1 := B0.trans (b1.mono (Nat.le_of_lt z0))
  have z1 := Nat.lt_of_lt_of_le z0 b1.size
  clear q0 B0 b1 z0
  obtain ⟨x1, hx1⟩ : ∃ x, addW va vb = x := ⟨_, rfl⟩
  rw [hx1] at q1
  obtain ⟨u1, hu1⟩ : ∃ x, turn (xorW vd x1) 16 = x := ⟨_, rfl⟩
  rw [hu1] at q1
  have q1' := q1.rot.rot
  go_wp2_with fail
  refine (step_any g _ c d a b vc u1 x1 vb 12 w1 q1' (by omega) hc hd hb).mono ?_
  rintro e w2 ⟨rfl, q2, b2⟩
  have B2 := B1.trans (b2.mono (Nat.le_of_lt z1))
  have z2 := Nat.lt_of_lt_of_le z1 b2.size
  clear q1 q1' B1 b2 z1
  obtain ⟨y1, hy1⟩ : ∃ x, addW vc u1 = x := ⟨_, rfl⟩
  rw [hy1] at q2
  obtain ⟨v1, hv1⟩ : ∃ x, turn (xorW vb y1) 12 = x := ⟨_, rfl⟩
  rw [hv1] at q2
  have q2' := q2.rot.rot
  go_wp2_with fail
  refine (step_any g _ a b c d x1 v1 y1 u1 8 w2 q2' (by omega) ha hb hd).mono ?_
  rintro e w3 ⟨rfl, q3, b3⟩
  have B3 := B2.trans (b3.mono (Nat.le_of_lt z2))
  have z3 := Nat.lt_of_lt_of_le z2 b3.size
  clear q2 q2' B2 b3 z2
  obtain ⟨x2, hx2⟩ : ∃ x, addW x1 v1 = x := ⟨_, rfl⟩
  rw [hx2] at q3
  obtain ⟨u2, hu2⟩ : ∃ x, turn (xorW u1 x2) 8 = x := ⟨_, rfl⟩
  rw [hu2] at q3
  have q3' := q3.rot.rot
  go_wp2_with fail
  refine (step_any g _ c d a b y1 u2 x2 v1 7 w3 q3' (by omega) hc hd hb).mono ?_
  rintro e w4 ⟨rfl, q4, b4⟩
  have B4 := B3.trans (b4.mono (Nat.le_of_lt z3))
  obtain ⟨y2, hy2⟩ : ∃ x, addW y1 u2 = x := ⟨_, rfl⟩
  rw [hy2] at q4
  obtain ⟨v2, hv2⟩ : ∃ x, turn (xorW v1 y2) 7 = x := ⟨_, rfl⟩
  rw [hv2] at q4
  have k := q4.k
  rw [(H8 _ _ _ _ _ _ _ _).out] at k
  have hq : wholeQ va vb vc vd = (x2, v2, y2, u2) := by
    rw [← hv2, ← hy2, ← hu2, ← hx2, ← hv1, ← hy1, ← hu1, ← hx1]
    rfl
  rw [← hq, ← HQ.out] at k
  have K := Shut.mk k
  have B := Shut.mk B4
  clear k B4 b4 hq q3 q3' q4 hv2 hy2 hu2 hx2 hv1 hy1 hu1 hx1
  go_wp2
  go_end0
  exact ⟨rfl, K.out, B.out⟩
end Go.Proofs.YtabhcolfkkfonaaGreatDoor

/-! WlowP -/
/- The words of a key, of the program: a range over slices.Chunk. -/
namespace Go.Proofs.YtabhcolfkkfonaaGreatDoor
open Go.RowKit Go.Shelf

attribute [local go_sem] Oper.semAt_some

/-- the words that have come -/
def wordsOf (l : List Int) {n : Nat} (pre : List (Pc4 n)) : List Int := pre.map fun p => wlo l p.1
theorem wordsOf_snoc (l : List Int) {n : Nat} (pre : List (Pc4 n)) (x : Pc4 n) : wordsOf l (pre ++ [x]) = wordsOf l pre ++ [wlo l x.1] := by simp [wordsOf]
theorem wordsOf_all (l : List Int) {n : Nat} (pre : List (Pc4 n)) (q : Nat) (h : pre.map (·.1) = List.range q) : wordsOf l pre = wordsLow l q := by
  unfold wordsOf wordsLow
  rw [← h, List.map_map]
  rfl

theorem KRow.lower {w : World} {B C : Nat} {v : Value} {l : List Int} (h : KRow w B v l) (hC : C ≤ B) : KRow w C v l := by
  refine ⟨⟨h.own.1, ?_⟩⟩
  rcases h.own.2 with h0 | ⟨g, cap, cur, e, hB, r⟩
  · exact .inl h0
  · exact .inr ⟨g, cap, cur, e, by omega, r⟩
theorem keepsOthers_bel {W W' : World} (h : Below W.heap.size W W') : KeepsOthers W W' := ⟨h.size, fun k _ hk _ => (h.block k (Array.getElem?_eq_some_iff.1 hk).1).trans hk⟩

set_option maxRecDepth 100000 in
/-- a word put behind a row of words, as one step of a region inside a fence -/
theorem stepIn_krow_append {F : Fence} {n : Nat} {ops : Array Oper} {o : Oper} {a : Act} {K : Act → World → Prop} {Q : Exit → Act → World → Prop} {E : Prop} (hgd : o.guard = none) (s x : Operand)
    (ho : o.op = .call { callee := .builtin .append, args := #[s, x], argTypes := #[180, 180] })
    (w : World) (B : Nat) (v : Value) (l : List Int) (hs : a.eval s = v) (hrow : KRow w B v l) (hB : B ≤ w.heap.size)
    (ad : Addr) (c : Nat) (X : Int) (hx : a.eval x = .slice (some ad) 1 c) (hcell : ∀ j u, [Value.int .u32 X][j]? = some u → w.cell? (ad.add j) = some u) (hlen : l.length ≤ 1000000)
    (h : ∀ g c' w', KRow w' B (.slice (some ⟨g, 0, none⟩) (l.length + 1) c') (l ++ [X]) → Below B w w' → w.heap.size ≤ w'.heap.size → KeepsOthers w w' → K (a.put o.dst (.slice (some ⟨g, 0, none⟩) (l.length + 1) c')) w') :
    if Region.wanted o (yielded ops a.tmps) = true then Oper.wpIn F n Tryz.prog o a w K Q else E := by
  have hw : Region.wanted o (yielded ops a.tmps) = true := by simp [Region.wanted, hgd]
  rw [if_pos hw]
  obtain ⟨i0, hi, hz0, hz1, hz2⟩ := info_parts info_u32
  obtain ⟨v', w', hrun, hown, hgrow, _⟩ := run_append_own (P := Tryz.prog) w B 180 o.type 158 i0 (.int .u32 0) 1 4 Tryz.underlying180 hi hz0 hz1 hz2 rfl (by decide) v l.length _ hrow.own ad 1 c [.int .u32 X] rfl hcell (by simp [Value.oneCell']) (by unfold maxLen; omega) (by omega) hB
  obtain ⟨g, c', rfl⟩ := ownsRow_succ hown
  have hK := h g c' w' ⟨by simpa using hown⟩ ⟨hgrow.os, hgrow.tape, hgrow.output, hgrow.size, fun k hk => hgrow.block k (by omega) (fun e => by have := (hrow.own.lt k e.symm).1; omega)⟩ hgrow.size (KeepsOthers.of_grownBy hgrow fun j o ej hj => by
    rcases hrow.own.2 with ⟨e0, _⟩ | ⟨g1, cap, cur, e0, _, hgb, _⟩
    · rw [e0] at ej; simp [Value.ownBlock] at ej
    · rw [e0] at ej
      obtain rfl : g1 = j := by simpa [Value.ownBlock] using ej
      rw [hgb] at hj; cases hj; rfl)
  unfold Oper.wpIn
  refine ⟨?_, ?_⟩
  · simp [Oper.about, ho, resolve, Target.leads, Sem.run_pure]
  · rw [Oper.semAt_plain F _ _ (by rw [ho]; intro c hc'; cases hc')]
    simp [execOp, ho, resolve, invoke, builtin, hs, hx, hrun, Result.andThen]
    exact hK

set_option maxRecDepth 100000 in
set_option maxHeartbeats 4000000 in
theorem wordsLow_in (F : Fence) (n : Nat) (hall : ∀ f, F.fn f) (hlift : ∀ (k : Nat) (f : FuncId) (args : Array Value) (W : World) (R : Ending → World → Prop), Calls Tryz.prog f args W R → CallsIn F k Tryz.prog f args W R) (hro : F.round = none) (hn : 4 ≤ n)
    (b off m c k : Nat) (l : List Int) (w : World) (h : Bs w (some ⟨b, off, none⟩) m l) (hm : m = 4 * k) (hk : k ≤ 100) (hc : m ≤ c) :
    CallsIn F n Tryz.prog 238 #[.slice (some ⟨b, off, none⟩) m c] w fun e w' => (∃ v, e = .returned v ∧ KRow w' w.heap.size v (wordsLow l k)) ∧ Below w.heap.size w w' := by
  have h1 : 1 ≤ n := by omega
  have Hm := Shut.mk hm
  have hm4 : m ≤ 400 := by omega
  clear hm
  refine callsIn_of_wp_marks Tryz.func238 rfl (hall _) ?_ hro
  simp only [Tryz.ntmps238, List.size_toArray, List.length_cons, List.length_nil, Nat.reduceAdd, Nat.reduceSub, Array.replicate_succ, Array.replicate_zero, List.push_toArray, List.append_toArray, List.nil_append, List.cons_append]
  gi_wp2_with (gi_at_call 179; refine (Chunk4_in F (n - 1) (hall _) hro _ _ _ _).mono ?_; rintro e w' ⟨rfl, rfl⟩)
  obtain ⟨hX, hY, hbx, W4b, z4⟩ : (((w.alloc (.cells #[.slice none 0 0] 180)).alloc (.cells #[.slice (some ⟨b, off, none⟩) m c] 22)).alloc (.cells #[.int .i64 4] 3)).cell? ⟨w.heap.size + 1, 0, none⟩ = some (.slice (some ⟨b, off, none⟩) m c) ∧
      (((w.alloc (.cells #[.slice none 0 0] 180)).alloc (.cells #[.slice (some ⟨b, off, none⟩) m c] 22)).alloc (.cells #[.int .i64 4] 3)).cell? ⟨w.heap.size + 1 + 1, 0, none⟩ = some (.int .i64 4) ∧
      Boxed (((w.alloc (.cells #[.slice none 0 0] 180)).alloc (.cells #[.slice (some ⟨b, off, none⟩) m c] 22)).alloc (.cells #[.int .i64 4] 3)) w.heap.size 180 (.slice none 0 0) ∧
      Below w.heap.size w (((w.alloc (.cells #[.slice none 0 0] 180)).alloc (.cells #[.slice (some ⟨b, off, none⟩) m c] 22)).alloc (.cells #[.int .i64 4] 3)) ∧
      (((w.alloc (.cells #[.slice none 0 0] 180)).alloc (.cells #[.slice (some ⟨b, off, none⟩) m c] 22)).alloc (.cells #[.int .i64 4] 3)).heap.size = w.heap.size + 3 := by
    have a1 := one_new (w.alloc (.cells #[.slice none 0 0] 180)) (.slice (some ⟨b, off, none⟩) m c) 22
    have a2 := one_new ((w.alloc (.cells #[.slice none 0 0] 180)).alloc (.cells #[.slice (some ⟨b, off, none⟩) m c] 22)) (.int .i64 4) 3
    simp only [World.size_alloc] at a1 a2
    exact ⟨cell_past _ a1.1, a2.1, ((Boxed.new w _ _).alloc _).alloc _, ab (ab (ab (Below.refl _ _) _) _) _, by simp⟩
  have h4 := h.below W4b
  generalize ((w.alloc (.cells #[.slice none 0 0] 180)).alloc (.cells #[.slice (some ⟨b, off, none⟩) m c] 22)).alloc (.cells #[.int .i64 4] 3) = w4 at *
  refine wpIn_rangeFunc_ownF hro h1 (gf := 204) (lb := #[.pointer (some ⟨w.heap.size + 1, 0, none⟩), .pointer (some ⟨w.heap.size + 1 + 1, 0, none⟩)]) rfl (hall _) (enters_of Tryz.func204 (by kernel_rfl) rfl)
    (Chunk4_stops F (n - 1) (hall _) hro (by omega) (w.heap.size + 1) (w.heap.size + 1 + 1) w.heap.size b off m c (some ⟨b, off, none⟩) (fun _ => rfl) hc (by omega) w4 hX hY)
    (fun {A B C} => Kd4.trans) (fun W2 l2 o o' hle ho h1 h2 => ⟨belowK_b (w := w) (Nat.le_refl _) W2 l2 o o' (by omega) ho h1 h2, putObj_other W2 l2 o' _ (by omega), putObj_other W2 l2 o' _ (by omega)⟩) (Below.refl _ _) (fun _ => rfl)
    (fun pre W => ((∃ v, Boxed W w.heap.size 180 v ∧ W.ownsRow (w.heap.size + 3) 158 1 v pre.length ((wordsOf l pre).map (Value.int .u32)) ∧ True) ∧ w.heap.size + 3 ≤ W.heap.size) ∧ Below w.heap.size w W)
    (fun _ _ _ => False)
    (OwnFrom.and (OwnFrom.and (Own.from (holdsRow_own (w.heap.size + 3) w.heap.size 180 158 1 (fun pre => pre.length) (fun pre => (wordsOf l pre).map (Value.int .u32)) (fun _ _ => True)) _) (fun _ A B _ hs hg _ => Nat.le_trans hs hg.size)) (ownFrom_below (Nat.le_refl _) (by omega)))
    (fun _ _ _ _ _ hs _ _ => hs)
    ⟨⟨⟨.slice none 0 0, hbx, World.ownsRow_nil .., trivial⟩, by omega⟩, W4b⟩
    (fun x => { tmps := #[.slice (some ⟨b, off, none⟩) m c, undef, .slice none 0 0, .pointer (some ⟨w.heap.size, 0, none⟩), .slice (some ⟨b, off + 4 * x.1, none⟩) (len4 m x.1) (len4 m x.1), .slice (some ⟨b, off, none⟩) m c, .func (.func 204) #[] #[.pointer (some ⟨w.heap.size + 1, 0, none⟩), .pointer (some ⟨w.heap.size + 1 + 1, 0, none⟩)], .slice (some ⟨b, off + 4 * x.1, none⟩) (len4 m x.1) (len4 m x.1), undef, undef, undef, undef, undef, undef], defers := [] }) ?assign ?body ?done ?stop
  case assign =>
    intro lp x W K hK
    simp only [pcArgs4]
    gi_wp2
    exact hK
  case body =>
    rintro lp pre x W ⟨⟨⟨v, hv, hrow, _⟩, hz⟩, hB⟩ hpre
    obtain ⟨xk, hxk⟩ := x
    have hl4 : len4 m xk = 4 := if_pos (by have := Hm.out; omega)
    simp only [hl4]
    have hp := (h.below hB).part_ (4 * xk) 4 (by have := Hm.out; omega)
    have hsn := wordsOf_snoc l pre ⟨xk, hxk⟩
    have hwl : (wordsOf l pre).length = pre.length := by simp [wordsOf]
    have hkr : KRow W (w.heap.size + 3) v (wordsOf l pre) := ⟨by rw [hwl]; exact hrow⟩
    have HX : Shut (lo ((l.drop (4 * xk)).take 4) = wlo l xk) := ⟨rfl⟩
    have hc1 := hv.cell
    have hf1 := hv.frozen
    have hvl := hv.lt
    have hd1 : 1 ≤ n - 1 - 1 := by omega
    have G := Shut.mk (joinLowW_any (some ⟨b, off + 4 * xk, none⟩) 4 4 _ W.drew (hp.below (Below.refl _ W).drew) (Nat.le_refl _))
    rw [HX.out] at G
    dsimp only at hsn
    rw [← hwl] at hpre
    generalize wlo l xk = X at *
    generalize wordsOf l pre = Lw at *
    have HSn := Shut.mk hsn
    have HWl := Shut.mk hwl
    clear hsn hwl hl4 HX hrow hp
    gi_wp2
    refine region_round lp hro (by kernel_rfl) (by kernel_rfl) ?_
    have fin : ∀ (g2 c2 : Nat) (w1 w2 : World), Below W.drew.heap.size W.drew w1 → KRow w2 (w.heap.size + 3) (.slice (some ⟨g2, 0, none⟩) (Lw.length + 1) c2) (Lw ++ [X]) → Below (w.heap.size + 3) (w1.alloc (.cells #[.int .u32 X] 158)) w2 → (w1.alloc (.cells #[.int .u32 X] 158)).heap.size ≤ w2.heap.size → KeepsOthers (w1.alloc (.cells #[.int .u32 X] 158)) w2 →
        KeepsOthers W (w2.setCell ⟨w.heap.size, 0, none⟩ (.slice (some ⟨g2, 0, none⟩) (Lw.length + 1) c2)) ∧ Kd4 w.heap.size (w.heap.size + 1) (w.heap.size + 1 + 1) W (w2.setCell ⟨w.heap.size, 0, none⟩ (.slice (some ⟨g2, 0, none⟩) (Lw.length + 1) c2)) ∧
        ((∃ v, Boxed (w2.setCell ⟨w.heap.size, 0, none⟩ (.slice (some ⟨g2, 0, none⟩) (Lw.length + 1) c2)) w.heap.size 180 v ∧ (w2.setCell ⟨w.heap.size, 0, none⟩ (.slice (some ⟨g2, 0, none⟩) (Lw.length + 1) c2)).ownsRow (w.heap.size + 3) 158 1 v (pre ++ [(⟨xk, hxk⟩ : Pc4 m)]).length ((wordsOf l (pre ++ [(⟨xk, hxk⟩ : Pc4 m)])).map (Value.int .u32)) ∧ True) ∧ w.heap.size + 3 ≤ (w2.setCell ⟨w.heap.size, 0, none⟩ (.slice (some ⟨g2, 0, none⟩) (Lw.length + 1) c2)).heap.size) ∧ Below w.heap.size w (w2.setCell ⟨w.heap.size, 0, none⟩ (.slice (some ⟨g2, 0, none⟩) (Lw.length + 1) c2)) := by
      intro g2 c2 w1 w2 b1 hr2 hb2 hs2 hko
      have b1' : Below W.heap.size W w1 := (Below.refl W.heap.size W).drew.trans b1
      have s1 := b1'.size
      have b2' : Below (w.heap.size + 3) W w2 := ((b1'.mono hz).trans ((Below.refl _ w1).alloc (by omega) _)).trans hb2
      have b2 := b2'
      have hv2 : Boxed w2 w.heap.size 180 v := (b2.block _ (by omega)).trans hv
      refine ⟨(((keepsOthers_bel b1').trans (KeepsOthers.alloc _ _)).trans hko).trans (KeepsOthers.setCell _ _ _), ⟨(b2.mono (show w.heap.size ≤ w.heap.size + 3 by omega)).setCell (p := ⟨w.heap.size, 0, none⟩) (Nat.le_refl _) _, ?_, ?_⟩, ⟨⟨_, hv2.set _, ?_, trivial⟩, ?_⟩, (hB.trans (b2.mono (show w.heap.size ≤ w.heap.size + 3 by omega))).setCell (p := ⟨w.heap.size, 0, none⟩) (Nat.le_refl _) _⟩
      · exact (Below.heap_setCell w2 ⟨w.heap.size, 0, none⟩ _ _ (by simp; try omega)).trans (b2.block _ (by omega))
      · exact (Below.heap_setCell w2 ⟨w.heap.size, 0, none⟩ _ _ (by simp; try omega)).trans (b2.block _ (by omega))
      · have hl2 : (Lw ++ [X]).length = (pre ++ [(⟨xk, hxk⟩ : Pc4 m)]).length := by rw [List.length_append, List.length_append, HWl.out]; rfl
        have ho := hr2.own
        rw [HSn.out, ← hl2]
        have e1 : Lw.length + 1 = (Lw ++ [X]).length := by simp
        rw [← e1] at ho ⊢
        exact ho.kept (grownBy_setCell' w2 _ _) (.inr fun e => by have := (ho.lt g2 (by simp [Value.ownBlock])).1; simp [Value.ownBlock] at e; omega)
      · simp only [World.size_setCell]
        have := hs2
        simp only [World.size_alloc] at this
        omega
    refine wpAnyIn_take (i := 1) (v := .slice (some ⟨b, off + 4 * xk, none⟩) 4 4) hro rfl (by kernel_rfl) (by kernel_rfl) (by kernel_rfl) (fun _ _ _ h => h) ?_ ?_
    · exact ⟨Or.inl ⟨by rfl, fun w => by go_simp⟩, fun _ => rfl⟩
    go_simp
    refine wpAnyIn_ready (rs := [0, 2]) (by kernel_rfl) (by simp) (AllReadyIn.cons rfl (fun K hK => ?_) (AllReadyIn.cons rfl (fun K hK => ?_) AllReadyIn.nil))
    · go_simp
      refine hK _ _ ?_
      clear hK K
      refine wpAnyIn_ready (rs := [2]) (by kernel_rfl) (by simp) (AllReadyIn.cons rfl (fun K hK => ?_) AllReadyIn.nil)
      go_simp
      gi_wp2_with (gi_at_call 240; refine (hlift _ _ _ _ _ G.out).mono ?_; rintro e w1 ⟨rfl, b1⟩)
      try clear hK K
      have hs1 := b1.size
      have hcw : w1.cell? ⟨w.heap.size, 0, none⟩ = some v := (b1.cell (p := ⟨w.heap.size, 0, none⟩) hvl).trans hc1
      have hfw : w1.frozen? ⟨w.heap.size, 0, none⟩ = false := (World.frozen?_of_block (a := ⟨w.heap.size, 0, none⟩) (b1.block _ hvl)).trans hf1
      have hr1 := hkr.keep (w' := w1) (fun g _ h2 => b1.block g h2)
      have hz1 := Nat.le_trans hz hs1
      have hvl1 : w.heap.size < w1.heap.size := by omega
      have hca := cell_past (.cells #[.int .u32 X] 158) hcw
      have hfa := frozen_past (.cells #[.int .u32 X] 158) hcw hfw
      refine wpAnyIn_ready (rs := [3]) (by kernel_rfl) (by simp) (AllReadyIn.cons rfl (fun K hK => ?_) AllReadyIn.nil)
      go_simp
      refine hK _ _ ?_
      clear hK K
      refine wpAnyIn_ready (rs := [4]) (by kernel_rfl) (by simp) (AllReadyIn.cons rfl (fun K hK => ?_) AllReadyIn.nil)
      refine stepIn_krow_append rfl _ _ rfl _ (w.heap.size + 3) v Lw rfl (hr1.alloc _) (by simp; omega) ⟨w1.heap.size, 0, none⟩ 1 X rfl (cell_one w1 _ _) (by omega) ?_
      intro g2 c2 w2 hr2 hb2 hs2 hko2
      refine hK _ _ ?_
      clear hK K
      have hcx := (hb2.cell (p := ⟨w.heap.size, 0, none⟩) (by simp)).trans hca
      have hfx := (World.frozen?_of_block (a := ⟨w.heap.size, 0, none⟩) (hb2.block w.heap.size (by omega))).trans hfa
      refine wpAnyIn_ready (rs := [5]) (by kernel_rfl) (by simp) (AllReadyIn.cons rfl (fun K hK => ?_) AllReadyIn.nil)
      go_simp
      refine hK _ _ ?_
      clear hK K
      refine wpAnyIn_done (by kernel_rfl) ?_ _
      exact fin g2 c2 w1 w2 b1 hr2 hb2 hs2 hko2
    · go_simp
      gi_wp2_with (gi_at_call 240; refine (hlift _ _ _ _ _ G.out).mono ?_; rintro e w1 ⟨rfl, b1⟩)
      try clear hK K
      have hs1 := b1.size
      have hcw : w1.cell? ⟨w.heap.size, 0, none⟩ = some v := (b1.cell (p := ⟨w.heap.size, 0, none⟩) hvl).trans hc1
      have hfw : w1.frozen? ⟨w.heap.size, 0, none⟩ = false := (World.frozen?_of_block (a := ⟨w.heap.size, 0, none⟩) (b1.block _ hvl)).trans hf1
      have hr1 := hkr.keep (w' := w1) (fun g _ h2 => b1.block g h2)
      have hz1 := Nat.le_trans hz hs1
      have hvl1 : w.heap.size < w1.heap.size := by omega
      have hca := cell_past (.cells #[.int .u32 X] 158) hcw
      have hfa := frozen_past (.cells #[.int .u32 X] 158) hcw hfw
      refine wpAnyIn_ready (rs := [0, 3]) (by kernel_rfl) (by simp) (AllReadyIn.cons rfl (fun K hK => ?_) (AllReadyIn.cons rfl (fun K hK => ?_) AllReadyIn.nil))
      · go_simp
        refine hK _ _ ?_
        clear hK K
        refine wpAnyIn_ready (rs := [3]) (by kernel_rfl) (by simp) (AllReadyIn.cons rfl (fun K hK => ?_) AllReadyIn.nil)
        go_simp
        refine hK _ _ ?_
        clear hK K
        refine wpAnyIn_ready (rs := [4]) (by kernel_rfl) (by simp) (AllReadyIn.cons rfl (fun K hK => ?_) AllReadyIn.nil)
        refine stepIn_krow_append rfl _ _ rfl _ (w.heap.size + 3) v Lw rfl (hr1.alloc _) (by simp; omega) ⟨w1.heap.size, 0, none⟩ 1 X rfl (cell_one w1 _ _) (by omega) ?_
        intro g2 c2 w2 hr2 hb2 hs2 hko2
        refine hK _ _ ?_
        clear hK K
        have hcx := (hb2.cell (p := ⟨w.heap.size, 0, none⟩) (by simp)).trans hca
        have hfx := (World.frozen?_of_block (a := ⟨w.heap.size, 0, none⟩) (hb2.block w.heap.size (by omega))).trans hfa
        refine wpAnyIn_ready (rs := [5]) (by kernel_rfl) (by simp) (AllReadyIn.cons rfl (fun K hK => ?_) AllReadyIn.nil)
        go_simp
        refine hK _ _ ?_
        clear hK K
        refine wpAnyIn_done (by kernel_rfl) ?_ _
        exact fin g2 c2 w1 w2 b1 hr2 hb2 hs2 hko2
      · go_simp
        refine hK _ _ ?_
        clear hK K
        refine wpAnyIn_ready (rs := [0]) (by kernel_rfl) (by simp) (AllReadyIn.cons rfl (fun K hK => ?_) AllReadyIn.nil)
        go_simp
        refine hK _ _ ?_
        clear hK K
        refine wpAnyIn_ready (rs := [4]) (by kernel_rfl) (by simp) (AllReadyIn.cons rfl (fun K hK => ?_) AllReadyIn.nil)
        refine stepIn_krow_append rfl _ _ rfl _ (w.heap.size + 3) v Lw rfl (hr1.alloc _) (by simp; omega) ⟨w1.heap.size, 0, none⟩ 1 X rfl (cell_one w1 _ _) (by omega) ?_
        intro g2 c2 w2 hr2 hb2 hs2 hko2
        refine hK _ _ ?_
        clear hK K
        have hcx := (hb2.cell (p := ⟨w.heap.size, 0, none⟩) (by simp)).trans hca
        have hfx := (World.frozen?_of_block (a := ⟨w.heap.size, 0, none⟩) (hb2.block w.heap.size (by omega))).trans hfa
        refine wpAnyIn_ready (rs := [5]) (by kernel_rfl) (by simp) (AllReadyIn.cons rfl (fun K hK => ?_) AllReadyIn.nil)
        go_simp
        refine hK _ _ ?_
        clear hK K
        refine wpAnyIn_done (by kernel_rfl) ?_ _
        exact fin g2 c2 w1 w2 b1 hr2 hb2 hs2 hko2
  case done =>
    rintro D ys W hD hys ⟨⟨⟨v, hv, hrow, _⟩, hz⟩, hB⟩ hK
    obtain ⟨q, hq1, hq2, hq3⟩ := hys
    have hqk : q = k := by
      have := Hm.out
      by_cases h0 : 0 < q
      · have := hq3 h0; omega
      · omega
    have hlen : ys.length = q := by rw [← List.length_map (f := fun p : Pc4 m => p.1), hq1, List.length_range]
    rw [wordsOf_all l ys q hq1, hlen, hqk] at hrow
    have hc1 := hv.cell
    gi_wp2
    refine ⟨by simp, .inl ⟨_, _, rfl, run_takeDeferred hK, ?_⟩⟩
    refine ⟨_, results_tmp rfl _ _ _, ⟨v, rfl, ?_⟩, hB.trans (belowK_b (w := w) (Nat.le_refl _) W D _ _ (by omega) hK rfl rfl)⟩
    have ho := ownsRow_putObj hrow (.deferred none) hK rfl
    have hkr : KRow (W.putObj D (.deferred none)) (w.heap.size + 3) v (wordsLow l k) := ⟨by rw [wordsLow_len]; exact ho⟩
    exact hkr.lower (by omega)
  case stop =>
    rintro D c pre W _ _ h _
    exact h.elim
end Go.Proofs.YtabhcolfkkfonaaGreatDoor

/-! SixP -/
/- Sixteen words as an array's box holds them (gen_six.py). -/
namespace Go.Proofs.YtabhcolfkkfonaaGreatDoor
open Go.RowKit

theorem list16 (l : List Int) (h : l.length = 16) : ∃ a0 a1 a2 a3 a4 a5 a6 a7 a8 a9 a10 a11 a12 a13 a14 a15, l = [a0, a1, a2, a3, a4, a5, a6, a7, a8, a9, a10, a11, a12, a13, a14, a15] := by
  match l, h with
  | [a0, a1, a2, a3, a4, a5, a6, a7, a8, a9, a10, a11, a12, a13, a14, a15], _ => exact ⟨_, _, _, _, _, _, _, _, _, _, _, _, _, _, _, _, rfl⟩
theorem set16 {w : World} {g : Nat} {l : List Int} (hl : l.length = 16) (h : KOw .u32 w g l) (a0 a1 a2 a3 a4 a5 a6 a7 a8 a9 a10 a11 a12 a13 a14 a15 : Int) :
    KOw .u32 ((((((((((((((((w.setCell ⟨g, 0, none⟩ (.int .u32 a0)).setCell ⟨g, 1, none⟩ (.int .u32 a1)).setCell ⟨g, 2, none⟩ (.int .u32 a2)).setCell ⟨g, 3, none⟩ (.int .u32 a3)).setCell ⟨g, 4, none⟩ (.int .u32 a4)).setCell ⟨g, 5, none⟩ (.int .u32 a5)).setCell ⟨g, 6, none⟩ (.int .u32 a6)).setCell ⟨g, 7, none⟩ (.int .u32 a7)).setCell ⟨g, 8, none⟩ (.int .u32 a8)).setCell ⟨g, 9, none⟩ (.int .u32 a9)).setCell ⟨g, 10, none⟩ (.int .u32 a10)).setCell ⟨g, 11, none⟩ (.int .u32 a11)).setCell ⟨g, 12, none⟩ (.int .u32 a12)).setCell ⟨g, 13, none⟩ (.int .u32 a13)).setCell ⟨g, 14, none⟩ (.int .u32 a14)).setCell ⟨g, 15, none⟩ (.int .u32 a15)) g [a0, a1, a2, a3, a4, a5, a6, a7, a8, a9, a10, a11, a12, a13, a14, a15] := by
  obtain ⟨x0, x1, x2, x3, x4, x5, x6, x7, x8, x9, x10, x11, x12, x13, x14, x15, rfl⟩ := list16 l hl
  have h0 := h.set_ 0 (by simp) a0
  have h1 := h0.set_ 1 (by simp) a1
  have h2 := h1.set_ 2 (by simp) a2
  have h3 := h2.set_ 3 (by simp) a3
  have h4 := h3.set_ 4 (by simp) a4
  have h5 := h4.set_ 5 (by simp) a5
  have h6 := h5.set_ 6 (by simp) a6
  have h7 := h6.set_ 7 (by simp) a7
  have h8 := h7.set_ 8 (by simp) a8
  have h9 := h8.set_ 9 (by simp) a9
  have h10 := h9.set_ 10 (by simp) a10
  have h11 := h10.set_ 11 (by simp) a11
  have h12 := h11.set_ 12 (by simp) a12
  have h13 := h12.set_ 13 (by simp) a13
  have h14 := h13.set_ 14 (by simp) a14
  have h15 := h14.set_ 15 (by simp) a15
  simp only [List.set_cons_succ, List.set_cons_zero] at h15
  exact h15
theorem below16 {w : World} {B g : Nat} {W : World} (h : Below B W w) (hB : B ≤ g) (v0 v1 v2 v3 v4 v5 v6 v7 v8 v9 v10 v11 v12 v13 v14 v15 : Value) : Below B W ((((((((((((((((w.setCell ⟨g, 0, none⟩ v0).setCell ⟨g, 1, none⟩ v1).setCell ⟨g, 2, none⟩ v2).setCell ⟨g, 3, none⟩ v3).setCell ⟨g, 4, none⟩ v4).setCell ⟨g, 5, none⟩ v5).setCell ⟨g, 6, none⟩ v6).setCell ⟨g, 7, none⟩ v7).setCell ⟨g, 8, none⟩ v8).setCell ⟨g, 9, none⟩ v9).setCell ⟨g, 10, none⟩ v10).setCell ⟨g, 11, none⟩ v11).setCell ⟨g, 12, none⟩ v12).setCell ⟨g, 13, none⟩ v13).setCell ⟨g, 14, none⟩ v14).setCell ⟨g, 15, none⟩ v15) := by
  have h0 := h.setCell (p := ⟨g, 0, none⟩) hB v0
  have h1 := h0.setCell (p := ⟨g, 1, none⟩) hB v1
  have h2 := h1.setCell (p := ⟨g, 2, none⟩) hB v2
  have h3 := h2.setCell (p := ⟨g, 3, none⟩) hB v3
  have h4 := h3.setCell (p := ⟨g, 4, none⟩) hB v4
  have h5 := h4.setCell (p := ⟨g, 5, none⟩) hB v5
  have h6 := h5.setCell (p := ⟨g, 6, none⟩) hB v6
  have h7 := h6.setCell (p := ⟨g, 7, none⟩) hB v7
  have h8 := h7.setCell (p := ⟨g, 8, none⟩) hB v8
  have h9 := h8.setCell (p := ⟨g, 9, none⟩) hB v9
  have h10 := h9.setCell (p := ⟨g, 10, none⟩) hB v10
  have h11 := h10.setCell (p := ⟨g, 11, none⟩) hB v11
  have h12 := h11.setCell (p := ⟨g, 12, none⟩) hB v12
  have h13 := h12.setCell (p := ⟨g, 13, none⟩) hB v13
  have h14 := h13.setCell (p := ⟨g, 14, none⟩) hB v14
  have h15 := h14.setCell (p := ⟨g, 15, none⟩) hB v15
  exact h15
structure Full16 (w : World) (g : Nat) (a0 a1 a2 a3 a4 a5 a6 a7 a8 a9 a10 a11 a12 a13 a14 a15 : Int) : Prop where
  c0 : w.cell? ⟨g, 0, none⟩ = some (.int .u32 a0)
  c1 : w.cell? ⟨g, 1, none⟩ = some (.int .u32 a1)
  c2 : w.cell? ⟨g, 2, none⟩ = some (.int .u32 a2)
  c3 : w.cell? ⟨g, 3, none⟩ = some (.int .u32 a3)
  c4 : w.cell? ⟨g, 4, none⟩ = some (.int .u32 a4)
  c5 : w.cell? ⟨g, 5, none⟩ = some (.int .u32 a5)
  c6 : w.cell? ⟨g, 6, none⟩ = some (.int .u32 a6)
  c7 : w.cell? ⟨g, 7, none⟩ = some (.int .u32 a7)
  c8 : w.cell? ⟨g, 8, none⟩ = some (.int .u32 a8)
  c9 : w.cell? ⟨g, 9, none⟩ = some (.int .u32 a9)
  c10 : w.cell? ⟨g, 10, none⟩ = some (.int .u32 a10)
  c11 : w.cell? ⟨g, 11, none⟩ = some (.int .u32 a11)
  c12 : w.cell? ⟨g, 12, none⟩ = some (.int .u32 a12)
  c13 : w.cell? ⟨g, 13, none⟩ = some (.int .u32 a13)
  c14 : w.cell? ⟨g, 14, none⟩ = some (.int .u32 a14)
  c15 : w.cell? ⟨g, 15, none⟩ = some (.int .u32 a15)
  f0 : w.frozen? ⟨g, 0, none⟩ = false
  f1 : w.frozen? ⟨g, 1, none⟩ = false
  f2 : w.frozen? ⟨g, 2, none⟩ = false
  f3 : w.frozen? ⟨g, 3, none⟩ = false
  f4 : w.frozen? ⟨g, 4, none⟩ = false
  f5 : w.frozen? ⟨g, 5, none⟩ = false
  f6 : w.frozen? ⟨g, 6, none⟩ = false
  f7 : w.frozen? ⟨g, 7, none⟩ = false
  f8 : w.frozen? ⟨g, 8, none⟩ = false
  f9 : w.frozen? ⟨g, 9, none⟩ = false
  f10 : w.frozen? ⟨g, 10, none⟩ = false
  f11 : w.frozen? ⟨g, 11, none⟩ = false
  f12 : w.frozen? ⟨g, 12, none⟩ = false
  f13 : w.frozen? ⟨g, 13, none⟩ = false
  f14 : w.frozen? ⟨g, 14, none⟩ = false
  f15 : w.frozen? ⟨g, 15, none⟩ = false
theorem KOw.full16 {w : World} {g : Nat} {a0 a1 a2 a3 a4 a5 a6 a7 a8 a9 a10 a11 a12 a13 a14 a15 : Int} (h : KOw .u32 w g [a0, a1, a2, a3, a4, a5, a6, a7, a8, a9, a10, a11, a12, a13, a14, a15]) : Full16 w g a0 a1 a2 a3 a4 a5 a6 a7 a8 a9 a10 a11 a12 a13 a14 a15 :=
  ⟨h.cell 0 (by simp), h.cell 1 (by simp), h.cell 2 (by simp), h.cell 3 (by simp), h.cell 4 (by simp), h.cell 5 (by simp), h.cell 6 (by simp), h.cell 7 (by simp), h.cell 8 (by simp), h.cell 9 (by simp), h.cell 10 (by simp), h.cell 11 (by simp), h.cell 12 (by simp), h.cell 13 (by simp), h.cell 14 (by simp), h.cell 15 (by simp), h.frozen 0, h.frozen 1, h.frozen 2, h.frozen 3, h.frozen 4, h.frozen 5, h.frozen 6, h.frozen 7, h.frozen 8, h.frozen 9, h.frozen 10, h.frozen 11, h.frozen 12, h.frozen 13, h.frozen 14, h.frozen 15⟩
theorem kow16 (w : World) (a0 a1 a2 a3 a4 a5 a6 a7 a8 a9 a10 a11 a12 a13 a14 a15 : Int) (t : TypeId) : KOw .u32 (w.alloc (.cells #[.int .u32 a0, .int .u32 a1, .int .u32 a2, .int .u32 a3, .int .u32 a4, .int .u32 a5, .int .u32 a6, .int .u32 a7, .int .u32 a8, .int .u32 a9, .int .u32 a10, .int .u32 a11, .int .u32 a12, .int .u32 a13, .int .u32 a14, .int .u32 a15] t)) w.heap.size [a0, a1, a2, a3, a4, a5, a6, a7, a8, a9, a10, a11, a12, a13, a14, a15] := (KB.new (t := t) w [a0, a1, a2, a3, a4, a5, a6, a7, a8, a9, a10, a11, a12, a13, a14, a15] _ rfl).kow

theorem wordsLow_any (b off m c k : Nat) (l : List Int) (w : World) (h : Bs w (some ⟨b, off, none⟩) m l) (hm : m = 4 * k) (hk : k ≤ 100) (hc : m ≤ c) :
    Calls Tryz.prog 238 #[.slice (some ⟨b, off, none⟩) m c] w fun e w' => (∃ v, e = .returned v ∧ KRow w' w.heap.size v (wordsLow l k)) ∧ Below w.heap.size w w' :=
  (callsIn_wide (n := 4)).1 (wordsLow_in Fence.wide 4 (fun _ => trivial) (fun _ _ _ _ _ hc => callsIn_wide.2 hc) rfl (by omega) b off m c k l w h hm hk hc)
end Go.Proofs.YtabhcolfkkfonaaGreatDoor
