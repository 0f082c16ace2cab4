/- The tag of a key and data, of the program: a range over slices.Chunk. -/
import Derived.Test.YtabhcolfkkfonaaGreatDoorChunk16P
import Derived.Test.YtabhcolfkkfonaaGreatDoorRoundP
import Derived.Test.YtabhcolfkkfonaaGreatDoorTimX
import Derived.Stop.RegionWithIn
namespace Go.Proofs.YtabhcolfkkfonaaGreatDoor
open Go.RowKit Go.Shelf

attribute [local go_sem] Oper.semAt_some

/-- what stands behind the pieces that have come -/
def accOf (r : Int) (l : List Int) {n : Nat} (pre : List (Pc16 n)) : Int := pre.foldl (fun A p => (A + polyBlk l p.1) * r % pp) 0
theorem accOf_snoc (r : Int) (l : List Int) {n : Nat} (pre : List (Pc16 n)) (x : Pc16 n) : accOf r l (pre ++ [x]) = (accOf r l pre + polyBlk l x.1) * r % pp := by simp [accOf]
theorem accOf_bd (r : Int) (l : List Int) {n : Nat} (pre : List (Pc16 n)) : 0 ≤ accOf r l pre ∧ accOf r l pre < pp := by
  rcases List.eq_nil_or_concat pre with rfl | ⟨pre, x, rfl⟩
  · simp [accOf, pp]
  · rw [List.concat_eq_append, accOf_snoc]
    exact ⟨Int.emod_nonneg _ (by decide), Int.emod_lt_of_pos _ (by decide)⟩
theorem accOf_all (r : Int) (l : List Int) {n : Nat} (pre : List (Pc16 n)) (q : Nat) (h : pre.map (·.1) = List.range q) : accOf r l pre = polyAcc r l q := by
  have h1 : accOf r l pre = (pre.map (·.1)).foldl (fun A (k : Nat) => (A + polyBlk l k) * r % pp) 0 := by
    unfold accOf
    rw [List.foldl_map]
  rw [h1, h]
  have key : ∀ k : Nat, (List.range k).foldl (fun A (k : Nat) => (A + polyBlk l k) * r % pp) 0 = polyAcc r l k := by
    intro k
    induction k with
    | zero => rfl
    | succ k ih => rw [List.range_succ, List.foldl_append, ih]; rfl
  exact key q

/-- five limbs in a box -/
def Lb (W : World) (g : Nat) (N : Int) : Prop := ∃ D0 D1 D2 D3 D4, W.heap[g]? = some (.cells #[.int .u64 D0, .int .u64 D1, .int .u64 D2, .int .u64 D3, .int .u64 D4] 212 (0, 0)) ∧ [D0, D1, D2, D3, D4] = limbs N
theorem Lb.lt {W : World} {g : Nat} {N : Int} (h : Lb W g N) : g < W.heap.size := by
  obtain ⟨_, _, _, _, _, h, _⟩ := h
  exact (Array.getElem?_eq_some_iff.1 h).1
theorem Lb.keep {W W' : World} {g : Nat} {N : Int} (h : Lb W g N) (e : W'.heap[g]? = W.heap[g]?) : Lb W' g N := by
  obtain ⟨D0, D1, D2, D3, D4, h, h2⟩ := h
  exact ⟨D0, D1, D2, D3, D4, e.trans h, h2⟩
theorem Lb.own (g : Nat) {β : Type} (f : β → Int) : Own (fun s W => Lb W g (f s)) := fun s A B row hs hg hr => by
  obtain ⟨D0, D1, D2, D3, D4, h, h2⟩ := hs
  refine ⟨D0, D1, D2, D3, D4, ?_, h2⟩
  refine (hg.block g (Array.getElem?_eq_some_iff.1 h).1 (fun e => ?_)).trans h
  obtain ⟨o, ho, hc⟩ := hr g e.symm
  rw [h] at ho
  injection ho with ho
  subst ho
  cases hc
theorem Lb.new (W : World) (D0 D1 D2 D3 D4 N : Int) (h : [D0, D1, D2, D3, D4] = limbs N) : Lb (W.alloc (.cells #[.int .u64 D0, .int .u64 D1, .int .u64 D2, .int .u64 D3, .int .u64 D4] 212)) W.heap.size N := ⟨_, _, _, _, _, heap_alloc_new W _, h⟩
/-- the cells of such a box -/
theorem Lb.cells {W : World} {g : Nat} {N : Int} (h : Lb W g N) (h0 : 0 ≤ N) (h1 : N < 1361129467683753853853498429727072845824) : ∃ D0 D1 D2 D3 D4, KOw .u64 W g [D0, D1, D2, D3, D4] ∧ [D0, D1, D2, D3, D4] = limbs N ∧ (0 ≤ D0 ∧ D0 < 67108864) ∧ (0 ≤ D1 ∧ D1 < 67108864) ∧ (0 ≤ D2 ∧ D2 < 67108864) ∧ (0 ≤ D3 ∧ D3 < 67108864) ∧ (0 ≤ D4 ∧ D4 < 67108864) := by
  obtain ⟨D0, D1, D2, D3, D4, hh, e⟩ := h
  obtain ⟨a, b, c, d, f, e2, ha, hb, hc, hd, hf⟩ := limbs_bd N h0 h1
  rw [e2] at e
  injection e with e0 e
  injection e with e1 e
  injection e with e3 e
  injection e with e4 e
  injection e with e5 _
  subst e0 e1 e3 e4 e5
  exact ⟨_, _, _, _, _, (show KB .u64 212 W g [_, _, _, _, _] from hh).kow, e2.symm, ha, hb, hc, hd, hf⟩

theorem lowOf_off (x y : Int) : lowOf (x + y * 1361129467683753853853498429727072845824) 16 = lowOf x 16 := by
  have l16 : ∀ n : Int, lowOf n 16 = [n % 256, n / 256 % 256, n / 65536 % 256, n / 16777216 % 256, n / 4294967296 % 256, n / 1099511627776 % 256, n / 281474976710656 % 256, n / 72057594037927936 % 256, n / 18446744073709551616 % 256, n / 4722366482869645213696 % 256, n / 1208925819614629174706176 % 256, n / 309485009821345068724781056 % 256, n / 79228162514264337593543950336 % 256, n / 20282409603651670423947251286016 % 256, n / 5192296858534827628530496329220096 % 256, n / 1329227995784915872903807060280344576 % 256] := fun n => by
    simp [lowOf, List.range, List.range.loop]
  rw [l16, l16]
  simp only [List.cons.injEq, and_true]
  refine ⟨?_, ?_, ?_, ?_, ?_, ?_, ?_, ?_, ?_, ?_, ?_, ?_, ?_, ?_, ?_, ?_⟩ <;> omega
theorem limbs_of5 {N a b c d e : Int} (h0 : 0 ≤ N) (h1 : N < 1361129467683753853853498429727072845824) (h : [a, b, c, d, e] = limbs N) : (0 ≤ a ∧ a < 67108864) ∧ (0 ≤ b ∧ b < 67108864) ∧ (0 ≤ c ∧ c < 67108864) ∧ (0 ≤ d ∧ d < 67108864) ∧ (0 ≤ e ∧ e < 67108864) := by
  obtain ⟨a', b', c', d', f', e2, ha, hb, hc, hd, hf⟩ := limbs_bd N h0 h1
  rw [e2] at h
  injection h with e0 h
  injection h with e1 h
  injection h with e3 h
  injection h with e4 h
  injection h with e5 _
  subst e0 e1 e3 e4 e5
  exact ⟨ha, hb, hc, hd, hf⟩
theorem piece_take (l : List Int) (m t : Nat) (h : l.length = m) : (l.drop (16 * t)).take (len16 m t) = (l.drop (16 * t)).take 16 := by
  unfold len16
  split
  · rfl
  · rw [List.take_of_length_le (by rw [List.length_drop, h]; omega), List.take_of_length_le (by rw [List.length_drop, h]; omega)]
theorem val5_sum (a b c d e f g x y z : Int) : val5 [a + f, b + g, c + x, d + y, e + z] = val5 [a, b, c, d, e] + val5 [f, g, x, y, z] := by
  simp only [val5, List.getD_cons_zero, List.getD_cons_succ]
  omega
theorem tag_low2 {a b c d e f g x y z D0 D1 D2 D3 D4 O A M : Int} (h : Cut5 (val5 [a + f, b + g, c + x, d + y, e + z]) D0 D1 D2 D3 D4 O) (h1 : [a, b, c, d, e] = limbs A) (h2 : [f, g, x, y, z] = limbs M) :
    lowOf (val5 [D0, D1, D2, D3, D4]) 16 = lowOf (A + M) 16 := by
  obtain ⟨e1, _, _⟩ := cut_val _ _ _ _ _ _ _ h
  rw [val5_sum, h1, h2, limbs_val, limbs_val] at e1
  rw [e1, lowOf_off]
/-- a region from which no panic comes -/
def OnlyNormal (Q : Exit → Act → World → Prop) : Exit → Act → World → Prop
  | .normal, a, w => Q .normal a w
  | _, _, _ => False
theorem wpIn_only {F : Fence} {n : Nat} {P : Program} {c : Code} {Q : Exit → Act → World → Prop} {a : Act} {w : World} (h : c.wpIn F n P (OnlyNormal Q) a w) : c.wpIn F n P Q a w :=
  wpIn_mono h (fun e a w hq => by cases e <;> first | exact hq | exact hq.elim)
theorem setkb5 {w : World} {g : Nat} {a b c d e : Int} (h : KB .u64 212 w g [a, b, c, d, e]) (T0 T1 T2 T3 T4 : Int) :
    KB .u64 212 (((((w.setCell ⟨g, 0, none⟩ (.int .u64 T0)).setCell ⟨g, 1, none⟩ (.int .u64 T1)).setCell ⟨g, 2, none⟩ (.int .u64 T2)).setCell ⟨g, 3, none⟩ (.int .u64 T3)).setCell ⟨g, 4, none⟩ (.int .u64 T4)) g [T0, T1, T2, T3, T4] := by
  have := ((((h.set_ 0 T0).set_ 1 T1).set_ 2 T2).set_ 3 T3).set_ 4 T4
  exact this
theorem sets_far (w : World) (g k : Nat) (hk : k ≠ g) (v0 v1 v2 v3 v4 : Value) : (((((w.setCell ⟨g, 0, none⟩ v0).setCell ⟨g, 1, none⟩ v1).setCell ⟨g, 2, none⟩ v2).setCell ⟨g, 3, none⟩ v3).setCell ⟨g, 4, none⟩ v4).heap[k]? = w.heap[k]? := by
  have e : ∀ (W : World) (i : Nat) (v : Value), (W.setCell ⟨g, i, none⟩ v).heap[k]? = W.heap[k]? := fun W i v => Below.heap_setCell W ⟨g, i, none⟩ v k hk
  rw [e, e, e, e, e]
theorem sets_keep (w : World) (g : Nat) (v0 v1 v2 v3 v4 : Value) : KeepsOthers w (((((w.setCell ⟨g, 0, none⟩ v0).setCell ⟨g, 1, none⟩ v1).setCell ⟨g, 2, none⟩ v2).setCell ⟨g, 3, none⟩ v3).setCell ⟨g, 4, none⟩ v4) :=
  ((((KeepsOthers.setCell _ _ _).trans (KeepsOthers.setCell _ _ _)).trans (KeepsOthers.setCell _ _ _)).trans (KeepsOthers.setCell _ _ _)).trans (KeepsOthers.setCell _ _ _)
theorem keepsOthers_be {W W' : World} (h : Below W.heap.size W W') : KeepsOthers W W' := ⟨h.size, fun k _ hk _ => (h.block k (Array.getElem?_eq_some_iff.1 hk).1).trans hk⟩

set_option maxRecDepth 100000 in
set_option maxHeartbeats 8000000 in
theorem polyTag_in (F : Fence) (n : Nat) (hall : ∀ f, F.fn f) (hlift : ∀ (k : Nat) (f : FuncId) (args : Array Value) (W : World) (R : Ending → World → Prop), Calls Tryz.prog f args W R → CallsIn F k Tryz.prog f args W R) (hro : F.round = none) (hn : 4 ≤ n)
    (b off c : Nat) (key : List Int) (A2 : Option Addr) (m c2 : Nat) (data : List Int) (w : World) (hk : Bs w (some ⟨b, off, none⟩) 32 key) (hc : 32 ≤ c) (hd : Bs w A2 m data) (hm : m ≤ 100000) (hc2 : m ≤ c2) :
    CallsIn F n Tryz.prog 197 #[.slice (some ⟨b, off, none⟩) 32 c, .slice A2 m c2] w fun e w' => (∃ g c', e = .returned (.slice (some ⟨g, 0, none⟩) 16 c') ∧ Row w' w.heap.size (.slice (some ⟨g, 0, none⟩) 16 c') (polyTag key data)) ∧ Below w.heap.size w w' := by
  have h1 : 1 ≤ n := by omega
  obtain ⟨b2, off2, hA2⟩ : ∃ b2 off2, 0 < m → A2 = some ⟨b2, off2, none⟩ := by
    by_cases h0 : 0 < m
    · obtain ⟨x, y, e, _⟩ := hd.at_ h0
      exact ⟨x, y, fun _ => e⟩
    · exact ⟨0, 0, fun h => absurd h h0⟩
  have hp0 := hk.part_ 0 16 (by omega)
  rw [Nat.add_zero, List.drop_zero] at hp0
  have HT : Shut (polyTag key data = lowOf (polyAcc (lo (clampL (key.take 16))) data ((data.length + 15) / 16) + lo (key.drop 16)) 16) := ⟨rfl⟩
  have hdl := hd.len
  have hcb : By (clampL (key.take 16)) := by unfold clampL; exact clampB_byte _ hp0.byte _
  have hcl : (clampL (key.take 16)).length = 16 := by unfold clampL; rw [clampB_len]; exact hp0.len
  have hr := lo_bd _ hcb
  rw [hcl] at hr
  have G1 := Shut.mk (fun W (hW : Bs W (some ⟨b, off, none⟩) 16 (key.take 16)) => clamped_any b off c (key.take 16) W hW)
  have G2 := Shut.mk (fun (A : Option Addr) (d : Nat) W (hW : Bs W A 16 (clampL (key.take 16))) => numberOf_any A 16 d (clampL (key.take 16)) 0 W hW (by omega) (by omega))
  have hz : lo (clampL (key.take 16) ++ [0]) = lo (clampL (key.take 16)) := by rw [lo_snoc]; omega
  rw [hz] at G2
  generalize clampL (key.take 16) = CL at *
  obtain ⟨r, hrr⟩ : ∃ r, r = lo CL := ⟨_, rfl⟩
  rw [← hrr] at hr G2 HT
  generalize polyTag key data = PT at *
  have hr1 : r < 1361129467683753853853498429727072845824 := by
    have := hr.2
    have e : (256 : Int) ^ 16 = 340282366920938463463374607431768211456 := by decide
    omega
  have hr0 := hr.1
  clear hr hrr hz hcb hcl
  refine callsIn_of_wp_marks Tryz.func197 rfl (hall _) ?_ hro
  simp only [Tryz.ntmps197, List.size_toArray, List.length_cons, List.length_nil, Nat.reduceAdd, Nat.reduceSub, Array.replicate_succ, Array.replicate_zero, List.push_toArray, List.append_toArray, List.nil_append, List.cons_append]
  gi_wp2_with (first | (gi_at_call 220; refine (hlift _ _ _ _ _ (G1.out _ hp0)).mono ?_; rintro e w1 ⟨⟨g1, d1, rfl, hg1, ow1⟩, b1⟩) | (gi_at_call 219; refine (hlift _ _ _ _ _ (G2.out _ _ _ ow1.bs)).mono ?_; rintro e w2 ⟨⟨R0, R1, R2, R3, R4, rfl, hRL⟩, b2'⟩) | (gi_at_call 179; refine (Chunk16_in F (n - 1) (hall _) hro _ _ _ _).mono ?_; rintro e w' ⟨rfl, rfl⟩))
  have B2 := ac b1 b2'
  obtain ⟨hX, hY, lr, ls, W4b, z4⟩ : ((((w2.alloc (.cells #[.int .u64 R0, .int .u64 R1, .int .u64 R2, .int .u64 R3, .int .u64 R4] 212)).alloc (.cells #[.int .u64 0, .int .u64 0, .int .u64 0, .int .u64 0, .int .u64 0] 212)).alloc (.cells #[.slice A2 m c2] 22)).alloc (.cells #[.int .i64 16] 3)).cell? ⟨w2.heap.size + 1 + 1, 0, none⟩ = some (.slice A2 m c2) ∧ ((((w2.alloc (.cells #[.int .u64 R0, .int .u64 R1, .int .u64 R2, .int .u64 R3, .int .u64 R4] 212)).alloc (.cells #[.int .u64 0, .int .u64 0, .int .u64 0, .int .u64 0, .int .u64 0] 212)).alloc (.cells #[.slice A2 m c2] 22)).alloc (.cells #[.int .i64 16] 3)).cell? ⟨w2.heap.size + 1 + 1 + 1, 0, none⟩ = some (.int .i64 16) ∧
      Lb ((((w2.alloc (.cells #[.int .u64 R0, .int .u64 R1, .int .u64 R2, .int .u64 R3, .int .u64 R4] 212)).alloc (.cells #[.int .u64 0, .int .u64 0, .int .u64 0, .int .u64 0, .int .u64 0] 212)).alloc (.cells #[.slice A2 m c2] 22)).alloc (.cells #[.int .i64 16] 3)) w2.heap.size r ∧ Lb ((((w2.alloc (.cells #[.int .u64 R0, .int .u64 R1, .int .u64 R2, .int .u64 R3, .int .u64 R4] 212)).alloc (.cells #[.int .u64 0, .int .u64 0, .int .u64 0, .int .u64 0, .int .u64 0] 212)).alloc (.cells #[.slice A2 m c2] 22)).alloc (.cells #[.int .i64 16] 3)) (w2.heap.size + 1) 0 ∧ Below w2.heap.size w2 ((((w2.alloc (.cells #[.int .u64 R0, .int .u64 R1, .int .u64 R2, .int .u64 R3, .int .u64 R4] 212)).alloc (.cells #[.int .u64 0, .int .u64 0, .int .u64 0, .int .u64 0, .int .u64 0] 212)).alloc (.cells #[.slice A2 m c2] 22)).alloc (.cells #[.int .i64 16] 3)) ∧ ((((w2.alloc (.cells #[.int .u64 R0, .int .u64 R1, .int .u64 R2, .int .u64 R3, .int .u64 R4] 212)).alloc (.cells #[.int .u64 0, .int .u64 0, .int .u64 0, .int .u64 0, .int .u64 0] 212)).alloc (.cells #[.slice A2 m c2] 22)).alloc (.cells #[.int .i64 16] 3)).heap.size = w2.heap.size + 4 := by
    have a1 := one_new ((w2.alloc (.cells #[.int .u64 R0, .int .u64 R1, .int .u64 R2, .int .u64 R3, .int .u64 R4] 212)).alloc (.cells #[.int .u64 0, .int .u64 0, .int .u64 0, .int .u64 0, .int .u64 0] 212)) (.slice A2 m c2) 22
    have a2 := one_new (((w2.alloc (.cells #[.int .u64 R0, .int .u64 R1, .int .u64 R2, .int .u64 R3, .int .u64 R4] 212)).alloc (.cells #[.int .u64 0, .int .u64 0, .int .u64 0, .int .u64 0, .int .u64 0] 212)).alloc (.cells #[.slice A2 m c2] 22)) (.int .i64 16) 3
    simp only [World.size_alloc] at a1 a2
    have l1 := Lb.new w2 R0 R1 R2 R3 R4 r hRL
    have l2 := Lb.new (w2.alloc (.cells #[.int .u64 R0, .int .u64 R1, .int .u64 R2, .int .u64 R3, .int .u64 R4] 212)) 0 0 0 0 0 0 rfl
    rw [World.size_alloc] at l2
    refine ⟨cell_past _ a1.1, a2.1, ((l1.keep (Below.heap_alloc _ _ _ l1.lt)).keep (Below.heap_alloc _ _ _ (by simp; omega))).keep (Below.heap_alloc _ _ _ (by simp; omega)), (l2.keep (Below.heap_alloc _ _ _ l2.lt)).keep (Below.heap_alloc _ _ _ (by simp)), ab (ab (ab (ab (Below.refl _ _) _) _) _) _, by simp⟩
  have B4 := ac B2 W4b
  have hzw : w.heap.size ≤ w2.heap.size := B2.size
  generalize (((w2.alloc (.cells #[.int .u64 R0, .int .u64 R1, .int .u64 R2, .int .u64 R3, .int .u64 R4] 212)).alloc (.cells #[.int .u64 0, .int .u64 0, .int .u64 0, .int .u64 0, .int .u64 0] 212)).alloc (.cells #[.slice A2 m c2] 22)).alloc (.cells #[.int .i64 16] 3) = w4 at *
  clear b1 b2' ow1 G1 G2 hp0
  generalize w2.heap.size = p at *
  refine wpIn_rangeFunc_ownF hro h1 (gf := 204) (lb := #[.pointer (some ⟨p + 1 + 1, 0, none⟩), .pointer (some ⟨p + 1 + 1 + 1, 0, none⟩)]) rfl (hall _) (enters_of Tryz.func204 (by kernel_rfl) rfl)
    (Chunk16_stops F (n - 1) (hall _) hro (by omega) (p + 1 + 1) (p + 1 + 1 + 1) w.heap.size b2 off2 m c2 A2 hA2 hc2 (by omega) w4 hX hY)
    (fun {A B C} => Kd16.trans) (fun W2 l2 o o' hle ho h1 h2 => ⟨belowK_b (w := w) (Nat.le_refl _) W2 l2 o o' (by omega) ho h1 h2, putObj_other W2 l2 o' _ (by omega), putObj_other W2 l2 o' _ (by omega)⟩) (Below.refl _ _) (fun _ => rfl)
    (fun pre W => ((Lb W p r ∧ Lb W (p + 1) (accOf r data pre)) ∧ p + 4 ≤ W.heap.size) ∧ Below w.heap.size w W)
    (fun _ _ _ => False)
    (OwnFrom.and (OwnFrom.and (Own.from (fun s A B row hs hg hr => ⟨Lb.own p (fun _ => r) s A B row hs.1 hg hr, Lb.own (p + 1) (fun pre => accOf r data pre) s A B row hs.2 hg hr⟩) _) (fun _ A B _ hs hg _ => Nat.le_trans hs hg.size)) (ownFrom_below (Nat.le_refl _) (by omega)))
    (fun _ _ _ _ _ hs _ _ => hs)
    ⟨⟨⟨lr, ls⟩, by omega⟩, B4⟩
    (fun x => { tmps := #[.slice (some ⟨b, off, none⟩) 32 c, .slice A2 m c2, undef, undef, .slice none 0 0, .pointer (some ⟨p, 0, none⟩), .pointer (some ⟨p + 1, 0, none⟩), .slice (some ⟨b2, off2 + 16 * x.1, none⟩) (len16 m x.1) (len16 m x.1), undef, undef, .slice (some ⟨b, off, none⟩) 32 c, .slice (some ⟨b, off, none⟩) 16 c, .slice (some ⟨g1, 0, none⟩) 16 d1, .agg #[.int .u64 R0, .int .u64 R1, .int .u64 R2, .int .u64 R3, .int .u64 R4], .slice A2 m c2, .func (.func 204) #[] #[.pointer (some ⟨p + 1 + 1, 0, none⟩), .pointer (some ⟨p + 1 + 1 + 1, 0, none⟩)], .slice (some ⟨b2, off2 + 16 * x.1, none⟩) (len16 m x.1) (len16 m x.1), undef, undef, undef, undef, undef, undef, undef, undef, undef, undef, undef, undef, undef, undef, undef, undef, undef], defers := [] }) ?assign ?body ?done ?stop
  case assign =>
    intro lp x W K hK
    simp only [pcArgs16]
    gi_wp2
    exact hK
  case body =>
    rintro lp pre x W ⟨⟨⟨lr, ls⟩, hz⟩, hB⟩ hpre
    obtain ⟨xk, hxk⟩ := x
    obtain ⟨ha0, ha1⟩ := accOf_bd r data pre
    have hpp : accOf r data pre < 1361129467683753853853498429727072845824 := by unfold pp at ha1; omega
    have lsb := ls
    obtain ⟨S0, S1, S2, S3, S4, hls, hSL, hs0, hs1, hs2, hs3, hs4⟩ := ls.cells ha0 hpp
    obtain ⟨R0, R1, R2, R3, R4, hlr, hRL, hr00, hr01, hr02, hr03, hr04⟩ := lr.cells hr0 hr1
    have hsn := accOf_snoc r data pre ⟨xk, hxk⟩
    have hA := hA2 (by omega)
    have hl16 : len16 m xk ≤ 16 := by unfold len16; split <;> omega
    have hdB := hd.below hB
    rw [hA] at hdB
    have hpt := hdB.part_ (16 * xk) (len16 m xk) (by unfold len16; split <;> omega)
    rw [piece_take data m xk hdl] at hpt
    have hM := polyBlk_bd data hd.byte xk
    have G3 := Shut.mk (numberOf_any (some ⟨b2, off2 + 16 * xk, none⟩) (len16 m xk) (len16 m xk) _ 1 W.drew (hpt.below (Below.refl _ W).drew) hl16 (by omega))
    have hd1 : 1 ≤ n - 1 - 1 := by omega
    dsimp only at hsn ⊢
    rw [show lo ((data.drop (16 * xk)).take 16 ++ [1]) = polyBlk data xk from rfl] at G3
    obtain ⟨hM0, hM1⟩ := hM
    obtain ⟨AN, hAN⟩ : ∃ AN, AN = accOf r data (pre ++ [⟨xk, hxk⟩]) := ⟨_, rfl⟩
    rw [← hAN] at hsn
    have HAN : Shut ((accOf r data pre + polyBlk data xk) * r % pp = AN) := ⟨hsn.symm⟩
    have fin : ∀ (T0 T1 T2 T3 T4 : Int) (w3 : World), Below W.drew.heap.size W.drew w3 → [T0, T1, T2, T3, T4] = limbs AN →
        KeepsOthers W (((((w3.setCell ⟨p + 1, 0, none⟩ (.int .u64 T0)).setCell ⟨p + 1, 1, none⟩ (.int .u64 T1)).setCell ⟨p + 1, 2, none⟩ (.int .u64 T2)).setCell ⟨p + 1, 3, none⟩ (.int .u64 T3)).setCell ⟨p + 1, 4, none⟩ (.int .u64 T4)) ∧ Kd16 w.heap.size (p + 1 + 1) (p + 1 + 1 + 1) W (((((w3.setCell ⟨p + 1, 0, none⟩ (.int .u64 T0)).setCell ⟨p + 1, 1, none⟩ (.int .u64 T1)).setCell ⟨p + 1, 2, none⟩ (.int .u64 T2)).setCell ⟨p + 1, 3, none⟩ (.int .u64 T3)).setCell ⟨p + 1, 4, none⟩ (.int .u64 T4)) ∧ ((Lb (((((w3.setCell ⟨p + 1, 0, none⟩ (.int .u64 T0)).setCell ⟨p + 1, 1, none⟩ (.int .u64 T1)).setCell ⟨p + 1, 2, none⟩ (.int .u64 T2)).setCell ⟨p + 1, 3, none⟩ (.int .u64 T3)).setCell ⟨p + 1, 4, none⟩ (.int .u64 T4)) p r ∧ Lb (((((w3.setCell ⟨p + 1, 0, none⟩ (.int .u64 T0)).setCell ⟨p + 1, 1, none⟩ (.int .u64 T1)).setCell ⟨p + 1, 2, none⟩ (.int .u64 T2)).setCell ⟨p + 1, 3, none⟩ (.int .u64 T3)).setCell ⟨p + 1, 4, none⟩ (.int .u64 T4)) (p + 1) (accOf r data (pre ++ [(⟨xk, hxk⟩ : Pc16 m)]))) ∧ p + 4 ≤ ((((((w3.setCell ⟨p + 1, 0, none⟩ (.int .u64 T0)).setCell ⟨p + 1, 1, none⟩ (.int .u64 T1)).setCell ⟨p + 1, 2, none⟩ (.int .u64 T2)).setCell ⟨p + 1, 3, none⟩ (.int .u64 T3)).setCell ⟨p + 1, 4, none⟩ (.int .u64 T4))).heap.size) ∧ Below w.heap.size w (((((w3.setCell ⟨p + 1, 0, none⟩ (.int .u64 T0)).setCell ⟨p + 1, 1, none⟩ (.int .u64 T1)).setCell ⟨p + 1, 2, none⟩ (.int .u64 T2)).setCell ⟨p + 1, 3, none⟩ (.int .u64 T3)).setCell ⟨p + 1, 4, none⟩ (.int .u64 T4)) := by
      intro T0 T1 T2 T3 T4 w3 b3 hTL
      rw [hAN] at hTL
      have b3' : Below W.heap.size W w3 := (Below.refl W.heap.size W).drew.trans b3
      have hw := hB.size
      have lslt := lsb.lt
      obtain ⟨_, _, _, _, _, hcs, _⟩ := lsb
      have hls3 := setkb5 (show KB .u64 212 w3 (p + 1) [_, _, _, _, _] from (b3'.block _ lslt).trans hcs) T0 T1 T2 T3 T4
      have lr3 := (lr.keep (b3'.block _ lr.lt)).keep (sets_far w3 (p + 1) p (by omega) (.int .u64 T0) (.int .u64 T1) (.int .u64 T2) (.int .u64 T3) (.int .u64 T4))
      refine ⟨(keepsOthers_be b3').trans (sets_keep _ _ _ _ _ _ _), ⟨below5 (b3'.mono (Nat.le_trans hw (Nat.le_refl _))) (by omega) _ _ _ _ _, (sets_far _ _ _ (by omega) _ _ _ _ _).trans (b3'.block _ (by omega)), (sets_far _ _ _ (by omega) _ _ _ _ _).trans (b3'.block _ (by omega))⟩, ⟨⟨lr3, ⟨T0, T1, T2, T3, T4, hls3, hTL⟩⟩, ?_⟩, below5 (hB.trans (b3'.mono hw)) (by omega) _ _ _ _ _⟩
      have := b3'.size
      simp only [World.size_setCell]
      omega
    clear hsn hAN hpt hdB hpp ha1 ls lr
    generalize accOf r data pre = AC at *
    generalize polyBlk data xk = MB at *
    obtain ⟨c0, c1, c2', c3, c4, _⟩ := hls.full5
    obtain ⟨d0, d1, d2, d3, d4, _⟩ := hlr.full5
    generalize len16 m xk = lx at *
    gi_wp2
    refine region_round lp hro (by kernel_rfl) (by kernel_rfl) ?_
    refine wpAnyIn_take (i := 1) (v := .slice (some ⟨b2, off2 + 16 * xk, none⟩) lx lx) hro rfl (by kernel_rfl) (by kernel_rfl) (by kernel_rfl) (fun _ _ _ h => h) ?_ ?_
    · exact ⟨Or.inl ⟨by rfl, fun w => by go_simp⟩, fun _ => rfl⟩
    go_simp
    refine wpAnyIn_ready (rs := [0, 2, 4]) (by kernel_rfl) (by simp) (AllReadyIn.cons rfl (fun K hK => ?_) (AllReadyIn.cons rfl (fun K hK => ?_) (AllReadyIn.cons rfl (fun K hK => ?_) AllReadyIn.nil)))
    · go_simp
      refine hK _ _ ?_
      clear hK K
      refine wpAnyIn_ready (rs := [2, 4]) (by kernel_rfl) (by simp) (AllReadyIn.cons rfl (fun K hK => ?_) (AllReadyIn.cons rfl (fun K hK => ?_) AllReadyIn.nil))
      · go_simp
        gi_wp2_with (gi_at_call 219; refine (hlift _ _ _ _ _ G3.out).mono ?_; rintro e w1 ⟨⟨M0, M1, M2, M3, M4, rfl, hML⟩, b1⟩)
        try clear hK K
        obtain ⟨m0, m1, m2, m3, m4⟩ := limbs_of5 hM0 hM1 hML
        have s1 := hls.drew.below b1 (show p + 1 < W.drew.heap.size from hls.lt)
        have r1 := hlr.drew.below b1 (show p < W.drew.heap.size from hlr.lt)
        obtain ⟨e0, e1, e2, e3, e4, e5, e6, e7, e8, e9⟩ := s1.full5
        obtain ⟨f0, f1, f2, f3, f4, _⟩ := r1.full5
        refine wpAnyIn_ready (rs := [3, 4]) (by kernel_rfl) (by simp) (AllReadyIn.cons rfl (fun K hK => ?_) (AllReadyIn.cons rfl (fun K hK => ?_) AllReadyIn.nil))
        · go_simp
          gi_wp2_with (gi_at_call 221; refine (hlift _ _ _ _ _ (plus_any S0 S1 S2 S3 S4 M0 M1 M2 M3 M4 w1 (by omega) (by omega) (by omega) (by omega) (by omega))).mono ?_; rintro e w2 ⟨rfl, b2⟩)
          try clear hK K
          have s2 := s1.below b2 s1.lt
          have r2 := r1.below b2 r1.lt
          obtain ⟨g0, g1, g2, g3, g4, g5, g6, g7, g8, g9⟩ := s2.full5
          obtain ⟨i0, i1, i2, i3, i4, _⟩ := r2.full5
          have hval : limbs (val5 [S0 + M0, S1 + M1, S2 + M2, S3 + M3, S4 + M4] * val5 [R0, R1, R2, R3, R4] % pp) = limbs AN := by rw [val5_sum, hSL, limbs_val, hML, limbs_val, hRL, limbs_val, HAN.out]
          refine wpAnyIn_ready (rs := [4]) (by kernel_rfl) (by simp) (AllReadyIn.cons rfl (fun K hK => ?_) AllReadyIn.nil)
          go_simp
          refine hK _ _ ?_
          clear hK K
          refine wpAnyIn_ready (rs := [5]) (by kernel_rfl) (by simp) (AllReadyIn.cons rfl (fun K hK => ?_) AllReadyIn.nil)
          go_simp
          gi_wp2_with (gi_at_call 222; refine (hlift _ _ _ _ _ (times_any (S0 + M0) (S1 + M1) (S2 + M2) (S3 + M3) (S4 + M4) R0 R1 R2 R3 R4 w2 (by omega) (by omega) (by omega) (by omega) (by omega) (by omega) (by omega) (by omega) (by omega) (by omega))).mono ?_; rintro e w3 ⟨⟨T0, T1, T2, T3, T4, rfl, hTL⟩, b3⟩)
          try clear hK K
          rw [hval] at hTL
          have s3 := s2.below b3 s2.lt
          obtain ⟨j0, j1, j2, j3, j4, j5, j6, j7, j8, j9⟩ := s3.full5
          refine wpAnyIn_ready (rs := [6]) (by kernel_rfl) (by simp) (AllReadyIn.cons rfl (fun K hK => ?_) AllReadyIn.nil)
          go_simp
          refine hK _ _ ?_
          clear hK K
          refine wpAnyIn_done (by kernel_rfl) ?_ _
          exact fin T0 T1 T2 T3 T4 w3 ((b1.trans (b2.mono b1.size)).trans (b3.mono (Nat.le_trans b1.size b2.size))) hTL
        · go_simp
          refine hK _ _ ?_
          clear hK K
          refine wpAnyIn_ready (rs := [3]) (by kernel_rfl) (by simp) (AllReadyIn.cons rfl (fun K hK => ?_) AllReadyIn.nil)
          go_simp
          gi_wp2_with (gi_at_call 221; refine (hlift _ _ _ _ _ (plus_any S0 S1 S2 S3 S4 M0 M1 M2 M3 M4 w1 (by omega) (by omega) (by omega) (by omega) (by omega))).mono ?_; rintro e w2 ⟨rfl, b2⟩)
          try clear hK K
          have s2 := s1.below b2 s1.lt
          have r2 := r1.below b2 r1.lt
          obtain ⟨g0, g1, g2, g3, g4, g5, g6, g7, g8, g9⟩ := s2.full5
          obtain ⟨i0, i1, i2, i3, i4, _⟩ := r2.full5
          have hval : limbs (val5 [S0 + M0, S1 + M1, S2 + M2, S3 + M3, S4 + M4] * val5 [R0, R1, R2, R3, R4] % pp) = limbs AN := by rw [val5_sum, hSL, limbs_val, hML, limbs_val, hRL, limbs_val, HAN.out]
          refine wpAnyIn_ready (rs := [5]) (by kernel_rfl) (by simp) (AllReadyIn.cons rfl (fun K hK => ?_) AllReadyIn.nil)
          go_simp
          gi_wp2_with (gi_at_call 222; refine (hlift _ _ _ _ _ (times_any (S0 + M0) (S1 + M1) (S2 + M2) (S3 + M3) (S4 + M4) R0 R1 R2 R3 R4 w2 (by omega) (by omega) (by omega) (by omega) (by omega) (by omega) (by omega) (by omega) (by omega) (by omega))).mono ?_; rintro e w3 ⟨⟨T0, T1, T2, T3, T4, rfl, hTL⟩, b3⟩)
          try clear hK K
          rw [hval] at hTL
          have s3 := s2.below b3 s2.lt
          obtain ⟨j0, j1, j2, j3, j4, j5, j6, j7, j8, j9⟩ := s3.full5
          refine wpAnyIn_ready (rs := [6]) (by kernel_rfl) (by simp) (AllReadyIn.cons rfl (fun K hK => ?_) AllReadyIn.nil)
          go_simp
          refine hK _ _ ?_
          clear hK K
          refine wpAnyIn_done (by kernel_rfl) ?_ _
          exact fin T0 T1 T2 T3 T4 w3 ((b1.trans (b2.mono b1.size)).trans (b3.mono (Nat.le_trans b1.size b2.size))) hTL
      · go_simp
        refine hK _ _ ?_
        clear hK K
        refine wpAnyIn_ready (rs := [2]) (by kernel_rfl) (by simp) (AllReadyIn.cons rfl (fun K hK => ?_) AllReadyIn.nil)
        go_simp
        gi_wp2_with (gi_at_call 219; refine (hlift _ _ _ _ _ G3.out).mono ?_; rintro e w1 ⟨⟨M0, M1, M2, M3, M4, rfl, hML⟩, b1⟩)
        try clear hK K
        obtain ⟨m0, m1, m2, m3, m4⟩ := limbs_of5 hM0 hM1 hML
        have s1 := hls.drew.below b1 (show p + 1 < W.drew.heap.size from hls.lt)
        have r1 := hlr.drew.below b1 (show p < W.drew.heap.size from hlr.lt)
        obtain ⟨e0, e1, e2, e3, e4, e5, e6, e7, e8, e9⟩ := s1.full5
        obtain ⟨f0, f1, f2, f3, f4, _⟩ := r1.full5
        refine wpAnyIn_ready (rs := [3]) (by kernel_rfl) (by simp) (AllReadyIn.cons rfl (fun K hK => ?_) AllReadyIn.nil)
        go_simp
        gi_wp2_with (gi_at_call 221; refine (hlift _ _ _ _ _ (plus_any S0 S1 S2 S3 S4 M0 M1 M2 M3 M4 w1 (by omega) (by omega) (by omega) (by omega) (by omega))).mono ?_; rintro e w2 ⟨rfl, b2⟩)
        try clear hK K
        have s2 := s1.below b2 s1.lt
        have r2 := r1.below b2 r1.lt
        obtain ⟨g0, g1, g2, g3, g4, g5, g6, g7, g8, g9⟩ := s2.full5
        obtain ⟨i0, i1, i2, i3, i4, _⟩ := r2.full5
        have hval : limbs (val5 [S0 + M0, S1 + M1, S2 + M2, S3 + M3, S4 + M4] * val5 [R0, R1, R2, R3, R4] % pp) = limbs AN := by rw [val5_sum, hSL, limbs_val, hML, limbs_val, hRL, limbs_val, HAN.out]
        refine wpAnyIn_ready (rs := [5]) (by kernel_rfl) (by simp) (AllReadyIn.cons rfl (fun K hK => ?_) AllReadyIn.nil)
        go_simp
        gi_wp2_with (gi_at_call 222; refine (hlift _ _ _ _ _ (times_any (S0 + M0) (S1 + M1) (S2 + M2) (S3 + M3) (S4 + M4) R0 R1 R2 R3 R4 w2 (by omega) (by omega) (by omega) (by omega) (by omega) (by omega) (by omega) (by omega) (by omega) (by omega))).mono ?_; rintro e w3 ⟨⟨T0, T1, T2, T3, T4, rfl, hTL⟩, b3⟩)
        try clear hK K
        rw [hval] at hTL
        have s3 := s2.below b3 s2.lt
        obtain ⟨j0, j1, j2, j3, j4, j5, j6, j7, j8, j9⟩ := s3.full5
        refine wpAnyIn_ready (rs := [6]) (by kernel_rfl) (by simp) (AllReadyIn.cons rfl (fun K hK => ?_) AllReadyIn.nil)
        go_simp
        refine hK _ _ ?_
        clear hK K
        refine wpAnyIn_done (by kernel_rfl) ?_ _
        exact fin T0 T1 T2 T3 T4 w3 ((b1.trans (b2.mono b1.size)).trans (b3.mono (Nat.le_trans b1.size b2.size))) hTL
    · go_simp
      gi_wp2_with (gi_at_call 219; refine (hlift _ _ _ _ _ G3.out).mono ?_; rintro e w1 ⟨⟨M0, M1, M2, M3, M4, rfl, hML⟩, b1⟩)
      try clear hK K
      obtain ⟨m0, m1, m2, m3, m4⟩ := limbs_of5 hM0 hM1 hML
      have s1 := hls.drew.below b1 (show p + 1 < W.drew.heap.size from hls.lt)
      have r1 := hlr.drew.below b1 (show p < W.drew.heap.size from hlr.lt)
      obtain ⟨e0, e1, e2, e3, e4, e5, e6, e7, e8, e9⟩ := s1.full5
      obtain ⟨f0, f1, f2, f3, f4, _⟩ := r1.full5
      refine wpAnyIn_ready (rs := [0, 4]) (by kernel_rfl) (by simp) (AllReadyIn.cons rfl (fun K hK => ?_) (AllReadyIn.cons rfl (fun K hK => ?_) AllReadyIn.nil))
      · go_simp
        refine hK _ _ ?_
        clear hK K
        refine wpAnyIn_ready (rs := [3, 4]) (by kernel_rfl) (by simp) (AllReadyIn.cons rfl (fun K hK => ?_) (AllReadyIn.cons rfl (fun K hK => ?_) AllReadyIn.nil))
        · go_simp
          gi_wp2_with (gi_at_call 221; refine (hlift _ _ _ _ _ (plus_any S0 S1 S2 S3 S4 M0 M1 M2 M3 M4 w1 (by omega) (by omega) (by omega) (by omega) (by omega))).mono ?_; rintro e w2 ⟨rfl, b2⟩)
          try clear hK K
          have s2 := s1.below b2 s1.lt
          have r2 := r1.below b2 r1.lt
          obtain ⟨g0, g1, g2, g3, g4, g5, g6, g7, g8, g9⟩ := s2.full5
          obtain ⟨i0, i1, i2, i3, i4, _⟩ := r2.full5
          have hval : limbs (val5 [S0 + M0, S1 + M1, S2 + M2, S3 + M3, S4 + M4] * val5 [R0, R1, R2, R3, R4] % pp) = limbs AN := by rw [val5_sum, hSL, limbs_val, hML, limbs_val, hRL, limbs_val, HAN.out]
          refine wpAnyIn_ready (rs := [4]) (by kernel_rfl) (by simp) (AllReadyIn.cons rfl (fun K hK => ?_) AllReadyIn.nil)
          go_simp
          refine hK _ _ ?_
          clear hK K
          refine wpAnyIn_ready (rs := [5]) (by kernel_rfl) (by simp) (AllReadyIn.cons rfl (fun K hK => ?_) AllReadyIn.nil)
          go_simp
          gi_wp2_with (gi_at_call 222; refine (hlift _ _ _ _ _ (times_any (S0 + M0) (S1 + M1) (S2 + M2) (S3 + M3) (S4 + M4) R0 R1 R2 R3 R4 w2 (by omega) (by omega) (by omega) (by omega) (by omega) (by omega) (by omega) (by omega) (by omega) (by omega))).mono ?_; rintro e w3 ⟨⟨T0, T1, T2, T3, T4, rfl, hTL⟩, b3⟩)
          try clear hK K
          rw [hval] at hTL
          have s3 := s2.below b3 s2.lt
          obtain ⟨j0, j1, j2, j3, j4, j5, j6, j7, j8, j9⟩ := s3.full5
          refine wpAnyIn_ready (rs := [6]) (by kernel_rfl) (by simp) (AllReadyIn.cons rfl (fun K hK => ?_) AllReadyIn.nil)
          go_simp
          refine hK _ _ ?_
          clear hK K
          refine wpAnyIn_done (by kernel_rfl) ?_ _
          exact fin T0 T1 T2 T3 T4 w3 ((b1.trans (b2.mono b1.size)).trans (b3.mono (Nat.le_trans b1.size b2.size))) hTL
        · go_simp
          refine hK _ _ ?_
          clear hK K
          refine wpAnyIn_ready (rs := [3]) (by kernel_rfl) (by simp) (AllReadyIn.cons rfl (fun K hK => ?_) AllReadyIn.nil)
          go_simp
          gi_wp2_with (gi_at_call 221; refine (hlift _ _ _ _ _ (plus_any S0 S1 S2 S3 S4 M0 M1 M2 M3 M4 w1 (by omega) (by omega) (by omega) (by omega) (by omega))).mono ?_; rintro e w2 ⟨rfl, b2⟩)
          try clear hK K
          have s2 := s1.below b2 s1.lt
          have r2 := r1.below b2 r1.lt
          obtain ⟨g0, g1, g2, g3, g4, g5, g6, g7, g8, g9⟩ := s2.full5
          obtain ⟨i0, i1, i2, i3, i4, _⟩ := r2.full5
          have hval : limbs (val5 [S0 + M0, S1 + M1, S2 + M2, S3 + M3, S4 + M4] * val5 [R0, R1, R2, R3, R4] % pp) = limbs AN := by rw [val5_sum, hSL, limbs_val, hML, limbs_val, hRL, limbs_val, HAN.out]
          refine wpAnyIn_ready (rs := [5]) (by kernel_rfl) (by simp) (AllReadyIn.cons rfl (fun K hK => ?_) AllReadyIn.nil)
          go_simp
          gi_wp2_with (gi_at_call 222; refine (hlift _ _ _ _ _ (times_any (S0 + M0) (S1 + M1) (S2 + M2) (S3 + M3) (S4 + M4) R0 R1 R2 R3 R4 w2 (by omega) (by omega) (by omega) (by omega) (by omega) (by omega) (by omega) (by omega) (by omega) (by omega))).mono ?_; rintro e w3 ⟨⟨T0, T1, T2, T3, T4, rfl, hTL⟩, b3⟩)
          try clear hK K
          rw [hval] at hTL
          have s3 := s2.below b3 s2.lt
          obtain ⟨j0, j1, j2, j3, j4, j5, j6, j7, j8, j9⟩ := s3.full5
          refine wpAnyIn_ready (rs := [6]) (by kernel_rfl) (by simp) (AllReadyIn.cons rfl (fun K hK => ?_) AllReadyIn.nil)
          go_simp
          refine hK _ _ ?_
          clear hK K
          refine wpAnyIn_done (by kernel_rfl) ?_ _
          exact fin T0 T1 T2 T3 T4 w3 ((b1.trans (b2.mono b1.size)).trans (b3.mono (Nat.le_trans b1.size b2.size))) hTL
      · go_simp
        refine hK _ _ ?_
        clear hK K
        refine wpAnyIn_ready (rs := [0]) (by kernel_rfl) (by simp) (AllReadyIn.cons rfl (fun K hK => ?_) AllReadyIn.nil)
        go_simp
        refine hK _ _ ?_
        clear hK K
        refine wpAnyIn_ready (rs := [3]) (by kernel_rfl) (by simp) (AllReadyIn.cons rfl (fun K hK => ?_) AllReadyIn.nil)
        go_simp
        gi_wp2_with (gi_at_call 221; refine (hlift _ _ _ _ _ (plus_any S0 S1 S2 S3 S4 M0 M1 M2 M3 M4 w1 (by omega) (by omega) (by omega) (by omega) (by omega))).mono ?_; rintro e w2 ⟨rfl, b2⟩)
        try clear hK K
        have s2 := s1.below b2 s1.lt
        have r2 := r1.below b2 r1.lt
        obtain ⟨g0, g1, g2, g3, g4, g5, g6, g7, g8, g9⟩ := s2.full5
        obtain ⟨i0, i1, i2, i3, i4, _⟩ := r2.full5
        have hval : limbs (val5 [S0 + M0, S1 + M1, S2 + M2, S3 + M3, S4 + M4] * val5 [R0, R1, R2, R3, R4] % pp) = limbs AN := by rw [val5_sum, hSL, limbs_val, hML, limbs_val, hRL, limbs_val, HAN.out]
        refine wpAnyIn_ready (rs := [5]) (by kernel_rfl) (by simp) (AllReadyIn.cons rfl (fun K hK => ?_) AllReadyIn.nil)
        go_simp
        gi_wp2_with (gi_at_call 222; refine (hlift _ _ _ _ _ (times_any (S0 + M0) (S1 + M1) (S2 + M2) (S3 + M3) (S4 + M4) R0 R1 R2 R3 R4 w2 (by omega) (by omega) (by omega) (by omega) (by omega) (by omega) (by omega) (by omega) (by omega) (by omega))).mono ?_; rintro e w3 ⟨⟨T0, T1, T2, T3, T4, rfl, hTL⟩, b3⟩)
        try clear hK K
        rw [hval] at hTL
        have s3 := s2.below b3 s2.lt
        obtain ⟨j0, j1, j2, j3, j4, j5, j6, j7, j8, j9⟩ := s3.full5
        refine wpAnyIn_ready (rs := [6]) (by kernel_rfl) (by simp) (AllReadyIn.cons rfl (fun K hK => ?_) AllReadyIn.nil)
        go_simp
        refine hK _ _ ?_
        clear hK K
        refine wpAnyIn_done (by kernel_rfl) ?_ _
        exact fin T0 T1 T2 T3 T4 w3 ((b1.trans (b2.mono b1.size)).trans (b3.mono (Nat.le_trans b1.size b2.size))) hTL
    · go_simp
      refine hK _ _ ?_
      clear hK K
      refine wpAnyIn_ready (rs := [0, 2]) (by kernel_rfl) (by simp) (AllReadyIn.cons rfl (fun K hK => ?_) (AllReadyIn.cons rfl (fun K hK => ?_) AllReadyIn.nil))
      · go_simp
        refine hK _ _ ?_
        clear hK K
        refine wpAnyIn_ready (rs := [2]) (by kernel_rfl) (by simp) (AllReadyIn.cons rfl (fun K hK => ?_) AllReadyIn.nil)
        go_simp
        gi_wp2_with (gi_at_call 219; refine (hlift _ _ _ _ _ G3.out).mono ?_; rintro e w1 ⟨⟨M0, M1, M2, M3, M4, rfl, hML⟩, b1⟩)
        try clear hK K
        obtain ⟨m0, m1, m2, m3, m4⟩ := limbs_of5 hM0 hM1 hML
        have s1 := hls.drew.below b1 (show p + 1 < W.drew.heap.size from hls.lt)
        have r1 := hlr.drew.below b1 (show p < W.drew.heap.size from hlr.lt)
        obtain ⟨e0, e1, e2, e3, e4, e5, e6, e7, e8, e9⟩ := s1.full5
        obtain ⟨f0, f1, f2, f3, f4, _⟩ := r1.full5
        refine wpAnyIn_ready (rs := [3]) (by kernel_rfl) (by simp) (AllReadyIn.cons rfl (fun K hK => ?_) AllReadyIn.nil)
        go_simp
        gi_wp2_with (gi_at_call 221; refine (hlift _ _ _ _ _ (plus_any S0 S1 S2 S3 S4 M0 M1 M2 M3 M4 w1 (by omega) (by omega) (by omega) (by omega) (by omega))).mono ?_; rintro e w2 ⟨rfl, b2⟩)
        try clear hK K
        have s2 := s1.below b2 s1.lt
        have r2 := r1.below b2 r1.lt
        obtain ⟨g0, g1, g2, g3, g4, g5, g6, g7, g8, g9⟩ := s2.full5
        obtain ⟨i0, i1, i2, i3, i4, _⟩ := r2.full5
        have hval : limbs (val5 [S0 + M0, S1 + M1, S2 + M2, S3 + M3, S4 + M4] * val5 [R0, R1, R2, R3, R4] % pp) = limbs AN := by rw [val5_sum, hSL, limbs_val, hML, limbs_val, hRL, limbs_val, HAN.out]
        refine wpAnyIn_ready (rs := [5]) (by kernel_rfl) (by simp) (AllReadyIn.cons rfl (fun K hK => ?_) AllReadyIn.nil)
        go_simp
        gi_wp2_with (gi_at_call 222; refine (hlift _ _ _ _ _ (times_any (S0 + M0) (S1 + M1) (S2 + M2) (S3 + M3) (S4 + M4) R0 R1 R2 R3 R4 w2 (by omega) (by omega) (by omega) (by omega) (by omega) (by omega) (by omega) (by omega) (by omega) (by omega))).mono ?_; rintro e w3 ⟨⟨T0, T1, T2, T3, T4, rfl, hTL⟩, b3⟩)
        try clear hK K
        rw [hval] at hTL
        have s3 := s2.below b3 s2.lt
        obtain ⟨j0, j1, j2, j3, j4, j5, j6, j7, j8, j9⟩ := s3.full5
        refine wpAnyIn_ready (rs := [6]) (by kernel_rfl) (by simp) (AllReadyIn.cons rfl (fun K hK => ?_) AllReadyIn.nil)
        go_simp
        refine hK _ _ ?_
        clear hK K
        refine wpAnyIn_done (by kernel_rfl) ?_ _
        exact fin T0 T1 T2 T3 T4 w3 ((b1.trans (b2.mono b1.size)).trans (b3.mono (Nat.le_trans b1.size b2.size))) hTL
      · go_simp
        gi_wp2_with (gi_at_call 219; refine (hlift _ _ _ _ _ G3.out).mono ?_; rintro e w1 ⟨⟨M0, M1, M2, M3, M4, rfl, hML⟩, b1⟩)
        try clear hK K
        obtain ⟨m0, m1, m2, m3, m4⟩ := limbs_of5 hM0 hM1 hML
        have s1 := hls.drew.below b1 (show p + 1 < W.drew.heap.size from hls.lt)
        have r1 := hlr.drew.below b1 (show p < W.drew.heap.size from hlr.lt)
        obtain ⟨e0, e1, e2, e3, e4, e5, e6, e7, e8, e9⟩ := s1.full5
        obtain ⟨f0, f1, f2, f3, f4, _⟩ := r1.full5
        refine wpAnyIn_ready (rs := [0]) (by kernel_rfl) (by simp) (AllReadyIn.cons rfl (fun K hK => ?_) AllReadyIn.nil)
        go_simp
        refine hK _ _ ?_
        clear hK K
        refine wpAnyIn_ready (rs := [3]) (by kernel_rfl) (by simp) (AllReadyIn.cons rfl (fun K hK => ?_) AllReadyIn.nil)
        go_simp
        gi_wp2_with (gi_at_call 221; refine (hlift _ _ _ _ _ (plus_any S0 S1 S2 S3 S4 M0 M1 M2 M3 M4 w1 (by omega) (by omega) (by omega) (by omega) (by omega))).mono ?_; rintro e w2 ⟨rfl, b2⟩)
        try clear hK K
        have s2 := s1.below b2 s1.lt
        have r2 := r1.below b2 r1.lt
        obtain ⟨g0, g1, g2, g3, g4, g5, g6, g7, g8, g9⟩ := s2.full5
        obtain ⟨i0, i1, i2, i3, i4, _⟩ := r2.full5
        have hval : limbs (val5 [S0 + M0, S1 + M1, S2 + M2, S3 + M3, S4 + M4] * val5 [R0, R1, R2, R3, R4] % pp) = limbs AN := by rw [val5_sum, hSL, limbs_val, hML, limbs_val, hRL, limbs_val, HAN.out]
        refine wpAnyIn_ready (rs := [5]) (by kernel_rfl) (by simp) (AllReadyIn.cons rfl (fun K hK => ?_) AllReadyIn.nil)
        go_simp
        gi_wp2_with (gi_at_call 222; refine (hlift _ _ _ _ _ (times_any (S0 + M0) (S1 + M1) (S2 + M2) (S3 + M3) (S4 + M4) R0 R1 R2 R3 R4 w2 (by omega) (by omega) (by omega) (by omega) (by omega) (by omega) (by omega) (by omega) (by omega) (by omega))).mono ?_; rintro e w3 ⟨⟨T0, T1, T2, T3, T4, rfl, hTL⟩, b3⟩)
        try clear hK K
        rw [hval] at hTL
        have s3 := s2.below b3 s2.lt
        obtain ⟨j0, j1, j2, j3, j4, j5, j6, j7, j8, j9⟩ := s3.full5
        refine wpAnyIn_ready (rs := [6]) (by kernel_rfl) (by simp) (AllReadyIn.cons rfl (fun K hK => ?_) AllReadyIn.nil)
        go_simp
        refine hK _ _ ?_
        clear hK K
        refine wpAnyIn_done (by kernel_rfl) ?_ _
        exact fin T0 T1 T2 T3 T4 w3 ((b1.trans (b2.mono b1.size)).trans (b3.mono (Nat.le_trans b1.size b2.size))) hTL
  case done =>
    rintro D ys W hD hys ⟨⟨⟨lr, ls⟩, hz⟩, hB⟩ hK
    obtain ⟨q, hq1, hq2, hq3⟩ := hys
    have hqm : q = (data.length + 15) / 16 := by
      by_cases h0 : 0 < q
      · have := hq3 h0; omega
      · omega
    rw [accOf_all r data ys q hq1, hqm] at ls
    obtain ⟨ha0, ha1⟩ := polyAcc_bd r data ((data.length + 15) / 16)
    have hpp : polyAcc r data ((data.length + 15) / 16) < 1361129467683753853853498429727072845824 := by unfold pp at ha1; omega
    obtain ⟨S0, S1, S2, S3, S4, hls, hSL, hs0, hs1, hs2, hs3, hs4⟩ := ls.cells ha0 hpp
    have hkh := (hk.below hB).part_ 16 16 (by omega)
    rw [show (key.drop 16).take 16 = key.drop 16 from List.take_of_length_le (by rw [List.length_drop, hk.len]; omega)] at hkh
    have hM := lo_bd (key.drop 16) hkh.byte
    rw [hkh.len] at hM
    have e256 : (256 : Int) ^ 16 = 340282366920938463463374607431768211456 := by decide
    rw [e256] at hM
    have G3 := Shut.mk (fun W' (h' : Bs W' (some ⟨b, off + 16, none⟩) 16 (key.drop 16)) => numberOf_any (some ⟨b, off + 16, none⟩) 16 (c - 16) _ 0 W' h' (by omega) (by omega))
    rw [show lo (key.drop 16 ++ [0]) = lo (key.drop 16) by rw [lo_snoc]; omega] at G3
    have Pw0 := hkh.below (Below.refl W.heap.size W).drew
    generalize polyAcc r data ((data.length + 15) / 16) = AC at *
    generalize lo (key.drop 16) = MB at *
    have hM1 : MB < 1361129467683753853853498429727072845824 := by omega
    have hDl : D < W.heap.size := (Array.getElem?_eq_some_iff.1 hK).1
    have hKd : W.drew.heap[D]? = some (.deferred (some [])) := hK
    have hDd : D < W.drew.heap.size := hDl
    have hB0 : Below w.heap.size w W.drew := hB.drew
    have Bw0 : Below W.drew.heap.size W.drew W.drew := Below.refl _ _
    have sw0 : KOw .u64 W.drew (p + 1) [S0, S1, S2, S3, S4] := hls.drew
    have k1 : (16 : Int) ≤ (c : Int) := by omega
    have k2 : ¬ c = 16 := by omega
    have hDw : w.heap.size ≤ D := by omega
    gi_wp2
    refine wpIn_only ?_
    refine wpIn_region_any (by kernel_rfl) ?_
    change wpAnyIn _ _ _ _ _ _ _ _ _ (World.drew _)
    clear hK hDl hB hls ls lr hkh hz hd hk hX hY W4b B4
    generalize W.drew = w0 at *
    obtain ⟨c0, c1, c2', c3, c4, _⟩ := sw0.full5
    refine wpAnyIn_take (i := 1) (v := .slice (some ⟨b, off, none⟩) 32 c) hro rfl (by kernel_rfl) (by kernel_rfl) (by kernel_rfl) (fun _ _ _ h => h) ?_ ?_
    · exact ⟨Or.inl ⟨by rfl, fun w => by go_simp⟩, fun _ => rfl⟩
    go_simp
    refine wpAnyIn_take (i := 2) (v := .slice (some ⟨b, off + 16, none⟩) 16 (c - 16)) hro rfl (by kernel_rfl) (by kernel_rfl) (by kernel_rfl) (fun _ _ _ h => h) ?_ ?_
    · exact ⟨Or.inl ⟨by rfl, fun w => by go_simp⟩, fun _ => rfl⟩
    go_simp
    refine wpAnyIn_ready (rs := [0, 3, 9]) (by kernel_rfl) (by simp) (AllReadyIn.cons rfl (fun K hK => ?_) (AllReadyIn.cons rfl (fun K hK => ?_) (AllReadyIn.cons rfl (fun K hK => ?_) AllReadyIn.nil)))
    · go_simp
      refine hK _ _ ?_
      clear hK K
      refine wpAnyIn_ready (rs := [3, 9]) (by kernel_rfl) (by simp) (AllReadyIn.cons rfl (fun K hK => ?_) (AllReadyIn.cons rfl (fun K hK => ?_) AllReadyIn.nil))
      · go_simp
        gi_wp2_with (gi_at_call 219; refine (hlift _ _ _ _ _ (G3.out _ Pw0)).mono ?_; rintro e wy1 ⟨⟨M0, M1, M2, M3, M4, rfl, hML⟩, bby1⟩)
        try clear hK K
        obtain ⟨m0, m1, m2, m3, m4⟩ := limbs_of5 hM.1 hM1 hML
        have swy1 := sw0.below bby1 sw0.lt
        have Bwy1 := ac Bw0 bby1
        have Pwy1 := Pw0.below bby1
        obtain ⟨a0y1, a1y1, a2y1, a3y1, a4y1, _⟩ := swy1.full5
        refine wpAnyIn_ready (rs := [4, 9]) (by kernel_rfl) (by simp) (AllReadyIn.cons rfl (fun K hK => ?_) (AllReadyIn.cons rfl (fun K hK => ?_) AllReadyIn.nil))
        · go_simp
          gi_wp2_with (gi_at_call 221; refine (hlift _ _ _ _ _ (plus_any S0 S1 S2 S3 S4 M0 M1 M2 M3 M4 wy1 (by omega) (by omega) (by omega) (by omega) (by omega))).mono ?_; rintro e wy2 ⟨rfl, bby2⟩)
          try clear hK K
          have swy2 := swy1.below bby2 swy1.lt
          have Bwy2 := ac Bwy1 bby2
          have Pwy2 := Pwy1.below bby2
          obtain ⟨a0y2, a1y2, a2y2, a3y2, a4y2, _⟩ := swy2.full5
          refine wpAnyIn_ready (rs := [5, 9]) (by kernel_rfl) (by simp) (AllReadyIn.cons rfl (fun K hK => ?_) (AllReadyIn.cons rfl (fun K hK => ?_) AllReadyIn.nil))
          · go_simp
            gi_wp2_with (gi_at_call 223; refine (hlift _ _ _ _ _ (carried_ex (S0 + M0) (S1 + M1) (S2 + M2) (S3 + M3) (S4 + M4) wy2 (by omega) (by omega) (by omega) (by omega) (by omega))).mono ?_; rintro e wy3 ⟨⟨D0, D1, D2, D3, D4, O, rfl, hC⟩, bby3⟩)
            try clear hK K
            have swy3 := swy2.below bby3 swy2.lt
            have Bwy3 := ac Bwy2 bby3
            have Pwy3 := Pwy2.below bby3
            obtain ⟨a0y3, a1y3, a2y3, a3y3, a4y3, _⟩ := swy3.full5
            refine wpAnyIn_take (i := 6) (v := .tuple #[.agg #[.int .u64 D0, .int .u64 D1, .int .u64 D2, .int .u64 D3, .int .u64 D4], .int .u64 O]) hro rfl (by kernel_rfl) (by kernel_rfl) (by kernel_rfl) (fun _ _ _ h => h) ?_ ?_
            · exact ⟨Or.inl ⟨by rfl, fun w => by go_simp⟩, fun _ => rfl⟩
            go_simp
            refine wpAnyIn_take (i := 7) (v := .agg #[.int .u64 D0, .int .u64 D1, .int .u64 D2, .int .u64 D3, .int .u64 D4]) hro rfl (by kernel_rfl) (by kernel_rfl) (by kernel_rfl) (fun _ _ _ h => h) ?_ ?_
            · exact ⟨Or.inl ⟨by rfl, fun w => by go_simp⟩, fun _ => rfl⟩
            go_simp
            refine wpAnyIn_take (i := 8) (v := .int .u64 O) hro rfl (by kernel_rfl) (by kernel_rfl) (by kernel_rfl) (fun _ _ _ h => h) ?_ ?_
            · exact ⟨Or.inl ⟨by rfl, fun w => by go_simp⟩, fun _ => rfl⟩
            go_simp
            refine wpAnyIn_ready (rs := [9]) (by kernel_rfl) (by simp) (AllReadyIn.cons rfl (fun K hK => ?_) AllReadyIn.nil)
            go_simp
            refine hK _ _ ?_
            clear hK K
            have ly4 := kow5 wy3 0 0 0 0 0 212
            have zy4 : wy3.heap.size < (wy3.alloc (.cells #[.int .u64 0, .int .u64 0, .int .u64 0, .int .u64 0, .int .u64 0] 212)).heap.size := by simp
            have sy4 := swy3.below (ab (Below.refl _ wy3) (.cells #[.int .u64 0, .int .u64 0, .int .u64 0, .int .u64 0, .int .u64 0] 212)) swy3.lt
            have By4 := ab Bwy3 (.cells #[.int .u64 0, .int .u64 0, .int .u64 0, .int .u64 0, .int .u64 0] 212)
            have Py4 := Pwy3.below (ab (Below.refl _ wy3) (.cells #[.int .u64 0, .int .u64 0, .int .u64 0, .int .u64 0, .int .u64 0] 212))
            obtain ⟨gy4, hiy4⟩ : ∃ g, g = wy3.heap.size := ⟨_, rfl⟩
            have zzy4 : w0.heap.size ≤ gy4 := by have := Bwy3.size; omega
            rw [← hiy4] at ly4 zy4 ⊢
            generalize hgy4 : wy3.alloc (.cells #[.int .u64 0, .int .u64 0, .int .u64 0, .int .u64 0, .int .u64 0] 212) = wy4 at *
            clear hgy4 hiy4
            obtain ⟨a0y4, a1y4, a2y4, a3y4, a4y4, _⟩ := sy4.full5
            have swy4 := sy4
            have Bwy4 := By4
            have lwy4 := ly4
            have Pwy4 := Py4
            refine wpAnyIn_ready (rs := [10]) (by kernel_rfl) (by simp) (AllReadyIn.cons rfl (fun K hK => ?_) AllReadyIn.nil)
            obtain ⟨u0y5, u1y5, u2y5, u3y5, u4y5, v0y5, v1y5, v2y5, v3y5, v4y5⟩ := lwy4.full5
            go_simp
            refine hK _ _ ?_
            clear hK K
            refine wpAnyIn_ready (rs := [11]) (by kernel_rfl) (by simp) (AllReadyIn.cons rfl (fun K hK => ?_) AllReadyIn.nil)
            go_simp
            refine hK _ _ ?_
            clear hK K
            refine wpAnyIn_done (by kernel_rfl) ?_ _
            dsimp only [OnlyNormal]
            have hS := below5 Bwy4 zzy4 (.int .u64 D0) (.int .u64 D1) (.int .u64 D2) (.int .u64 D3) (.int .u64 D4)
            have hSC := set5 rfl lwy4 D0 D1 D2 D3 D4
            have hV : lowOf (val5 [D0, D1, D2, D3, D4]) 16 = lowOf (AC + MB) 16 := tag_low2 hC hSL hML
            obtain ⟨t0, t1, t2, t3, t4, _⟩ := hSC.full5
            generalize World.setCell _ ⟨gy4, 4, none⟩ _ = wy at *
            gi_wp2_with (gi_at_call 224; refine (hlift _ _ _ _ _ (tag_any D0 D1 D2 D3 D4 _ hC.1 hC.2.1 hC.2.2.1 hC.2.2.2.1 hC.2.2.2.2.1)).mono ?_; rintro e wz ⟨⟨gz, cz, rfl, rz⟩, bz⟩)
            rw [hV] at rz
            have hDy : D < wy.heap.size := Nat.lt_of_lt_of_le hDd hS.size
            have hKz : wz.heap[D]? = some (.deferred (some [])) := (bz.block D hDy).trans ((hS.block D hDd).trans hKd)
            refine ⟨by simp, .inl ⟨_, _, rfl, run_takeDeferred hKz, ?_⟩⟩
            refine ⟨_, results_tmp rfl _ _ _, ⟨gz, cz, rfl, ?_⟩, ((hB0.trans (hS.mono hB0.size)).trans (bz.mono (Nat.le_trans hB0.size hS.size))).trans (belowK_b (w := w) (Nat.le_refl _) wz D _ _ (by omega) hKz rfl rfl)⟩
            rw [HT.out]
            exact (rz.keep (fun g h1 _ => putObj_other wz D _ g (by omega))).mono (Nat.le_trans hB0.size hS.size)
          · go_simp
            refine hK _ _ ?_
            clear hK K
            have ly6 := kow5 wy2 0 0 0 0 0 212
            have zy6 : wy2.heap.size < (wy2.alloc (.cells #[.int .u64 0, .int .u64 0, .int .u64 0, .int .u64 0, .int .u64 0] 212)).heap.size := by simp
            have sy6 := swy2.below (ab (Below.refl _ wy2) (.cells #[.int .u64 0, .int .u64 0, .int .u64 0, .int .u64 0, .int .u64 0] 212)) swy2.lt
            have By6 := ab Bwy2 (.cells #[.int .u64 0, .int .u64 0, .int .u64 0, .int .u64 0, .int .u64 0] 212)
            have Py6 := Pwy2.below (ab (Below.refl _ wy2) (.cells #[.int .u64 0, .int .u64 0, .int .u64 0, .int .u64 0, .int .u64 0] 212))
            obtain ⟨gy6, hiy6⟩ : ∃ g, g = wy2.heap.size := ⟨_, rfl⟩
            have zzy6 : w0.heap.size ≤ gy6 := by have := Bwy2.size; omega
            rw [← hiy6] at ly6 zy6 ⊢
            generalize hgy6 : wy2.alloc (.cells #[.int .u64 0, .int .u64 0, .int .u64 0, .int .u64 0, .int .u64 0] 212) = wy6 at *
            clear hgy6 hiy6
            obtain ⟨a0y6, a1y6, a2y6, a3y6, a4y6, _⟩ := sy6.full5
            have swy6 := sy6
            have Bwy6 := By6
            have lwy6 := ly6
            have Pwy6 := Py6
            refine wpAnyIn_ready (rs := [5]) (by kernel_rfl) (by simp) (AllReadyIn.cons rfl (fun K hK => ?_) AllReadyIn.nil)
            go_simp
            gi_wp2_with (gi_at_call 223; refine (hlift _ _ _ _ _ (carried_ex (S0 + M0) (S1 + M1) (S2 + M2) (S3 + M3) (S4 + M4) wy6 (by omega) (by omega) (by omega) (by omega) (by omega))).mono ?_; rintro e wy7 ⟨⟨D0, D1, D2, D3, D4, O, rfl, hC⟩, bby7⟩)
            try clear hK K
            have swy7 := swy6.below bby7 swy6.lt
            have Bwy7 := ac Bwy6 bby7
            have Pwy7 := Pwy6.below bby7
            have lwy7 := lwy6.below bby7 lwy6.lt
            obtain ⟨a0y7, a1y7, a2y7, a3y7, a4y7, _⟩ := swy7.full5
            refine wpAnyIn_ready (rs := [6]) (by kernel_rfl) (by simp) (AllReadyIn.cons rfl (fun K hK => ?_) AllReadyIn.nil)
            go_simp
            refine hK _ _ ?_
            clear hK K
            refine wpAnyIn_take (i := 7) (v := .agg #[.int .u64 D0, .int .u64 D1, .int .u64 D2, .int .u64 D3, .int .u64 D4]) hro rfl (by kernel_rfl) (by kernel_rfl) (by kernel_rfl) (fun _ _ _ h => h) ?_ ?_
            · exact ⟨Or.inl ⟨by rfl, fun w => by go_simp⟩, fun _ => rfl⟩
            go_simp
            refine wpAnyIn_take (i := 8) (v := .int .u64 O) hro rfl (by kernel_rfl) (by kernel_rfl) (by kernel_rfl) (fun _ _ _ h => h) ?_ ?_
            · exact ⟨Or.inl ⟨by rfl, fun w => by go_simp⟩, fun _ => rfl⟩
            go_simp
            refine wpAnyIn_ready (rs := [10]) (by kernel_rfl) (by simp) (AllReadyIn.cons rfl (fun K hK => ?_) AllReadyIn.nil)
            obtain ⟨u0y8, u1y8, u2y8, u3y8, u4y8, v0y8, v1y8, v2y8, v3y8, v4y8⟩ := lwy7.full5
            go_simp
            refine hK _ _ ?_
            clear hK K
            refine wpAnyIn_ready (rs := [11]) (by kernel_rfl) (by simp) (AllReadyIn.cons rfl (fun K hK => ?_) AllReadyIn.nil)
            go_simp
            refine hK _ _ ?_
            clear hK K
            refine wpAnyIn_done (by kernel_rfl) ?_ _
            dsimp only [OnlyNormal]
            have hS := below5 Bwy7 zzy6 (.int .u64 D0) (.int .u64 D1) (.int .u64 D2) (.int .u64 D3) (.int .u64 D4)
            have hSC := set5 rfl lwy7 D0 D1 D2 D3 D4
            have hV : lowOf (val5 [D0, D1, D2, D3, D4]) 16 = lowOf (AC + MB) 16 := tag_low2 hC hSL hML
            obtain ⟨t0, t1, t2, t3, t4, _⟩ := hSC.full5
            generalize World.setCell _ ⟨gy6, 4, none⟩ _ = wy at *
            gi_wp2_with (gi_at_call 224; refine (hlift _ _ _ _ _ (tag_any D0 D1 D2 D3 D4 _ hC.1 hC.2.1 hC.2.2.1 hC.2.2.2.1 hC.2.2.2.2.1)).mono ?_; rintro e wz ⟨⟨gz, cz, rfl, rz⟩, bz⟩)
            rw [hV] at rz
            have hDy : D < wy.heap.size := Nat.lt_of_lt_of_le hDd hS.size
            have hKz : wz.heap[D]? = some (.deferred (some [])) := (bz.block D hDy).trans ((hS.block D hDd).trans hKd)
            refine ⟨by simp, .inl ⟨_, _, rfl, run_takeDeferred hKz, ?_⟩⟩
            refine ⟨_, results_tmp rfl _ _ _, ⟨gz, cz, rfl, ?_⟩, ((hB0.trans (hS.mono hB0.size)).trans (bz.mono (Nat.le_trans hB0.size hS.size))).trans (belowK_b (w := w) (Nat.le_refl _) wz D _ _ (by omega) hKz rfl rfl)⟩
            rw [HT.out]
            exact (rz.keep (fun g h1 _ => putObj_other wz D _ g (by omega))).mono (Nat.le_trans hB0.size hS.size)
        · go_simp
          refine hK _ _ ?_
          clear hK K
          have ly9 := kow5 wy1 0 0 0 0 0 212
          have zy9 : wy1.heap.size < (wy1.alloc (.cells #[.int .u64 0, .int .u64 0, .int .u64 0, .int .u64 0, .int .u64 0] 212)).heap.size := by simp
          have sy9 := swy1.below (ab (Below.refl _ wy1) (.cells #[.int .u64 0, .int .u64 0, .int .u64 0, .int .u64 0, .int .u64 0] 212)) swy1.lt
          have By9 := ab Bwy1 (.cells #[.int .u64 0, .int .u64 0, .int .u64 0, .int .u64 0, .int .u64 0] 212)
          have Py9 := Pwy1.below (ab (Below.refl _ wy1) (.cells #[.int .u64 0, .int .u64 0, .int .u64 0, .int .u64 0, .int .u64 0] 212))
          obtain ⟨gy9, hiy9⟩ : ∃ g, g = wy1.heap.size := ⟨_, rfl⟩
          have zzy9 : w0.heap.size ≤ gy9 := by have := Bwy1.size; omega
          rw [← hiy9] at ly9 zy9 ⊢
          generalize hgy9 : wy1.alloc (.cells #[.int .u64 0, .int .u64 0, .int .u64 0, .int .u64 0, .int .u64 0] 212) = wy9 at *
          clear hgy9 hiy9
          obtain ⟨a0y9, a1y9, a2y9, a3y9, a4y9, _⟩ := sy9.full5
          have swy9 := sy9
          have Bwy9 := By9
          have lwy9 := ly9
          have Pwy9 := Py9
          refine wpAnyIn_ready (rs := [4]) (by kernel_rfl) (by simp) (AllReadyIn.cons rfl (fun K hK => ?_) AllReadyIn.nil)
          go_simp
          gi_wp2_with (gi_at_call 221; refine (hlift _ _ _ _ _ (plus_any S0 S1 S2 S3 S4 M0 M1 M2 M3 M4 wy9 (by omega) (by omega) (by omega) (by omega) (by omega))).mono ?_; rintro e wy10 ⟨rfl, bby10⟩)
          try clear hK K
          have swy10 := swy9.below bby10 swy9.lt
          have Bwy10 := ac Bwy9 bby10
          have Pwy10 := Pwy9.below bby10
          have lwy10 := lwy9.below bby10 lwy9.lt
          obtain ⟨a0y10, a1y10, a2y10, a3y10, a4y10, _⟩ := swy10.full5
          refine wpAnyIn_ready (rs := [5]) (by kernel_rfl) (by simp) (AllReadyIn.cons rfl (fun K hK => ?_) AllReadyIn.nil)
          go_simp
          gi_wp2_with (gi_at_call 223; refine (hlift _ _ _ _ _ (carried_ex (S0 + M0) (S1 + M1) (S2 + M2) (S3 + M3) (S4 + M4) wy10 (by omega) (by omega) (by omega) (by omega) (by omega))).mono ?_; rintro e wy11 ⟨⟨D0, D1, D2, D3, D4, O, rfl, hC⟩, bby11⟩)
          try clear hK K
          have swy11 := swy10.below bby11 swy10.lt
          have Bwy11 := ac Bwy10 bby11
          have Pwy11 := Pwy10.below bby11
          have lwy11 := lwy10.below bby11 lwy10.lt
          obtain ⟨a0y11, a1y11, a2y11, a3y11, a4y11, _⟩ := swy11.full5
          refine wpAnyIn_ready (rs := [6]) (by kernel_rfl) (by simp) (AllReadyIn.cons rfl (fun K hK => ?_) AllReadyIn.nil)
          go_simp
          refine hK _ _ ?_
          clear hK K
          refine wpAnyIn_take (i := 7) (v := .agg #[.int .u64 D0, .int .u64 D1, .int .u64 D2, .int .u64 D3, .int .u64 D4]) hro rfl (by kernel_rfl) (by kernel_rfl) (by kernel_rfl) (fun _ _ _ h => h) ?_ ?_
          · exact ⟨Or.inl ⟨by rfl, fun w => by go_simp⟩, fun _ => rfl⟩
          go_simp
          refine wpAnyIn_take (i := 8) (v := .int .u64 O) hro rfl (by kernel_rfl) (by kernel_rfl) (by kernel_rfl) (fun _ _ _ h => h) ?_ ?_
          · exact ⟨Or.inl ⟨by rfl, fun w => by go_simp⟩, fun _ => rfl⟩
          go_simp
          refine wpAnyIn_ready (rs := [10]) (by kernel_rfl) (by simp) (AllReadyIn.cons rfl (fun K hK => ?_) AllReadyIn.nil)
          obtain ⟨u0y12, u1y12, u2y12, u3y12, u4y12, v0y12, v1y12, v2y12, v3y12, v4y12⟩ := lwy11.full5
          go_simp
          refine hK _ _ ?_
          clear hK K
          refine wpAnyIn_ready (rs := [11]) (by kernel_rfl) (by simp) (AllReadyIn.cons rfl (fun K hK => ?_) AllReadyIn.nil)
          go_simp
          refine hK _ _ ?_
          clear hK K
          refine wpAnyIn_done (by kernel_rfl) ?_ _
          dsimp only [OnlyNormal]
          have hS := below5 Bwy11 zzy9 (.int .u64 D0) (.int .u64 D1) (.int .u64 D2) (.int .u64 D3) (.int .u64 D4)
          have hSC := set5 rfl lwy11 D0 D1 D2 D3 D4
          have hV : lowOf (val5 [D0, D1, D2, D3, D4]) 16 = lowOf (AC + MB) 16 := tag_low2 hC hSL hML
          obtain ⟨t0, t1, t2, t3, t4, _⟩ := hSC.full5
          generalize World.setCell _ ⟨gy9, 4, none⟩ _ = wy at *
          gi_wp2_with (gi_at_call 224; refine (hlift _ _ _ _ _ (tag_any D0 D1 D2 D3 D4 _ hC.1 hC.2.1 hC.2.2.1 hC.2.2.2.1 hC.2.2.2.2.1)).mono ?_; rintro e wz ⟨⟨gz, cz, rfl, rz⟩, bz⟩)
          rw [hV] at rz
          have hDy : D < wy.heap.size := Nat.lt_of_lt_of_le hDd hS.size
          have hKz : wz.heap[D]? = some (.deferred (some [])) := (bz.block D hDy).trans ((hS.block D hDd).trans hKd)
          refine ⟨by simp, .inl ⟨_, _, rfl, run_takeDeferred hKz, ?_⟩⟩
          refine ⟨_, results_tmp rfl _ _ _, ⟨gz, cz, rfl, ?_⟩, ((hB0.trans (hS.mono hB0.size)).trans (bz.mono (Nat.le_trans hB0.size hS.size))).trans (belowK_b (w := w) (Nat.le_refl _) wz D _ _ (by omega) hKz rfl rfl)⟩
          rw [HT.out]
          exact (rz.keep (fun g h1 _ => putObj_other wz D _ g (by omega))).mono (Nat.le_trans hB0.size hS.size)
      · go_simp
        refine hK _ _ ?_
        clear hK K
        have ly13 := kow5 w0 0 0 0 0 0 212
        have zy13 : w0.heap.size < (w0.alloc (.cells #[.int .u64 0, .int .u64 0, .int .u64 0, .int .u64 0, .int .u64 0] 212)).heap.size := by simp
        have sy13 := sw0.below (ab (Below.refl _ w0) (.cells #[.int .u64 0, .int .u64 0, .int .u64 0, .int .u64 0, .int .u64 0] 212)) sw0.lt
        have By13 := ab Bw0 (.cells #[.int .u64 0, .int .u64 0, .int .u64 0, .int .u64 0, .int .u64 0] 212)
        have Py13 := Pw0.below (ab (Below.refl _ w0) (.cells #[.int .u64 0, .int .u64 0, .int .u64 0, .int .u64 0, .int .u64 0] 212))
        obtain ⟨gy13, hiy13⟩ : ∃ g, g = w0.heap.size := ⟨_, rfl⟩
        have zzy13 : w0.heap.size ≤ gy13 := by have := Bw0.size; omega
        rw [← hiy13] at ly13 zy13 ⊢
        generalize hgy13 : w0.alloc (.cells #[.int .u64 0, .int .u64 0, .int .u64 0, .int .u64 0, .int .u64 0] 212) = wy13 at *
        clear hgy13 hiy13
        obtain ⟨a0y13, a1y13, a2y13, a3y13, a4y13, _⟩ := sy13.full5
        have swy13 := sy13
        have Bwy13 := By13
        have lwy13 := ly13
        have Pwy13 := Py13
        refine wpAnyIn_ready (rs := [3]) (by kernel_rfl) (by simp) (AllReadyIn.cons rfl (fun K hK => ?_) AllReadyIn.nil)
        go_simp
        gi_wp2_with (gi_at_call 219; refine (hlift _ _ _ _ _ (G3.out _ Pwy13)).mono ?_; rintro e wy14 ⟨⟨M0, M1, M2, M3, M4, rfl, hML⟩, bby14⟩)
        try clear hK K
        obtain ⟨m0, m1, m2, m3, m4⟩ := limbs_of5 hM.1 hM1 hML
        have swy14 := swy13.below bby14 swy13.lt
        have Bwy14 := ac Bwy13 bby14
        have Pwy14 := Pwy13.below bby14
        have lwy14 := lwy13.below bby14 lwy13.lt
        obtain ⟨a0y14, a1y14, a2y14, a3y14, a4y14, _⟩ := swy14.full5
        refine wpAnyIn_ready (rs := [4]) (by kernel_rfl) (by simp) (AllReadyIn.cons rfl (fun K hK => ?_) AllReadyIn.nil)
        go_simp
        gi_wp2_with (gi_at_call 221; refine (hlift _ _ _ _ _ (plus_any S0 S1 S2 S3 S4 M0 M1 M2 M3 M4 wy14 (by omega) (by omega) (by omega) (by omega) (by omega))).mono ?_; rintro e wy15 ⟨rfl, bby15⟩)
        try clear hK K
        have swy15 := swy14.below bby15 swy14.lt
        have Bwy15 := ac Bwy14 bby15
        have Pwy15 := Pwy14.below bby15
        have lwy15 := lwy14.below bby15 lwy14.lt
        obtain ⟨a0y15, a1y15, a2y15, a3y15, a4y15, _⟩ := swy15.full5
        refine wpAnyIn_ready (rs := [5]) (by kernel_rfl) (by simp) (AllReadyIn.cons rfl (fun K hK => ?_) AllReadyIn.nil)
        go_simp
        gi_wp2_with (gi_at_call 223; refine (hlift _ _ _ _ _ (carried_ex (S0 + M0) (S1 + M1) (S2 + M2) (S3 + M3) (S4 + M4) wy15 (by omega) (by omega) (by omega) (by omega) (by omega))).mono ?_; rintro e wy16 ⟨⟨D0, D1, D2, D3, D4, O, rfl, hC⟩, bby16⟩)
        try clear hK K
        have swy16 := swy15.below bby16 swy15.lt
        have Bwy16 := ac Bwy15 bby16
        have Pwy16 := Pwy15.below bby16
        have lwy16 := lwy15.below bby16 lwy15.lt
        obtain ⟨a0y16, a1y16, a2y16, a3y16, a4y16, _⟩ := swy16.full5
        refine wpAnyIn_ready (rs := [6]) (by kernel_rfl) (by simp) (AllReadyIn.cons rfl (fun K hK => ?_) AllReadyIn.nil)
        go_simp
        refine hK _ _ ?_
        clear hK K
        refine wpAnyIn_take (i := 7) (v := .agg #[.int .u64 D0, .int .u64 D1, .int .u64 D2, .int .u64 D3, .int .u64 D4]) hro rfl (by kernel_rfl) (by kernel_rfl) (by kernel_rfl) (fun _ _ _ h => h) ?_ ?_
        · exact ⟨Or.inl ⟨by rfl, fun w => by go_simp⟩, fun _ => rfl⟩
        go_simp
        refine wpAnyIn_take (i := 8) (v := .int .u64 O) hro rfl (by kernel_rfl) (by kernel_rfl) (by kernel_rfl) (fun _ _ _ h => h) ?_ ?_
        · exact ⟨Or.inl ⟨by rfl, fun w => by go_simp⟩, fun _ => rfl⟩
        go_simp
        refine wpAnyIn_ready (rs := [10]) (by kernel_rfl) (by simp) (AllReadyIn.cons rfl (fun K hK => ?_) AllReadyIn.nil)
        obtain ⟨u0y17, u1y17, u2y17, u3y17, u4y17, v0y17, v1y17, v2y17, v3y17, v4y17⟩ := lwy16.full5
        go_simp
        refine hK _ _ ?_
        clear hK K
        refine wpAnyIn_ready (rs := [11]) (by kernel_rfl) (by simp) (AllReadyIn.cons rfl (fun K hK => ?_) AllReadyIn.nil)
        go_simp
        refine hK _ _ ?_
        clear hK K
        refine wpAnyIn_done (by kernel_rfl) ?_ _
        dsimp only [OnlyNormal]
        have hS := below5 Bwy16 zzy13 (.int .u64 D0) (.int .u64 D1) (.int .u64 D2) (.int .u64 D3) (.int .u64 D4)
        have hSC := set5 rfl lwy16 D0 D1 D2 D3 D4
        have hV : lowOf (val5 [D0, D1, D2, D3, D4]) 16 = lowOf (AC + MB) 16 := tag_low2 hC hSL hML
        obtain ⟨t0, t1, t2, t3, t4, _⟩ := hSC.full5
        generalize World.setCell _ ⟨gy13, 4, none⟩ _ = wy at *
        gi_wp2_with (gi_at_call 224; refine (hlift _ _ _ _ _ (tag_any D0 D1 D2 D3 D4 _ hC.1 hC.2.1 hC.2.2.1 hC.2.2.2.1 hC.2.2.2.2.1)).mono ?_; rintro e wz ⟨⟨gz, cz, rfl, rz⟩, bz⟩)
        rw [hV] at rz
        have hDy : D < wy.heap.size := Nat.lt_of_lt_of_le hDd hS.size
        have hKz : wz.heap[D]? = some (.deferred (some [])) := (bz.block D hDy).trans ((hS.block D hDd).trans hKd)
        refine ⟨by simp, .inl ⟨_, _, rfl, run_takeDeferred hKz, ?_⟩⟩
        refine ⟨_, results_tmp rfl _ _ _, ⟨gz, cz, rfl, ?_⟩, ((hB0.trans (hS.mono hB0.size)).trans (bz.mono (Nat.le_trans hB0.size hS.size))).trans (belowK_b (w := w) (Nat.le_refl _) wz D _ _ (by omega) hKz rfl rfl)⟩
        rw [HT.out]
        exact (rz.keep (fun g h1 _ => putObj_other wz D _ g (by omega))).mono (Nat.le_trans hB0.size hS.size)
    · go_simp
      gi_wp2_with (gi_at_call 219; refine (hlift _ _ _ _ _ (G3.out _ Pw0)).mono ?_; rintro e wy18 ⟨⟨M0, M1, M2, M3, M4, rfl, hML⟩, bby18⟩)
      try clear hK K
      obtain ⟨m0, m1, m2, m3, m4⟩ := limbs_of5 hM.1 hM1 hML
      have swy18 := sw0.below bby18 sw0.lt
      have Bwy18 := ac Bw0 bby18
      have Pwy18 := Pw0.below bby18
      obtain ⟨a0y18, a1y18, a2y18, a3y18, a4y18, _⟩ := swy18.full5
      refine wpAnyIn_ready (rs := [0, 9]) (by kernel_rfl) (by simp) (AllReadyIn.cons rfl (fun K hK => ?_) (AllReadyIn.cons rfl (fun K hK => ?_) AllReadyIn.nil))
      · go_simp
        refine hK _ _ ?_
        clear hK K
        refine wpAnyIn_ready (rs := [4, 9]) (by kernel_rfl) (by simp) (AllReadyIn.cons rfl (fun K hK => ?_) (AllReadyIn.cons rfl (fun K hK => ?_) AllReadyIn.nil))
        · go_simp
          gi_wp2_with (gi_at_call 221; refine (hlift _ _ _ _ _ (plus_any S0 S1 S2 S3 S4 M0 M1 M2 M3 M4 wy18 (by omega) (by omega) (by omega) (by omega) (by omega))).mono ?_; rintro e wy19 ⟨rfl, bby19⟩)
          try clear hK K
          have swy19 := swy18.below bby19 swy18.lt
          have Bwy19 := ac Bwy18 bby19
          have Pwy19 := Pwy18.below bby19
          obtain ⟨a0y19, a1y19, a2y19, a3y19, a4y19, _⟩ := swy19.full5
          refine wpAnyIn_ready (rs := [5, 9]) (by kernel_rfl) (by simp) (AllReadyIn.cons rfl (fun K hK => ?_) (AllReadyIn.cons rfl (fun K hK => ?_) AllReadyIn.nil))
          · go_simp
            gi_wp2_with (gi_at_call 223; refine (hlift _ _ _ _ _ (carried_ex (S0 + M0) (S1 + M1) (S2 + M2) (S3 + M3) (S4 + M4) wy19 (by omega) (by omega) (by omega) (by omega) (by omega))).mono ?_; rintro e wy20 ⟨⟨D0, D1, D2, D3, D4, O, rfl, hC⟩, bby20⟩)
            try clear hK K
            have swy20 := swy19.below bby20 swy19.lt
            have Bwy20 := ac Bwy19 bby20
            have Pwy20 := Pwy19.below bby20
            obtain ⟨a0y20, a1y20, a2y20, a3y20, a4y20, _⟩ := swy20.full5
            refine wpAnyIn_take (i := 6) (v := .tuple #[.agg #[.int .u64 D0, .int .u64 D1, .int .u64 D2, .int .u64 D3, .int .u64 D4], .int .u64 O]) hro rfl (by kernel_rfl) (by kernel_rfl) (by kernel_rfl) (fun _ _ _ h => h) ?_ ?_
            · exact ⟨Or.inl ⟨by rfl, fun w => by go_simp⟩, fun _ => rfl⟩
            go_simp
            refine wpAnyIn_take (i := 7) (v := .agg #[.int .u64 D0, .int .u64 D1, .int .u64 D2, .int .u64 D3, .int .u64 D4]) hro rfl (by kernel_rfl) (by kernel_rfl) (by kernel_rfl) (fun _ _ _ h => h) ?_ ?_
            · exact ⟨Or.inl ⟨by rfl, fun w => by go_simp⟩, fun _ => rfl⟩
            go_simp
            refine wpAnyIn_take (i := 8) (v := .int .u64 O) hro rfl (by kernel_rfl) (by kernel_rfl) (by kernel_rfl) (fun _ _ _ h => h) ?_ ?_
            · exact ⟨Or.inl ⟨by rfl, fun w => by go_simp⟩, fun _ => rfl⟩
            go_simp
            refine wpAnyIn_ready (rs := [9]) (by kernel_rfl) (by simp) (AllReadyIn.cons rfl (fun K hK => ?_) AllReadyIn.nil)
            go_simp
            refine hK _ _ ?_
            clear hK K
            have ly21 := kow5 wy20 0 0 0 0 0 212
            have zy21 : wy20.heap.size < (wy20.alloc (.cells #[.int .u64 0, .int .u64 0, .int .u64 0, .int .u64 0, .int .u64 0] 212)).heap.size := by simp
            have sy21 := swy20.below (ab (Below.refl _ wy20) (.cells #[.int .u64 0, .int .u64 0, .int .u64 0, .int .u64 0, .int .u64 0] 212)) swy20.lt
            have By21 := ab Bwy20 (.cells #[.int .u64 0, .int .u64 0, .int .u64 0, .int .u64 0, .int .u64 0] 212)
            have Py21 := Pwy20.below (ab (Below.refl _ wy20) (.cells #[.int .u64 0, .int .u64 0, .int .u64 0, .int .u64 0, .int .u64 0] 212))
            obtain ⟨gy21, hiy21⟩ : ∃ g, g = wy20.heap.size := ⟨_, rfl⟩
            have zzy21 : w0.heap.size ≤ gy21 := by have := Bwy20.size; omega
            rw [← hiy21] at ly21 zy21 ⊢
            generalize hgy21 : wy20.alloc (.cells #[.int .u64 0, .int .u64 0, .int .u64 0, .int .u64 0, .int .u64 0] 212) = wy21 at *
            clear hgy21 hiy21
            obtain ⟨a0y21, a1y21, a2y21, a3y21, a4y21, _⟩ := sy21.full5
            have swy21 := sy21
            have Bwy21 := By21
            have lwy21 := ly21
            have Pwy21 := Py21
            refine wpAnyIn_ready (rs := [10]) (by kernel_rfl) (by simp) (AllReadyIn.cons rfl (fun K hK => ?_) AllReadyIn.nil)
            obtain ⟨u0y22, u1y22, u2y22, u3y22, u4y22, v0y22, v1y22, v2y22, v3y22, v4y22⟩ := lwy21.full5
            go_simp
            refine hK _ _ ?_
            clear hK K
            refine wpAnyIn_ready (rs := [11]) (by kernel_rfl) (by simp) (AllReadyIn.cons rfl (fun K hK => ?_) AllReadyIn.nil)
            go_simp
            refine hK _ _ ?_
            clear hK K
            refine wpAnyIn_done (by kernel_rfl) ?_ _
            dsimp only [OnlyNormal]
            have hS := below5 Bwy21 zzy21 (.int .u64 D0) (.int .u64 D1) (.int .u64 D2) (.int .u64 D3) (.int .u64 D4)
            have hSC := set5 rfl lwy21 D0 D1 D2 D3 D4
            have hV : lowOf (val5 [D0, D1, D2, D3, D4]) 16 = lowOf (AC + MB) 16 := tag_low2 hC hSL hML
            obtain ⟨t0, t1, t2, t3, t4, _⟩ := hSC.full5
            generalize World.setCell _ ⟨gy21, 4, none⟩ _ = wy at *
            gi_wp2_with (gi_at_call 224; refine (hlift _ _ _ _ _ (tag_any D0 D1 D2 D3 D4 _ hC.1 hC.2.1 hC.2.2.1 hC.2.2.2.1 hC.2.2.2.2.1)).mono ?_; rintro e wz ⟨⟨gz, cz, rfl, rz⟩, bz⟩)
            rw [hV] at rz
            have hDy : D < wy.heap.size := Nat.lt_of_lt_of_le hDd hS.size
            have hKz : wz.heap[D]? = some (.deferred (some [])) := (bz.block D hDy).trans ((hS.block D hDd).trans hKd)
            refine ⟨by simp, .inl ⟨_, _, rfl, run_takeDeferred hKz, ?_⟩⟩
            refine ⟨_, results_tmp rfl _ _ _, ⟨gz, cz, rfl, ?_⟩, ((hB0.trans (hS.mono hB0.size)).trans (bz.mono (Nat.le_trans hB0.size hS.size))).trans (belowK_b (w := w) (Nat.le_refl _) wz D _ _ (by omega) hKz rfl rfl)⟩
            rw [HT.out]
            exact (rz.keep (fun g h1 _ => putObj_other wz D _ g (by omega))).mono (Nat.le_trans hB0.size hS.size)
          · go_simp
            refine hK _ _ ?_
            clear hK K
            have ly23 := kow5 wy19 0 0 0 0 0 212
            have zy23 : wy19.heap.size < (wy19.alloc (.cells #[.int .u64 0, .int .u64 0, .int .u64 0, .int .u64 0, .int .u64 0] 212)).heap.size := by simp
            have sy23 := swy19.below (ab (Below.refl _ wy19) (.cells #[.int .u64 0, .int .u64 0, .int .u64 0, .int .u64 0, .int .u64 0] 212)) swy19.lt
            have By23 := ab Bwy19 (.cells #[.int .u64 0, .int .u64 0, .int .u64 0, .int .u64 0, .int .u64 0] 212)
            have Py23 := Pwy19.below (ab (Below.refl _ wy19) (.cells #[.int .u64 0, .int .u64 0, .int .u64 0, .int .u64 0, .int .u64 0] 212))
            obtain ⟨gy23, hiy23⟩ : ∃ g, g = wy19.heap.size := ⟨_, rfl⟩
            have zzy23 : w0.heap.size ≤ gy23 := by have := Bwy19.size; omega
            rw [← hiy23] at ly23 zy23 ⊢
            generalize hgy23 : wy19.alloc (.cells #[.int .u64 0, .int .u64 0, .int .u64 0, .int .u64 0, .int .u64 0] 212) = wy23 at *
            clear hgy23 hiy23
            obtain ⟨a0y23, a1y23, a2y23, a3y23, a4y23, _⟩ := sy23.full5
            have swy23 := sy23
            have Bwy23 := By23
            have lwy23 := ly23
            have Pwy23 := Py23
            refine wpAnyIn_ready (rs := [5]) (by kernel_rfl) (by simp) (AllReadyIn.cons rfl (fun K hK => ?_) AllReadyIn.nil)
            go_simp
            gi_wp2_with (gi_at_call 223; refine (hlift _ _ _ _ _ (carried_ex (S0 + M0) (S1 + M1) (S2 + M2) (S3 + M3) (S4 + M4) wy23 (by omega) (by omega) (by omega) (by omega) (by omega))).mono ?_; rintro e wy24 ⟨⟨D0, D1, D2, D3, D4, O, rfl, hC⟩, bby24⟩)
            try clear hK K
            have swy24 := swy23.below bby24 swy23.lt
            have Bwy24 := ac Bwy23 bby24
            have Pwy24 := Pwy23.below bby24
            have lwy24 := lwy23.below bby24 lwy23.lt
            obtain ⟨a0y24, a1y24, a2y24, a3y24, a4y24, _⟩ := swy24.full5
            refine wpAnyIn_ready (rs := [6]) (by kernel_rfl) (by simp) (AllReadyIn.cons rfl (fun K hK => ?_) AllReadyIn.nil)
            go_simp
            refine hK _ _ ?_
            clear hK K
            refine wpAnyIn_take (i := 7) (v := .agg #[.int .u64 D0, .int .u64 D1, .int .u64 D2, .int .u64 D3, .int .u64 D4]) hro rfl (by kernel_rfl) (by kernel_rfl) (by kernel_rfl) (fun _ _ _ h => h) ?_ ?_
            · exact ⟨Or.inl ⟨by rfl, fun w => by go_simp⟩, fun _ => rfl⟩
            go_simp
            refine wpAnyIn_take (i := 8) (v := .int .u64 O) hro rfl (by kernel_rfl) (by kernel_rfl) (by kernel_rfl) (fun _ _ _ h => h) ?_ ?_
            · exact ⟨Or.inl ⟨by rfl, fun w => by go_simp⟩, fun _ => rfl⟩
            go_simp
            refine wpAnyIn_ready (rs := [10]) (by kernel_rfl) (by simp) (AllReadyIn.cons rfl (fun K hK => ?_) AllReadyIn.nil)
            obtain ⟨u0y25, u1y25, u2y25, u3y25, u4y25, v0y25, v1y25, v2y25, v3y25, v4y25⟩ := lwy24.full5
            go_simp
            refine hK _ _ ?_
            clear hK K
            refine wpAnyIn_ready (rs := [11]) (by kernel_rfl) (by simp) (AllReadyIn.cons rfl (fun K hK => ?_) AllReadyIn.nil)
            go_simp
            refine hK _ _ ?_
            clear hK K
            refine wpAnyIn_done (by kernel_rfl) ?_ _
            dsimp only [OnlyNormal]
            have hS := below5 Bwy24 zzy23 (.int .u64 D0) (.int .u64 D1) (.int .u64 D2) (.int .u64 D3) (.int .u64 D4)
            have hSC := set5 rfl lwy24 D0 D1 D2 D3 D4
            have hV : lowOf (val5 [D0, D1, D2, D3, D4]) 16 = lowOf (AC + MB) 16 := tag_low2 hC hSL hML
            obtain ⟨t0, t1, t2, t3, t4, _⟩ := hSC.full5
            generalize World.setCell _ ⟨gy23, 4, none⟩ _ = wy at *
            gi_wp2_with (gi_at_call 224; refine (hlift _ _ _ _ _ (tag_any D0 D1 D2 D3 D4 _ hC.1 hC.2.1 hC.2.2.1 hC.2.2.2.1 hC.2.2.2.2.1)).mono ?_; rintro e wz ⟨⟨gz, cz, rfl, rz⟩, bz⟩)
            rw [hV] at rz
            have hDy : D < wy.heap.size := Nat.lt_of_lt_of_le hDd hS.size
            have hKz : wz.heap[D]? = some (.deferred (some [])) := (bz.block D hDy).trans ((hS.block D hDd).trans hKd)
            refine ⟨by simp, .inl ⟨_, _, rfl, run_takeDeferred hKz, ?_⟩⟩
            refine ⟨_, results_tmp rfl _ _ _, ⟨gz, cz, rfl, ?_⟩, ((hB0.trans (hS.mono hB0.size)).trans (bz.mono (Nat.le_trans hB0.size hS.size))).trans (belowK_b (w := w) (Nat.le_refl _) wz D _ _ (by omega) hKz rfl rfl)⟩
            rw [HT.out]
            exact (rz.keep (fun g h1 _ => putObj_other wz D _ g (by omega))).mono (Nat.le_trans hB0.size hS.size)
        · go_simp
          refine hK _ _ ?_
          clear hK K
          have ly26 := kow5 wy18 0 0 0 0 0 212
          have zy26 : wy18.heap.size < (wy18.alloc (.cells #[.int .u64 0, .int .u64 0, .int .u64 0, .int .u64 0, .int .u64 0] 212)).heap.size := by simp
          have sy26 := swy18.below (ab (Below.refl _ wy18) (.cells #[.int .u64 0, .int .u64 0, .int .u64 0, .int .u64 0, .int .u64 0] 212)) swy18.lt
          have By26 := ab Bwy18 (.cells #[.int .u64 0, .int .u64 0, .int .u64 0, .int .u64 0, .int .u64 0] 212)
          have Py26 := Pwy18.below (ab (Below.refl _ wy18) (.cells #[.int .u64 0, .int .u64 0, .int .u64 0, .int .u64 0, .int .u64 0] 212))
          obtain ⟨gy26, hiy26⟩ : ∃ g, g = wy18.heap.size := ⟨_, rfl⟩
          have zzy26 : w0.heap.size ≤ gy26 := by have := Bwy18.size; omega
          rw [← hiy26] at ly26 zy26 ⊢
          generalize hgy26 : wy18.alloc (.cells #[.int .u64 0, .int .u64 0, .int .u64 0, .int .u64 0, .int .u64 0] 212) = wy26 at *
          clear hgy26 hiy26
          obtain ⟨a0y26, a1y26, a2y26, a3y26, a4y26, _⟩ := sy26.full5
          have swy26 := sy26
          have Bwy26 := By26
          have lwy26 := ly26
          have Pwy26 := Py26
          refine wpAnyIn_ready (rs := [4]) (by kernel_rfl) (by simp) (AllReadyIn.cons rfl (fun K hK => ?_) AllReadyIn.nil)
          go_simp
          gi_wp2_with (gi_at_call 221; refine (hlift _ _ _ _ _ (plus_any S0 S1 S2 S3 S4 M0 M1 M2 M3 M4 wy26 (by omega) (by omega) (by omega) (by omega) (by omega))).mono ?_; rintro e wy27 ⟨rfl, bby27⟩)
          try clear hK K
          have swy27 := swy26.below bby27 swy26.lt
          have Bwy27 := ac Bwy26 bby27
          have Pwy27 := Pwy26.below bby27
          have lwy27 := lwy26.below bby27 lwy26.lt
          obtain ⟨a0y27, a1y27, a2y27, a3y27, a4y27, _⟩ := swy27.full5
          refine wpAnyIn_ready (rs := [5]) (by kernel_rfl) (by simp) (AllReadyIn.cons rfl (fun K hK => ?_) AllReadyIn.nil)
          go_simp
          gi_wp2_with (gi_at_call 223; refine (hlift _ _ _ _ _ (carried_ex (S0 + M0) (S1 + M1) (S2 + M2) (S3 + M3) (S4 + M4) wy27 (by omega) (by omega) (by omega) (by omega) (by omega))).mono ?_; rintro e wy28 ⟨⟨D0, D1, D2, D3, D4, O, rfl, hC⟩, bby28⟩)
          try clear hK K
          have swy28 := swy27.below bby28 swy27.lt
          have Bwy28 := ac Bwy27 bby28
          have Pwy28 := Pwy27.below bby28
          have lwy28 := lwy27.below bby28 lwy27.lt
          obtain ⟨a0y28, a1y28, a2y28, a3y28, a4y28, _⟩ := swy28.full5
          refine wpAnyIn_ready (rs := [6]) (by kernel_rfl) (by simp) (AllReadyIn.cons rfl (fun K hK => ?_) AllReadyIn.nil)
          go_simp
          refine hK _ _ ?_
          clear hK K
          refine wpAnyIn_take (i := 7) (v := .agg #[.int .u64 D0, .int .u64 D1, .int .u64 D2, .int .u64 D3, .int .u64 D4]) hro rfl (by kernel_rfl) (by kernel_rfl) (by kernel_rfl) (fun _ _ _ h => h) ?_ ?_
          · exact ⟨Or.inl ⟨by rfl, fun w => by go_simp⟩, fun _ => rfl⟩
          go_simp
          refine wpAnyIn_take (i := 8) (v := .int .u64 O) hro rfl (by kernel_rfl) (by kernel_rfl) (by kernel_rfl) (fun _ _ _ h => h) ?_ ?_
          · exact ⟨Or.inl ⟨by rfl, fun w => by go_simp⟩, fun _ => rfl⟩
          go_simp
          refine wpAnyIn_ready (rs := [10]) (by kernel_rfl) (by simp) (AllReadyIn.cons rfl (fun K hK => ?_) AllReadyIn.nil)
          obtain ⟨u0y29, u1y29, u2y29, u3y29, u4y29, v0y29, v1y29, v2y29, v3y29, v4y29⟩ := lwy28.full5
          go_simp
          refine hK _ _ ?_
          clear hK K
          refine wpAnyIn_ready (rs := [11]) (by kernel_rfl) (by simp) (AllReadyIn.cons rfl (fun K hK => ?_) AllReadyIn.nil)
          go_simp
          refine hK _ _ ?_
          clear hK K
          refine wpAnyIn_done (by kernel_rfl) ?_ _
          dsimp only [OnlyNormal]
          have hS := below5 Bwy28 zzy26 (.int .u64 D0) (.int .u64 D1) (.int .u64 D2) (.int .u64 D3) (.int .u64 D4)
          have hSC := set5 rfl lwy28 D0 D1 D2 D3 D4
          have hV : lowOf (val5 [D0, D1, D2, D3, D4]) 16 = lowOf (AC + MB) 16 := tag_low2 hC hSL hML
          obtain ⟨t0, t1, t2, t3, t4, _⟩ := hSC.full5
          generalize World.setCell _ ⟨gy26, 4, none⟩ _ = wy at *
          gi_wp2_with (gi_at_call 224; refine (hlift _ _ _ _ _ (tag_any D0 D1 D2 D3 D4 _ hC.1 hC.2.1 hC.2.2.1 hC.2.2.2.1 hC.2.2.2.2.1)).mono ?_; rintro e wz ⟨⟨gz, cz, rfl, rz⟩, bz⟩)
          rw [hV] at rz
          have hDy : D < wy.heap.size := Nat.lt_of_lt_of_le hDd hS.size
          have hKz : wz.heap[D]? = some (.deferred (some [])) := (bz.block D hDy).trans ((hS.block D hDd).trans hKd)
          refine ⟨by simp, .inl ⟨_, _, rfl, run_takeDeferred hKz, ?_⟩⟩
          refine ⟨_, results_tmp rfl _ _ _, ⟨gz, cz, rfl, ?_⟩, ((hB0.trans (hS.mono hB0.size)).trans (bz.mono (Nat.le_trans hB0.size hS.size))).trans (belowK_b (w := w) (Nat.le_refl _) wz D _ _ (by omega) hKz rfl rfl)⟩
          rw [HT.out]
          exact (rz.keep (fun g h1 _ => putObj_other wz D _ g (by omega))).mono (Nat.le_trans hB0.size hS.size)
      · go_simp
        refine hK _ _ ?_
        clear hK K
        have ly30 := kow5 wy18 0 0 0 0 0 212
        have zy30 : wy18.heap.size < (wy18.alloc (.cells #[.int .u64 0, .int .u64 0, .int .u64 0, .int .u64 0, .int .u64 0] 212)).heap.size := by simp
        have sy30 := swy18.below (ab (Below.refl _ wy18) (.cells #[.int .u64 0, .int .u64 0, .int .u64 0, .int .u64 0, .int .u64 0] 212)) swy18.lt
        have By30 := ab Bwy18 (.cells #[.int .u64 0, .int .u64 0, .int .u64 0, .int .u64 0, .int .u64 0] 212)
        have Py30 := Pwy18.below (ab (Below.refl _ wy18) (.cells #[.int .u64 0, .int .u64 0, .int .u64 0, .int .u64 0, .int .u64 0] 212))
        obtain ⟨gy30, hiy30⟩ : ∃ g, g = wy18.heap.size := ⟨_, rfl⟩
        have zzy30 : w0.heap.size ≤ gy30 := by have := Bwy18.size; omega
        rw [← hiy30] at ly30 zy30 ⊢
        generalize hgy30 : wy18.alloc (.cells #[.int .u64 0, .int .u64 0, .int .u64 0, .int .u64 0, .int .u64 0] 212) = wy30 at *
        clear hgy30 hiy30
        obtain ⟨a0y30, a1y30, a2y30, a3y30, a4y30, _⟩ := sy30.full5
        have swy30 := sy30
        have Bwy30 := By30
        have lwy30 := ly30
        have Pwy30 := Py30
        refine wpAnyIn_ready (rs := [0]) (by kernel_rfl) (by simp) (AllReadyIn.cons rfl (fun K hK => ?_) AllReadyIn.nil)
        go_simp
        refine hK _ _ ?_
        clear hK K
        refine wpAnyIn_ready (rs := [4]) (by kernel_rfl) (by simp) (AllReadyIn.cons rfl (fun K hK => ?_) AllReadyIn.nil)
        go_simp
        gi_wp2_with (gi_at_call 221; refine (hlift _ _ _ _ _ (plus_any S0 S1 S2 S3 S4 M0 M1 M2 M3 M4 wy30 (by omega) (by omega) (by omega) (by omega) (by omega))).mono ?_; rintro e wy31 ⟨rfl, bby31⟩)
        try clear hK K
        have swy31 := swy30.below bby31 swy30.lt
        have Bwy31 := ac Bwy30 bby31
        have Pwy31 := Pwy30.below bby31
        have lwy31 := lwy30.below bby31 lwy30.lt
        obtain ⟨a0y31, a1y31, a2y31, a3y31, a4y31, _⟩ := swy31.full5
        refine wpAnyIn_ready (rs := [5]) (by kernel_rfl) (by simp) (AllReadyIn.cons rfl (fun K hK => ?_) AllReadyIn.nil)
        go_simp
        gi_wp2_with (gi_at_call 223; refine (hlift _ _ _ _ _ (carried_ex (S0 + M0) (S1 + M1) (S2 + M2) (S3 + M3) (S4 + M4) wy31 (by omega) (by omega) (by omega) (by omega) (by omega))).mono ?_; rintro e wy32 ⟨⟨D0, D1, D2, D3, D4, O, rfl, hC⟩, bby32⟩)
        try clear hK K
        have swy32 := swy31.below bby32 swy31.lt
        have Bwy32 := ac Bwy31 bby32
        have Pwy32 := Pwy31.below bby32
        have lwy32 := lwy31.below bby32 lwy31.lt
        obtain ⟨a0y32, a1y32, a2y32, a3y32, a4y32, _⟩ := swy32.full5
        refine wpAnyIn_ready (rs := [6]) (by kernel_rfl) (by simp) (AllReadyIn.cons rfl (fun K hK => ?_) AllReadyIn.nil)
        go_simp
        refine hK _ _ ?_
        clear hK K
        refine wpAnyIn_take (i := 7) (v := .agg #[.int .u64 D0, .int .u64 D1, .int .u64 D2, .int .u64 D3, .int .u64 D4]) hro rfl (by kernel_rfl) (by kernel_rfl) (by kernel_rfl) (fun _ _ _ h => h) ?_ ?_
        · exact ⟨Or.inl ⟨by rfl, fun w => by go_simp⟩, fun _ => rfl⟩
        go_simp
        refine wpAnyIn_take (i := 8) (v := .int .u64 O) hro rfl (by kernel_rfl) (by kernel_rfl) (by kernel_rfl) (fun _ _ _ h => h) ?_ ?_
        · exact ⟨Or.inl ⟨by rfl, fun w => by go_simp⟩, fun _ => rfl⟩
        go_simp
        refine wpAnyIn_ready (rs := [10]) (by kernel_rfl) (by simp) (AllReadyIn.cons rfl (fun K hK => ?_) AllReadyIn.nil)
        obtain ⟨u0y33, u1y33, u2y33, u3y33, u4y33, v0y33, v1y33, v2y33, v3y33, v4y33⟩ := lwy32.full5
        go_simp
        refine hK _ _ ?_
        clear hK K
        refine wpAnyIn_ready (rs := [11]) (by kernel_rfl) (by simp) (AllReadyIn.cons rfl (fun K hK => ?_) AllReadyIn.nil)
        go_simp
        refine hK _ _ ?_
        clear hK K
        refine wpAnyIn_done (by kernel_rfl) ?_ _
        dsimp only [OnlyNormal]
        have hS := below5 Bwy32 zzy30 (.int .u64 D0) (.int .u64 D1) (.int .u64 D2) (.int .u64 D3) (.int .u64 D4)
        have hSC := set5 rfl lwy32 D0 D1 D2 D3 D4
        have hV : lowOf (val5 [D0, D1, D2, D3, D4]) 16 = lowOf (AC + MB) 16 := tag_low2 hC hSL hML
        obtain ⟨t0, t1, t2, t3, t4, _⟩ := hSC.full5
        generalize World.setCell _ ⟨gy30, 4, none⟩ _ = wy at *
        gi_wp2_with (gi_at_call 224; refine (hlift _ _ _ _ _ (tag_any D0 D1 D2 D3 D4 _ hC.1 hC.2.1 hC.2.2.1 hC.2.2.2.1 hC.2.2.2.2.1)).mono ?_; rintro e wz ⟨⟨gz, cz, rfl, rz⟩, bz⟩)
        rw [hV] at rz
        have hDy : D < wy.heap.size := Nat.lt_of_lt_of_le hDd hS.size
        have hKz : wz.heap[D]? = some (.deferred (some [])) := (bz.block D hDy).trans ((hS.block D hDd).trans hKd)
        refine ⟨by simp, .inl ⟨_, _, rfl, run_takeDeferred hKz, ?_⟩⟩
        refine ⟨_, results_tmp rfl _ _ _, ⟨gz, cz, rfl, ?_⟩, ((hB0.trans (hS.mono hB0.size)).trans (bz.mono (Nat.le_trans hB0.size hS.size))).trans (belowK_b (w := w) (Nat.le_refl _) wz D _ _ (by omega) hKz rfl rfl)⟩
        rw [HT.out]
        exact (rz.keep (fun g h1 _ => putObj_other wz D _ g (by omega))).mono (Nat.le_trans hB0.size hS.size)
    · go_simp
      refine hK _ _ ?_
      clear hK K
      have ly34 := kow5 w0 0 0 0 0 0 212
      have zy34 : w0.heap.size < (w0.alloc (.cells #[.int .u64 0, .int .u64 0, .int .u64 0, .int .u64 0, .int .u64 0] 212)).heap.size := by simp
      have sy34 := sw0.below (ab (Below.refl _ w0) (.cells #[.int .u64 0, .int .u64 0, .int .u64 0, .int .u64 0, .int .u64 0] 212)) sw0.lt
      have By34 := ab Bw0 (.cells #[.int .u64 0, .int .u64 0, .int .u64 0, .int .u64 0, .int .u64 0] 212)
      have Py34 := Pw0.below (ab (Below.refl _ w0) (.cells #[.int .u64 0, .int .u64 0, .int .u64 0, .int .u64 0, .int .u64 0] 212))
      obtain ⟨gy34, hiy34⟩ : ∃ g, g = w0.heap.size := ⟨_, rfl⟩
      have zzy34 : w0.heap.size ≤ gy34 := by have := Bw0.size; omega
      rw [← hiy34] at ly34 zy34 ⊢
      generalize hgy34 : w0.alloc (.cells #[.int .u64 0, .int .u64 0, .int .u64 0, .int .u64 0, .int .u64 0] 212) = wy34 at *
      clear hgy34 hiy34
      obtain ⟨a0y34, a1y34, a2y34, a3y34, a4y34, _⟩ := sy34.full5
      have swy34 := sy34
      have Bwy34 := By34
      have lwy34 := ly34
      have Pwy34 := Py34
      refine wpAnyIn_ready (rs := [0, 3]) (by kernel_rfl) (by simp) (AllReadyIn.cons rfl (fun K hK => ?_) (AllReadyIn.cons rfl (fun K hK => ?_) AllReadyIn.nil))
      · go_simp
        refine hK _ _ ?_
        clear hK K
        refine wpAnyIn_ready (rs := [3]) (by kernel_rfl) (by simp) (AllReadyIn.cons rfl (fun K hK => ?_) AllReadyIn.nil)
        go_simp
        gi_wp2_with (gi_at_call 219; refine (hlift _ _ _ _ _ (G3.out _ Pwy34)).mono ?_; rintro e wy35 ⟨⟨M0, M1, M2, M3, M4, rfl, hML⟩, bby35⟩)
        try clear hK K
        obtain ⟨m0, m1, m2, m3, m4⟩ := limbs_of5 hM.1 hM1 hML
        have swy35 := swy34.below bby35 swy34.lt
        have Bwy35 := ac Bwy34 bby35
        have Pwy35 := Pwy34.below bby35
        have lwy35 := lwy34.below bby35 lwy34.lt
        obtain ⟨a0y35, a1y35, a2y35, a3y35, a4y35, _⟩ := swy35.full5
        refine wpAnyIn_ready (rs := [4]) (by kernel_rfl) (by simp) (AllReadyIn.cons rfl (fun K hK => ?_) AllReadyIn.nil)
        go_simp
        gi_wp2_with (gi_at_call 221; refine (hlift _ _ _ _ _ (plus_any S0 S1 S2 S3 S4 M0 M1 M2 M3 M4 wy35 (by omega) (by omega) (by omega) (by omega) (by omega))).mono ?_; rintro e wy36 ⟨rfl, bby36⟩)
        try clear hK K
        have swy36 := swy35.below bby36 swy35.lt
        have Bwy36 := ac Bwy35 bby36
        have Pwy36 := Pwy35.below bby36
        have lwy36 := lwy35.below bby36 lwy35.lt
        obtain ⟨a0y36, a1y36, a2y36, a3y36, a4y36, _⟩ := swy36.full5
        refine wpAnyIn_ready (rs := [5]) (by kernel_rfl) (by simp) (AllReadyIn.cons rfl (fun K hK => ?_) AllReadyIn.nil)
        go_simp
        gi_wp2_with (gi_at_call 223; refine (hlift _ _ _ _ _ (carried_ex (S0 + M0) (S1 + M1) (S2 + M2) (S3 + M3) (S4 + M4) wy36 (by omega) (by omega) (by omega) (by omega) (by omega))).mono ?_; rintro e wy37 ⟨⟨D0, D1, D2, D3, D4, O, rfl, hC⟩, bby37⟩)
        try clear hK K
        have swy37 := swy36.below bby37 swy36.lt
        have Bwy37 := ac Bwy36 bby37
        have Pwy37 := Pwy36.below bby37
        have lwy37 := lwy36.below bby37 lwy36.lt
        obtain ⟨a0y37, a1y37, a2y37, a3y37, a4y37, _⟩ := swy37.full5
        refine wpAnyIn_ready (rs := [6]) (by kernel_rfl) (by simp) (AllReadyIn.cons rfl (fun K hK => ?_) AllReadyIn.nil)
        go_simp
        refine hK _ _ ?_
        clear hK K
        refine wpAnyIn_take (i := 7) (v := .agg #[.int .u64 D0, .int .u64 D1, .int .u64 D2, .int .u64 D3, .int .u64 D4]) hro rfl (by kernel_rfl) (by kernel_rfl) (by kernel_rfl) (fun _ _ _ h => h) ?_ ?_
        · exact ⟨Or.inl ⟨by rfl, fun w => by go_simp⟩, fun _ => rfl⟩
        go_simp
        refine wpAnyIn_take (i := 8) (v := .int .u64 O) hro rfl (by kernel_rfl) (by kernel_rfl) (by kernel_rfl) (fun _ _ _ h => h) ?_ ?_
        · exact ⟨Or.inl ⟨by rfl, fun w => by go_simp⟩, fun _ => rfl⟩
        go_simp
        refine wpAnyIn_ready (rs := [10]) (by kernel_rfl) (by simp) (AllReadyIn.cons rfl (fun K hK => ?_) AllReadyIn.nil)
        obtain ⟨u0y38, u1y38, u2y38, u3y38, u4y38, v0y38, v1y38, v2y38, v3y38, v4y38⟩ := lwy37.full5
        go_simp
        refine hK _ _ ?_
        clear hK K
        refine wpAnyIn_ready (rs := [11]) (by kernel_rfl) (by simp) (AllReadyIn.cons rfl (fun K hK => ?_) AllReadyIn.nil)
        go_simp
        refine hK _ _ ?_
        clear hK K
        refine wpAnyIn_done (by kernel_rfl) ?_ _
        dsimp only [OnlyNormal]
        have hS := below5 Bwy37 zzy34 (.int .u64 D0) (.int .u64 D1) (.int .u64 D2) (.int .u64 D3) (.int .u64 D4)
        have hSC := set5 rfl lwy37 D0 D1 D2 D3 D4
        have hV : lowOf (val5 [D0, D1, D2, D3, D4]) 16 = lowOf (AC + MB) 16 := tag_low2 hC hSL hML
        obtain ⟨t0, t1, t2, t3, t4, _⟩ := hSC.full5
        generalize World.setCell _ ⟨gy34, 4, none⟩ _ = wy at *
        gi_wp2_with (gi_at_call 224; refine (hlift _ _ _ _ _ (tag_any D0 D1 D2 D3 D4 _ hC.1 hC.2.1 hC.2.2.1 hC.2.2.2.1 hC.2.2.2.2.1)).mono ?_; rintro e wz ⟨⟨gz, cz, rfl, rz⟩, bz⟩)
        rw [hV] at rz
        have hDy : D < wy.heap.size := Nat.lt_of_lt_of_le hDd hS.size
        have hKz : wz.heap[D]? = some (.deferred (some [])) := (bz.block D hDy).trans ((hS.block D hDd).trans hKd)
        refine ⟨by simp, .inl ⟨_, _, rfl, run_takeDeferred hKz, ?_⟩⟩
        refine ⟨_, results_tmp rfl _ _ _, ⟨gz, cz, rfl, ?_⟩, ((hB0.trans (hS.mono hB0.size)).trans (bz.mono (Nat.le_trans hB0.size hS.size))).trans (belowK_b (w := w) (Nat.le_refl _) wz D _ _ (by omega) hKz rfl rfl)⟩
        rw [HT.out]
        exact (rz.keep (fun g h1 _ => putObj_other wz D _ g (by omega))).mono (Nat.le_trans hB0.size hS.size)
      · go_simp
        gi_wp2_with (gi_at_call 219; refine (hlift _ _ _ _ _ (G3.out _ Pwy34)).mono ?_; rintro e wy39 ⟨⟨M0, M1, M2, M3, M4, rfl, hML⟩, bby39⟩)
        try clear hK K
        obtain ⟨m0, m1, m2, m3, m4⟩ := limbs_of5 hM.1 hM1 hML
        have swy39 := swy34.below bby39 swy34.lt
        have Bwy39 := ac Bwy34 bby39
        have Pwy39 := Pwy34.below bby39
        have lwy39 := lwy34.below bby39 lwy34.lt
        obtain ⟨a0y39, a1y39, a2y39, a3y39, a4y39, _⟩ := swy39.full5
        refine wpAnyIn_ready (rs := [0]) (by kernel_rfl) (by simp) (AllReadyIn.cons rfl (fun K hK => ?_) AllReadyIn.nil)
        go_simp
        refine hK _ _ ?_
        clear hK K
        refine wpAnyIn_ready (rs := [4]) (by kernel_rfl) (by simp) (AllReadyIn.cons rfl (fun K hK => ?_) AllReadyIn.nil)
        go_simp
        gi_wp2_with (gi_at_call 221; refine (hlift _ _ _ _ _ (plus_any S0 S1 S2 S3 S4 M0 M1 M2 M3 M4 wy39 (by omega) (by omega) (by omega) (by omega) (by omega))).mono ?_; rintro e wy40 ⟨rfl, bby40⟩)
        try clear hK K
        have swy40 := swy39.below bby40 swy39.lt
        have Bwy40 := ac Bwy39 bby40
        have Pwy40 := Pwy39.below bby40
        have lwy40 := lwy39.below bby40 lwy39.lt
        obtain ⟨a0y40, a1y40, a2y40, a3y40, a4y40, _⟩ := swy40.full5
        refine wpAnyIn_ready (rs := [5]) (by kernel_rfl) (by simp) (AllReadyIn.cons rfl (fun K hK => ?_) AllReadyIn.nil)
        go_simp
        gi_wp2_with (gi_at_call 223; refine (hlift _ _ _ _ _ (carried_ex (S0 + M0) (S1 + M1) (S2 + M2) (S3 + M3) (S4 + M4) wy40 (by omega) (by omega) (by omega) (by omega) (by omega))).mono ?_; rintro e wy41 ⟨⟨D0, D1, D2, D3, D4, O, rfl, hC⟩, bby41⟩)
        try clear hK K
        have swy41 := swy40.below bby41 swy40.lt
        have Bwy41 := ac Bwy40 bby41
        have Pwy41 := Pwy40.below bby41
        have lwy41 := lwy40.below bby41 lwy40.lt
        obtain ⟨a0y41, a1y41, a2y41, a3y41, a4y41, _⟩ := swy41.full5
        refine wpAnyIn_ready (rs := [6]) (by kernel_rfl) (by simp) (AllReadyIn.cons rfl (fun K hK => ?_) AllReadyIn.nil)
        go_simp
        refine hK _ _ ?_
        clear hK K
        refine wpAnyIn_take (i := 7) (v := .agg #[.int .u64 D0, .int .u64 D1, .int .u64 D2, .int .u64 D3, .int .u64 D4]) hro rfl (by kernel_rfl) (by kernel_rfl) (by kernel_rfl) (fun _ _ _ h => h) ?_ ?_
        · exact ⟨Or.inl ⟨by rfl, fun w => by go_simp⟩, fun _ => rfl⟩
        go_simp
        refine wpAnyIn_take (i := 8) (v := .int .u64 O) hro rfl (by kernel_rfl) (by kernel_rfl) (by kernel_rfl) (fun _ _ _ h => h) ?_ ?_
        · exact ⟨Or.inl ⟨by rfl, fun w => by go_simp⟩, fun _ => rfl⟩
        go_simp
        refine wpAnyIn_ready (rs := [10]) (by kernel_rfl) (by simp) (AllReadyIn.cons rfl (fun K hK => ?_) AllReadyIn.nil)
        obtain ⟨u0y42, u1y42, u2y42, u3y42, u4y42, v0y42, v1y42, v2y42, v3y42, v4y42⟩ := lwy41.full5
        go_simp
        refine hK _ _ ?_
        clear hK K
        refine wpAnyIn_ready (rs := [11]) (by kernel_rfl) (by simp) (AllReadyIn.cons rfl (fun K hK => ?_) AllReadyIn.nil)
        go_simp
        refine hK _ _ ?_
        clear hK K
        refine wpAnyIn_done (by kernel_rfl) ?_ _
        dsimp only [OnlyNormal]
        have hS := below5 Bwy41 zzy34 (.int .u64 D0) (.int .u64 D1) (.int .u64 D2) (.int .u64 D3) (.int .u64 D4)
        have hSC := set5 rfl lwy41 D0 D1 D2 D3 D4
        have hV : lowOf (val5 [D0, D1, D2, D3, D4]) 16 = lowOf (AC + MB) 16 := tag_low2 hC hSL hML
        obtain ⟨t0, t1, t2, t3, t4, _⟩ := hSC.full5
        generalize World.setCell _ ⟨gy34, 4, none⟩ _ = wy at *
        gi_wp2_with (gi_at_call 224; refine (hlift _ _ _ _ _ (tag_any D0 D1 D2 D3 D4 _ hC.1 hC.2.1 hC.2.2.1 hC.2.2.2.1 hC.2.2.2.2.1)).mono ?_; rintro e wz ⟨⟨gz, cz, rfl, rz⟩, bz⟩)
        rw [hV] at rz
        have hDy : D < wy.heap.size := Nat.lt_of_lt_of_le hDd hS.size
        have hKz : wz.heap[D]? = some (.deferred (some [])) := (bz.block D hDy).trans ((hS.block D hDd).trans hKd)
        refine ⟨by simp, .inl ⟨_, _, rfl, run_takeDeferred hKz, ?_⟩⟩
        refine ⟨_, results_tmp rfl _ _ _, ⟨gz, cz, rfl, ?_⟩, ((hB0.trans (hS.mono hB0.size)).trans (bz.mono (Nat.le_trans hB0.size hS.size))).trans (belowK_b (w := w) (Nat.le_refl _) wz D _ _ (by omega) hKz rfl rfl)⟩
        rw [HT.out]
        exact (rz.keep (fun g h1 _ => putObj_other wz D _ g (by omega))).mono (Nat.le_trans hB0.size hS.size)
  case stop =>
    rintro D c pre W _ _ h _
    exact h.elim
end Go.Proofs.YtabhcolfkkfonaaGreatDoor
