/- From epoch to epoch: the map of chains; KeyAt of the program. -/
import Derived.Test.YtabhcolfkkfonaaDoorKeyM
import Derived.Test.YtabhcolfkkfonaaDoorEpochP
namespace Go.Proofs.YtabhcolfkkfonaaDoor
open Go.RowKit Go.Maps

theorem zeroRun (w : World) : (zeroValue 22).run Tryd.prog w = .ok (.slice none 0 0) w := by kernel_rfl
theorem look_one {w : World} {b : Nat} {e : Int} {v : Value} (h : OneKey w b e v) (h0 : -1000 ≤ e) (h1 : e ≤ 1000) :
    (Instr.lookup 45 (.map (some b)) (.int .i64 e) false).run Tryd.prog w = .ok v w := by
  obtain ⟨n, _, hm⟩ := h.out
  obtain ⟨u, ps, hr, hu⟩ := hm.lookup law64 Tryd.underlying45 (zeroRun w) (zd := .held (.slice none 0 0)) (zp := []) rfl (key64 e h0 h1)
  rw [at_one] at hu
  have hu := hu
  simp only [told, Option.some.injEq, Prod.mk.injEq, DataW.held.injEq] at hu
  obtain ⟨rfl, _⟩ := hu
  exact hr

/-- 'm[k] = v' in a map that is made -/
theorem wpList_insert_own {H : Type} {P : Program} (w : World) {ops : Array Oper} {rest : List Oper} {o : Oper} {a : Act} {Q : Exit → Act → World → Prop}
    (hg : o.guard = none) (m x v : Operand) (t : TypeId) (hop : o.op = Op.insert t m x v)
    (k e : TypeId) (K : Keyed P k) (ht : P.underlying t = some (.map k e)) (R : Value → Option (DataW H × List MemPlace)) (b n : Nat) (D : DataW H)
    (hm : a.eval m = .map (some b)) (hown : w.ownsMap P k R b n D) (hn : n < maxLen) (key val : Value) (kl : Lit) (hx : a.eval x = key) (hv : a.eval v = val) (hkey : keyOf P k key = some kl)
    (d : DataW H) (ps : List MemPlace) (hval : R val = some (d, ps))
    (hK : ∀ w', w'.ownsMap P k R b (n + 1) (D.put kl d) → w.grownBy w' (some b) → wpList P ops Q rest (a.put o.dst undef) w') :
    wpList P ops Q (o :: rest) a w := by
  refine wpList_plain hg fun K' hK' => ?_
  obtain ⟨w', hrun, r1, r2⟩ := hown.update K ht hn hkey hval
  unfold Oper.wp
  simp [execOp, hop, hm, hx, hv, hrun, Result.andThen]
  exact hK' _ _ (hK w' r1 r2)

set_option maxHeartbeats 2000000 in
theorem pass_any (b : Nat) (e : Int) (A : Option Addr) (c : Nat) (l : List Int) (w : World) (hT : Tabs w) (hm : OneKey w b e (.slice A 32 c)) (h : Bs w A 32 l) (h0 : 0 ≤ e) (h1 : e ≤ 900) :
    Calls Tryd.prog 26 #[.map (some b), .int .i64 e] w fun e' w' => ∃ A1 c1 A2 c2, e' = .returned (.agg #[.int .i64 0, .slice A1 32 c1, .slice A2 32 c2]) ∧ Rs w' w.heap.size [(A1, 32, firstW l []), (A2, 32, otherW l [])] ∧ OneKey w' b (e + 1) (.slice A1 32 c1) ∧ Save b w w' := by
  obtain ⟨n, hn, hm⟩ := hm.out
  have bl := hm.lt
  have B0 := ab (Below.refl _ w) (.cells #[.int .i64 0, .slice none 0 0, .slice none 0 0] 27)
  have S0 := Stc.new w 27 [.int .i64 0, .slice none 0 0, .slice none 0 0] _ rfl
  have m0 := own_below B0 hm bl
  have lk := look_one (w := w.alloc (.cells #[.int .i64 0, .slice none 0 0, .slice none 0 0] 27)) ⟨n, hn, m0⟩ (by omega) (by omega)
  have ck := Shut.mk (nextKey_any A c l _ (hT.keep B0) (h.below B0))
  have Sv := Shut.mk (put_one e (.held (.slice A 32 c)))
  have Dl := Shut.mk (del_one e (.held (.slice A 32 c)))
  have hb0 : w.heap.size ≠ b := by omega
  have wr : IntKind.i64.wrap (e + 1) = e + 1 := IntWalk.i64_in _ (by omega)
  have K1 := key64 (e + 1) (by omega) (by omega)
  have K0 := key64 e (by omega) (by omega)
  generalize firstW l [] = F at *
  generalize otherW l [] = G at *
  clear hT h
  go_enter Tryd.func26, Tryd.ntmps26
  go_wp2_with fail
  refine ck.out.mono ?_
  rintro e' w1 ⟨⟨A1, c1, A2, c2, rfl, R⟩, b1⟩
  have z1 := b1.size
  simp only [World.size_alloc] at R z1
  have B1 := ac B0 b1
  replace S0 := S0.below b1 S0.lt
  have m1 := own_below B1 hm bl
  have hne : ¬ w1.heap.size = w.heap.size := by omega
  have hb1 : w1.heap.size ≠ b := by omega
  have X := (.cells #[.int .i64 0, .slice A1 32 c1, .slice A2 32 c2] 27 : Obj)
  have S1 := Stc.new w1 27 [.int .i64 0, .slice A1 32 c1, .slice A2 32 c2] _ rfl
  have y1 := S1.cell (i := 1) rfl
  clear ck b1 lk m0
  go_wp2_with (first
    | (at_mapUpdate; refine wpList_mapUpdate_own _ rfl _ _ _ 45 rfl 2 22 law64 Tryd.underlying45 told b n _ rfl (m1.alloc _) (by unfold maxLen; omega) _ (.slice A1 32 c1) _ rfl rfl K1 (.held (.slice A1 32 c1)) [] rfl ?_; intro w2 m2 g2; rw [Sv.out] at m2)
    | (at_delete; refine wpList_delete_own _ rfl _ _ 45 2 rfl 22 law64 Tryd.underlying45 told b _ _ rfl m2 _ _ rfl K0 ?_; intro w3 m3 g3; rw [Dl.out] at m3; have v3 := (Save.grown g2).trans (Save.grown g3.grown); have T0 := (S0.alloc (.cells #[.int .i64 0, .slice A1 32 c1, .slice A2 32 c2] 27)).save v3 hb0; have T1 := S1.save v3 hb1; have t0 := T0.cell (i := 0) rfl; have t1 := T0.cell (i := 1) rfl; have t2 := T0.cell (i := 2) rfl; have tf := T0.frozen; have u0 := T1.cell (i := 0) rfl; have u1 := T1.cell (i := 1) rfl; have u2 := T1.cell (i := 2) rfl)
    | fail)
  refine bodyPost_ret (v := .agg #[.int .i64 0, .slice A1 32 c1, .slice A2 32 c2]) (by simp [results, Tryd.results26, go_sem, t0, t1, t2]) rfl ?_
  have z3 := v3.size
  simp only [World.size_alloc] at z3
  have B3 : Save b w w3 := (Save.ofBelow (ab B1 (.cells #[.int .i64 0, .slice A1 32 c1, .slice A2 32 c2] 27))).trans v3
  have R3 : Rs w3 (w.heap.size + 1) [(A1, 32, F), (A2, 32, G)] := (R.alloc (.cells #[.int .i64 0, .slice A1 32 c1, .slice A2 32 c2] 27)).map fun _ _ o => o.save v3 (by omega)
  have zz : w.heap.size < w.heap.size + 1 := by omega
  have Bc := ((Below.refl w.heap.size w3).setCell (p := ⟨w.heap.size, 0, none⟩) (Nat.le_refl _) (.int .i64 0)).setCell (p := ⟨w.heap.size, 1, none⟩) (Nat.le_refl _) (.slice A1 32 c1) |>.setCell (p := ⟨w.heap.size, 2, none⟩) (Nat.le_refl _) (.slice A2 32 c2)
  refine ⟨A1, c1, A2, c2, rfl, (((R3.far (p := ⟨w.heap.size, 0, none⟩) zz _).far (p := ⟨w.heap.size, 1, none⟩) zz _).far (p := ⟨w.heap.size, 2, none⟩) zz _).mono (by omega), ⟨1, Nat.le_refl _, own_below Bc (ownsMap_tight m3) bl⟩, B3.wide Bc⟩

def kaOk (n : Nat) (s : Int) : Bool := decide (n = 32) && inB s 0 400
def kaC (n : Nat) (s : Int) : Int := if kaOk n s = true then 0 else 3
def kaN (n : Nat) (s : Int) : Nat := if kaOk n s = true then 32 else 0
def kaL (n : Nat) (s : Int) (l : List Int) : List Int := if kaOk n s = true then l else []
theorem kaN_le (n : Nat) (s : Int) : kaN n s ≤ 2000000 := by unfold kaN; split <;> omega
/-- how often a slot goes on from the root -/
def kaK (s : Int) : Nat := (s / 16).toNat + 1
end Go.Proofs.YtabhcolfkkfonaaDoor
