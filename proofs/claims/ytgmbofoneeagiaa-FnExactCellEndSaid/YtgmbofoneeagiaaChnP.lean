/- The channel of one tick: made, filled, closed; chosen from. -/
import Derived.Test.YtgmbofoneeagiaaSymB
import Derived.Conc.LoneCalls
import Derived.Conc.LoneSelect
import Derived.Laws.Rows
namespace Go.Proofs.Ytgmbofoneeagiaa
open Go.RowKit Go.Conc

theorem sayings_none (b c d : Int) (v : Bool) (A : Option Addr) (n e : Nat) (w : World) :
    Calls Try.prog 172 #[.agg #[.int .i64 0, .int .i64 b, .int .i64 c, .int .i64 d, .bool v, .slice A n e]] w fun x w' => x = .returned (.chan none) ∧ Below w.heap.size w w' := by
  go_enter Try.func172, Try.ntmps172
  go_wp2
  go_ret
  exact ⟨rfl, ab (Below.refl _ _) _⟩

theorem run_mk_chan (w : World) : (Instr.makeChan 245 (.int .i64 1)).run Try.prog w = .ok (.chan (some w.heap.size)) (w.alloc (.chan 1 #[] false 0 0 false)) := by
  have hb : (Try.prog.info? 67).map (·.bytes) = some 64 := by kernel_rfl
  obtain ⟨i, hi, hb⟩ := Option.map_eq_some_iff.1 hb
  simpa using run_makeChan (P := Try.prog) (w := w) Try.underlying245 hi .i64 1 (by omega) (by rw [hb]; omega)

set_option maxRecDepth 100000 in
theorem sayings_some (a b c d : Int) (v : Bool) (A : Option Addr) (n g : Nat) (w : World) (h : a ≠ 0) :
    Calls Try.prog 172 #[.agg #[.int .i64 a, .int .i64 b, .int .i64 c, .int .i64 d, .bool v, .slice A n g]] w fun x w' => (∃ q, w.heap.size ≤ q ∧ x = .returned (.chan (some q)) ∧ w'.heap[q]? = some (.chan 1 #[.agg #[.int .i64 a, .int .i64 b, .int .i64 c, .int .i64 d, .bool v, .slice A n g]] true 1 0 false)) ∧ Below w.heap.size w w' := by
  have t0 : (a == 0) = false := by simpa using h
  refine calls_of_loneTo fun cs => ?_
  have e : Frame.enter Try.prog 172 #[.agg #[.int .i64 a, .int .i64 b, .int .i64 c, .int .i64 d, .bool v, .slice A n g]] .normal = (base 172).at ⟨#[.agg #[.int .i64 a, .int .i64 b, .int .i64 c, .int .i64 d, .bool v, .slice A n g], undef, undef, undef, undef, undef, undef, undef, undef, undef, undef, undef], []⟩ [.code (Try.f172.body.getD .skip)] := by
    simp [Frame.enter, Frame.at, Try.func172, base, Try.f172]
  rw [e]
  have hmc := run_mk_chan
  have S0 := Stc.new w 67 [.int .i64 a, .int .i64 b, .int .i64 c, .int .i64 d, .bool v, .slice A n g] _ rfl
  have s0 := S0.cell (i := 0) rfl
  refine LoneTo.goes (n := 40) ?_
  simp only [Try.f172, Option.getD_some]
  s_c stepG_seq
  s_reg
  s_op
  s_op
  s_c stepG_region_end
  s_c stepG_seq
  s_c stepG_seq
  s_reg
  s_op
  s_op
  s_op
  s_c stepG_region_end
  s_cond false
  s_c stepG_skip
  s_c stepG_seq
  s_reg
  s_op
  s_op
  s_c stepG_region_end
  s_c stepG_seq
  s_reg
  s_op
  s_op
  s_stop
  have hc1 := heap_alloc_new (w.alloc (.cells #[.int .i64 a, .int .i64 b, .int .i64 c, .int .i64 d, .bool v, .slice A n g] 67)) (.chan 1 #[] false 0 0 false)
  generalize hW : (w.alloc (.cells #[.int .i64 a, .int .i64 b, .int .i64 c, .int .i64 d, .bool v, .slice A n g] 67)).alloc (.chan 1 #[] false 0 0 false) = W at hc1 ⊢
  refine LoneTo.step (step_lone_send_room (c := w.heap.size + 1) (cap := 1) (buf := #[]) (s := 0) (r := 0) (tm := false) (v := .agg #[.int .i64 a, .int .i64 b, .int .i64 c, .int .i64 d, .bool v, .slice A n g]) (stepG_comm (cases := #[scase (w.heap.size + 1) (.agg #[.int .i64 a, .int .i64 b, .int .i64 c, .int .i64 d, .bool v, .slice A n g]) (.tuple #[])]) (blocking := true) (shape := .send) (w' := W) rfl rfl (by decide) (by simp [execOp, scase, Act.eval])) (by simpa using hc1) (by simp)) ?_
  rw [Frame.finish_at]
  walk_nrm
  refine LoneTo.goes (n := 20) ?_
  s_c stepG_region_end
  s_c stepG_seq
  s_reg
  s_op
  have hc2 := heap_setChan W (w.heap.size + 1) 1 #[.agg #[.int .i64 a, .int .i64 b, .int .i64 c, .int .i64 d, .bool v, .slice A n g]] false 1 0 false (by rw [← hW]; simp)
  generalize hW2 : W.setChan (w.heap.size + 1) 1 #[.agg #[.int .i64 a, .int .i64 b, .int .i64 c, .int .i64 d, .bool v, .slice A n g]] false 1 0 false = W2 at hc2 ⊢
  -- close(c)
  s_in
  refine goes_oper_k rfl rfl (by decide) (fun K hK => ?_)
  have hcl := fun ats ty => run_close_open (P := Try.prog) (w := W2) ats ty hc2
  go_simp
  refine hK _ _ ⟨trivial, ?_⟩
  clear hK K hcl
  s_c stepG_region_end
  s_c stepG_seq
  s_reg
  s_op
  s_op
  s_c stepG_region_end
  s_c stepG_ret'
  s_stop
  refine LoneTo.done ⟨.returned (.chan (some (w.heap.size + 1))), _, rfl, ⟨⟨_, Nat.le_succ _, rfl, ?_⟩, ?_⟩, rfl, rfl, rfl, rfl, _, Try.func172, by simp [results, Try.f172, Frame.at]⟩
  · exact heap_setChan W2 (w.heap.size + 1) 1 #[.agg #[.int .i64 a, .int .i64 b, .int .i64 c, .int .i64 d, .bool v, .slice A n g]] true 1 0 false (Array.getElem?_eq_some_iff.1 hc2).1
  · show Below w.heap.size w (W2.setChan (w.heap.size + 1) 1 #[.agg #[.int .i64 a, .int .i64 b, .int .i64 c, .int .i64 d, .bool v, .slice A n g]] true 1 0 false)
    refine below_setChan ?_ (Nat.le_succ _) _ _ _ _ _ _
    rw [← hW2]
    refine below_setChan ?_ (Nat.le_succ _) _ _ _ _ _ _
    rw [← hW]
    exact ((Below.refl _ w).alloc (Nat.le_refl _) _).alloc (by simp) _

theorem Stc.setChan_ {w : World} {b : Nat} {l : List Value} {t : TypeId} (h : Stc w b l t) {c : Nat} (hc : b ≠ c) {cap : Nat} {buf : Array Value} {cl : Bool} {s r : Nat} {tm : Bool} : Stc (w.setChan c cap buf cl s r tm) b l t := by
  unfold Stc at h ⊢
  simp only [World.setChan]
  rw [Array.getElem?_setIfInBounds_ne (by omega)]
  exact h

set_option maxRecDepth 100000 in
theorem chosen_none (w : World) :
    Calls Try.prog 171 #[.chan none] w fun x w' => x = .returned (.agg #[.int .i64 0, .int .i64 0, .int .i64 0, .int .i64 0, .bool false, .slice none 0 0]) ∧ Below w.heap.size w w' := by
  refine calls_of_loneTo fun cs => ?_
  have e : Frame.enter Try.prog 171 #[.chan none] .normal = (base 171).at ⟨#[.chan none, undef, undef, undef, undef, undef, undef, undef, undef, undef, undef], []⟩ [.code (Try.f171.body.getD .skip)] := by
    simp [Frame.enter, Frame.at, Try.func171, base, Try.f171]
  rw [e]
  refine LoneTo.goes (n := 12) ?_
  simp only [Try.f171, Option.getD_some]
  s_c stepG_seq
  s_reg
  s_op
  s_c stepG_region_end
  s_c stepG_seq
  s_reg
  s_op
  s_c stepG_region_end
  s_c stepG_seq
  s_reg
  s_stop
  refine LoneTo.step (step_lone_select_recv_nil (z := .agg #[.int .i64 0, .int .i64 0, .int .i64 0, .int .i64 0, .bool false, .slice none 0 0]) (stepG_comm (cases := #[rcaseNil (.agg #[.int .i64 0, .int .i64 0, .int .i64 0, .int .i64 0, .bool false, .slice none 0 0])]) (blocking := false) (shape := .select) (w' := w.alloc (.cells #[.int .i64 0, .int .i64 0, .int .i64 0, .int .i64 0, .bool false, .slice none 0 0] 67)) rfl rfl (by decide) (by simp [go_sem, execOp, rcaseNil, Act.eval]))) ?_
  rw [Frame.finish_at]
  walk_nrm
  refine LoneTo.goes (n := 14) ?_
  s_op
  s_op
  s_c stepG_region_end
  s_c stepG_block
  s_cond false
  s_c stepG_seq
  s_reg
  s_op
  s_op
  s_c stepG_region_end
  s_c stepG_ret'
  s_stop
  refine LoneTo.done ⟨.returned (.agg #[.int .i64 0, .int .i64 0, .int .i64 0, .int .i64 0, .bool false, .slice none 0 0]), _, rfl, ⟨rfl, ?_⟩, rfl, rfl, rfl, rfl, _, Try.func171, ?_⟩
  · exact (Below.refl _ w).alloc (Nat.le_refl _) _
  · simp only [results, Try.f171, Frame.at]
    go_simp

set_option maxRecDepth 100000 in
theorem chosen_some (q : Nat) (a b c d : Int) (v : Bool) (A : Option Addr) (n g : Nat) (w : World) (hq : w.heap[q]? = some (.chan 1 #[.agg #[.int .i64 a, .int .i64 b, .int .i64 c, .int .i64 d, .bool v, .slice A n g]] true 1 0 false)) :
    Calls Try.prog 171 #[.chan (some q)] w fun x w' => x = .returned (.agg #[.int .i64 a, .int .i64 b, .int .i64 c, .int .i64 d, .bool v, .slice A n g]) ∧ Below q w w' := by
  have hlt := (Array.getElem?_eq_some_iff.1 hq).1
  refine calls_of_loneTo fun cs => ?_
  have e : Frame.enter Try.prog 171 #[.chan (some q)] .normal = (base 171).at ⟨#[.chan (some q), undef, undef, undef, undef, undef, undef, undef, undef, undef, undef], []⟩ [.code (Try.f171.body.getD .skip)] := by
    simp [Frame.enter, Frame.at, Try.func171, base, Try.f171]
  rw [e]
  refine LoneTo.goes (n := 12) ?_
  simp only [Try.f171, Option.getD_some]
  s_c stepG_seq
  s_reg
  s_op
  s_c stepG_region_end
  s_c stepG_seq
  s_reg
  s_op
  s_c stepG_region_end
  s_c stepG_seq
  s_reg
  s_stop
  have hq1 := (Below.heap_alloc w (.cells #[.int .i64 0, .int .i64 0, .int .i64 0, .int .i64 0, .bool false, .slice none 0 0] 67) q hlt).trans hq
  refine LoneTo.step (step_lone_select_recv_buf (c := q) (z := .agg #[.int .i64 0, .int .i64 0, .int .i64 0, .int .i64 0, .bool false, .slice none 0 0]) (cap := 1) (buf := #[.agg #[.int .i64 a, .int .i64 b, .int .i64 c, .int .i64 d, .bool v, .slice A n g]]) (closed := true) (s := 1) (r := 0) (tm := false) (stepG_comm (cases := #[rcase q (.agg #[.int .i64 0, .int .i64 0, .int .i64 0, .int .i64 0, .bool false, .slice none 0 0])]) (blocking := false) (shape := .select) (w' := w.alloc (.cells #[.int .i64 0, .int .i64 0, .int .i64 0, .int .i64 0, .bool false, .slice none 0 0] 67)) rfl rfl (by decide) (by simp [go_sem, execOp, rcase, Act.eval])) hq1 (by simp)) ?_
  rw [Frame.finish_at]
  walk_nrm
  have S0 := Stc.new w 67 [.int .i64 0, .int .i64 0, .int .i64 0, .int .i64 0, .bool false, .slice none 0 0] _ rfl
  have B0 := (Below.refl w.heap.size w).alloc (Nat.le_refl _) (.cells #[.int .i64 0, .int .i64 0, .int .i64 0, .int .i64 0, .bool false, .slice none 0 0] 67)
  have B1 := below_setChan ((Below.refl w.heap.size w).alloc (Nat.le_refl _) (.cells #[.int .i64 0, .int .i64 0, .int .i64 0, .int .i64 0, .bool false, .slice none 0 0] 67) |>.mono (Nat.le_of_lt hlt)) (Nat.le_refl q) 1 #[] true 1 1 false
  refine LoneTo.goes (n := 24) ?_
  s_op
  s_op
  s_c stepG_region_end
  s_c stepG_block
  s_cond true
  s_c stepG_seq
  s_reg
  s_op
  s_op
  s_op
  s_c stepG_region_end
  s_c stepG_seq
  s_reg
  s_op
  have hS : Stc (((w.alloc (.cells #[.int .i64 0, .int .i64 0, .int .i64 0, .int .i64 0, .bool false, .slice none 0 0] 67)).setChan q 1 #[] true 1 1 false).alloc (.cells #[.int .i64 a, .int .i64 b, .int .i64 c, .int .i64 d, .bool v, .slice A n g] 67)) w.heap.size [.int .i64 0, .int .i64 0, .int .i64 0, .int .i64 0, .bool false, .slice none 0 0] 67 := by
    refine Stc.alloc ?_ _
    exact S0.setChan_ (by omega)
  have hB : Below q w (((w.alloc (.cells #[.int .i64 0, .int .i64 0, .int .i64 0, .int .i64 0, .bool false, .slice none 0 0] 67)).setChan q 1 #[] true 1 1 false).alloc (.cells #[.int .i64 a, .int .i64 b, .int .i64 c, .int .i64 d, .bool v, .slice A n g] 67)) := by
    refine Below.alloc B1 ?_ _
    simp [World.setChan]; omega
  generalize ((w.alloc (.cells #[.int .i64 0, .int .i64 0, .int .i64 0, .int .i64 0, .bool false, .slice none 0 0] 67)).setChan q 1 #[] true 1 1 false).alloc (.cells #[.int .i64 a, .int .i64 b, .int .i64 c, .int .i64 d, .bool v, .slice A n g] 67) = V at hS hB ⊢
  have c0 := hS.cell (i := 0) rfl
  have c1 := hS.cell (i := 1) rfl
  have c2 := hS.cell (i := 2) rfl
  have c3 := hS.cell (i := 3) rfl
  have c4 := hS.cell (i := 4) rfl
  have c5 := hS.cell (i := 5) rfl
  have f0 := hS.frozen 0
  have f1 := hS.frozen 1
  have f2 := hS.frozen 2
  have f3 := hS.frozen 3
  have f4 := hS.frozen 4
  have f5 := hS.frozen 5
  s_op
  s_c stepG_region_end
  s_c stepG_ret'
  s_stop
  have hE : Stc ((((((V.setCell ⟨w.heap.size, 0, none⟩ (.int .i64 a)).setCell ⟨w.heap.size, 1, none⟩ (.int .i64 b)).setCell ⟨w.heap.size, 2, none⟩ (.int .i64 c)).setCell ⟨w.heap.size, 3, none⟩ (.int .i64 d)).setCell ⟨w.heap.size, 4, none⟩ (.bool v)).setCell ⟨w.heap.size, 5, none⟩ (.slice A n g)) w.heap.size [.int .i64 a, .int .i64 b, .int .i64 c, .int .i64 d, .bool v, .slice A n g] 67 := (((((hS.set_ (.int .i64 a)).set_ (.int .i64 b)).set_ (.int .i64 c)).set_ (.int .i64 d)).set_ (.bool v)).set_ (.slice A n g)
  have hD : Below q w ((((((V.setCell ⟨w.heap.size, 0, none⟩ (.int .i64 a)).setCell ⟨w.heap.size, 1, none⟩ (.int .i64 b)).setCell ⟨w.heap.size, 2, none⟩ (.int .i64 c)).setCell ⟨w.heap.size, 3, none⟩ (.int .i64 d)).setCell ⟨w.heap.size, 4, none⟩ (.bool v)).setCell ⟨w.heap.size, 5, none⟩ (.slice A n g)) := ((((((hB.setCell (by exact Nat.le_of_lt hlt) _).setCell (by exact Nat.le_of_lt hlt) _).setCell (by exact Nat.le_of_lt hlt) _).setCell (by exact Nat.le_of_lt hlt) _).setCell (by exact Nat.le_of_lt hlt) _).setCell (by exact Nat.le_of_lt hlt) _)
  generalize ((((((V.setCell ⟨w.heap.size, 0, none⟩ (.int .i64 a)).setCell ⟨w.heap.size, 1, none⟩ (.int .i64 b)).setCell ⟨w.heap.size, 2, none⟩ (.int .i64 c)).setCell ⟨w.heap.size, 3, none⟩ (.int .i64 d)).setCell ⟨w.heap.size, 4, none⟩ (.bool v)).setCell ⟨w.heap.size, 5, none⟩ (.slice A n g)) = U at hE hD ⊢
  clear c0 c1 c2 c3 c4 c5
  have c0 := hE.cell (i := 0) rfl
  have c1 := hE.cell (i := 1) rfl
  have c2 := hE.cell (i := 2) rfl
  have c3 := hE.cell (i := 3) rfl
  have c4 := hE.cell (i := 4) rfl
  have c5 := hE.cell (i := 5) rfl
  refine LoneTo.done ⟨.returned (.agg #[.int .i64 a, .int .i64 b, .int .i64 c, .int .i64 d, .bool v, .slice A n g]), _, rfl, ⟨rfl, hD⟩, rfl, rfl, rfl, rfl, _, Try.func171, ?_⟩
  simp only [results, Try.f171, Frame.at]
  go_simp
end Go.Proofs.Ytgmbofoneeagiaa
