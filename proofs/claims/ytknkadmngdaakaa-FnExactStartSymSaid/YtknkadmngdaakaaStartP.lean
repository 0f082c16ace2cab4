/- The first state of a handshake, of the program and of the model. -/
import Derived.Test.YtknkadmngdaakaaStartM
import Derived.Lib.SmallJoins
namespace Go.Proofs.Ytknkadmngdaakaa
open Go.RowKit

/-- the protocol's name -/
def nameL : List Int := [78, 111, 105, 115, 101, 95, 88, 88, 95, 115, 109, 97, 108, 108, 95, 67, 104, 97, 67, 104, 97, 80, 111, 108, 121, 95, 83, 72, 65, 50, 53, 54]
theorem nameL_len : nameL.length = 32 := rfl
theorem nameL_byte : By nameL := by unfold By nameL; decide
/-- the name's cells -/
def nameC : Array Value := (nameL.map (Value.int .u8)).toArray
theorem nameC_eq : nameC = #[.int .u8 78, .int .u8 111, .int .u8 105, .int .u8 115, .int .u8 101, .int .u8 95, .int .u8 88, .int .u8 88, .int .u8 95, .int .u8 115, .int .u8 109, .int .u8 97, .int .u8 108, .int .u8 108, .int .u8 95, .int .u8 67, .int .u8 104, .int .u8 97, .int .u8 67, .int .u8 104, .int .u8 97, .int .u8 80, .int .u8 111, .int .u8 108, .int .u8 121, .int .u8 95, .int .u8 83, .int .u8 72, .int .u8 65, .int .u8 50, .int .u8 53, .int .u8 54] := rfl

theorem Om.const (w : World) : Om (w.alloc (.cells nameC 5 (32, 33))) w.heap.size (some ⟨w.heap.size, 0, none⟩) 32 nameL := by
  have hh := heap_alloc_new w (.cells nameC 5 (32, 33))
  refine ⟨rfl, nameL_byte, fun _ => ⟨w.heap.size, rfl, Nat.le_refl _, by simp, fun i hi => ?_, fun i hi => ?_⟩⟩
  · rw [World.cell?_alloc_mark]
    unfold nameC
    have : i < nameL.length := hi
    simp [List.getD, this]
  · simp only [World.frozen?, hh]
    simp
    omega

def BegunAns (w : World) (e : Ending) (w' : World) : Prop :=
  (∃ A B, e = .returned (.agg #[.slice A 32 32, .slice B 32 32, .slice none 0 0, .int .i64 0]) ∧
    Rm w' w.heap.size [(A, 32, nameL), (B, 32, nameL)]) ∧ Below w.heap.size w w'

set_option maxRecDepth 100000 in
set_option maxHeartbeats 1000000 in
theorem impl_newSym_any (w : World) :
    Calls Try.prog 22 #[] w (BegunAns w) := by
  have hc1 := Joins.run_convert_bytes_const_at (w.alloc (.cells #[.slice none 0 0, .slice none 0 0, .slice none 0 0, .int .i64 0] 27)) 22 5 nameC 32 32 (w.heap.size + 1) (by simp) Try.underlying22 Try.underlying5
  have hc2 := Joins.run_convert_bytes_const_at ((w.alloc (.cells #[.slice none 0 0, .slice none 0 0, .slice none 0 0, .int .i64 0] 27)).alloc (.cells nameC 5 (32, 33))) 22 5 nameC 32 32 (w.heap.size + 1 + 1) (by simp) Try.underlying22 Try.underlying5
  have hsz : nameC.size = 32 := rfl
  rw [hsz] at hc1 hc2
  clear hsz
  have k1 := (Om.const (w.alloc (.cells #[.slice (some ⟨w.heap.size + 1, 0, none⟩) 32 32, .slice (some ⟨w.heap.size + 1 + 1, 0, none⟩) 32 32, .slice none 0 0, .int .i64 0] 27))).alloc (.cells nameC 5 (32, 33))
  have k2 := Om.const ((w.alloc (.cells #[.slice (some ⟨w.heap.size + 1, 0, none⟩) 32 32, .slice (some ⟨w.heap.size + 1 + 1, 0, none⟩) 32 32, .slice none 0 0, .int .i64 0] 27)).alloc (.cells nameC 5 (32, 33)))
  have B0 := ab (ab (ab (Below.refl _ w) (.cells #[.slice (some ⟨w.heap.size + 1, 0, none⟩) 32 32, .slice (some ⟨w.heap.size + 1 + 1, 0, none⟩) 32 32, .slice none 0 0, .int .i64 0] 27)) (.cells nameC 5 (32, 33))) (.cells nameC 5 (32, 33))
  simp only [World.size_alloc] at k1 k2
  rw [nameC_eq] at hc1 hc2 k1 k2 B0
  generalize hN : (#[.int .u8 78, .int .u8 111, .int .u8 105, .int .u8 115, .int .u8 101, .int .u8 95, .int .u8 88, .int .u8 88, .int .u8 95, .int .u8 115, .int .u8 109, .int .u8 97, .int .u8 108, .int .u8 108, .int .u8 95, .int .u8 67, .int .u8 104, .int .u8 97, .int .u8 67, .int .u8 104, .int .u8 97, .int .u8 80, .int .u8 111, .int .u8 108, .int .u8 121, .int .u8 95, .int .u8 83, .int .u8 72, .int .u8 65, .int .u8 50, .int .u8 53, .int .u8 54] : Array Value) = N at *
  go_enter Try.func22, Try.ntmps22
  go_wp2
  refine bodyPost_ret (v := .agg #[.slice (some ⟨w.heap.size + 1, 0, none⟩) 32 32, .slice (some ⟨w.heap.size + 1 + 1, 0, none⟩) 32 32, .slice none 0 0, .int .i64 0]) (by simp [results, Try.results22, go_sem]) rfl ?_
  refine ⟨⟨_, _, rfl, Rm.cons (k1.mono (by omega)) ?_ (Rm.cons (k2.mono (by omega)) (fun y hy => by cases hy) (Rm.nil _ _))⟩, B0⟩
  intro y hy
  simp only [List.mem_cons, List.not_mem_nil, or_false] at hy
  subst hy
  intro _ _ a b ea eb; injection ea with ea; injection eb with eb; subst ea; subst eb; simp

set_option maxRecDepth 100000 in
set_option maxHeartbeats 1000000 in
theorem spec_l5Start_any (w : World) :
    Calls Try.prog 21 #[] w (BegunAns w) := by
  have hc1 := Joins.run_convert_bytes_const_at (w.alloc (.cells #[.slice none 0 0, .slice none 0 0, .slice none 0 0, .int .i64 0] 27)) 22 5 nameC 32 32 (w.heap.size + 1) (by simp) Try.underlying22 Try.underlying5
  have hc2 := Joins.run_convert_bytes_const_at ((w.alloc (.cells #[.slice none 0 0, .slice none 0 0, .slice none 0 0, .int .i64 0] 27)).alloc (.cells nameC 5 (32, 33))) 22 5 nameC 32 32 (w.heap.size + 1 + 1) (by simp) Try.underlying22 Try.underlying5
  have hsz : nameC.size = 32 := rfl
  rw [hsz] at hc1 hc2
  clear hsz
  have k1 := (Om.const (w.alloc (.cells #[.slice (some ⟨w.heap.size + 1, 0, none⟩) 32 32, .slice (some ⟨w.heap.size + 1 + 1, 0, none⟩) 32 32, .slice none 0 0, .int .i64 0] 27))).alloc (.cells nameC 5 (32, 33))
  have k2 := Om.const ((w.alloc (.cells #[.slice (some ⟨w.heap.size + 1, 0, none⟩) 32 32, .slice (some ⟨w.heap.size + 1 + 1, 0, none⟩) 32 32, .slice none 0 0, .int .i64 0] 27)).alloc (.cells nameC 5 (32, 33)))
  have B0 := ab (ab (ab (Below.refl _ w) (.cells #[.slice (some ⟨w.heap.size + 1, 0, none⟩) 32 32, .slice (some ⟨w.heap.size + 1 + 1, 0, none⟩) 32 32, .slice none 0 0, .int .i64 0] 27)) (.cells nameC 5 (32, 33))) (.cells nameC 5 (32, 33))
  simp only [World.size_alloc] at k1 k2
  rw [nameC_eq] at hc1 hc2 k1 k2 B0
  generalize hN : (#[.int .u8 78, .int .u8 111, .int .u8 105, .int .u8 115, .int .u8 101, .int .u8 95, .int .u8 88, .int .u8 88, .int .u8 95, .int .u8 115, .int .u8 109, .int .u8 97, .int .u8 108, .int .u8 108, .int .u8 95, .int .u8 67, .int .u8 104, .int .u8 97, .int .u8 67, .int .u8 104, .int .u8 97, .int .u8 80, .int .u8 111, .int .u8 108, .int .u8 121, .int .u8 95, .int .u8 83, .int .u8 72, .int .u8 65, .int .u8 50, .int .u8 53, .int .u8 54] : Array Value) = N at *
  go_enter Try.func21, Try.ntmps21
  go_wp2
  refine bodyPost_ret (v := .agg #[.slice (some ⟨w.heap.size + 1, 0, none⟩) 32 32, .slice (some ⟨w.heap.size + 1 + 1, 0, none⟩) 32 32, .slice none 0 0, .int .i64 0]) (by simp [results, Try.results21, go_sem]) rfl ?_
  refine ⟨⟨_, _, rfl, Rm.cons (k1.mono (by omega)) ?_ (Rm.cons (k2.mono (by omega)) (fun y hy => by cases hy) (Rm.nil _ _))⟩, B0⟩
  intro y hy
  simp only [List.mem_cons, List.not_mem_nil, or_false] at hy
  subst hy
  intro _ _ a b ea eb; injection ea with ea; injection eb with eb; subst ea; subst eb; simp

def StartAns (w : World) (e : Ending) (w' : World) : Prop :=
  (∃ A B, e = .returned (.agg #[.int .i64 0, .slice A 32 32, .slice B 32 32, .slice none 0 0, .int .i64 0, .slice none 0 0]) ∧
    Rm w' w.heap.size [(A, 32, nameL), (B, 32, nameL), (none, 0, []), (none, 0, [])]) ∧ Below w.heap.size w w'

theorem impl_StartSym_any (w : World) :
    Calls Try.prog 11 #[] w (StartAns w) := by
  have B0 := ab (Below.refl _ w) (.cells #[.int .i64 0, .slice none 0 0, .slice none 0 0, .slice none 0 0, .int .i64 0, .slice none 0 0] 32)
  have S0 := Stc.new w 32 [.int .i64 0, .slice none 0 0, .slice none 0 0, .slice none 0 0, .int .i64 0, .slice none 0 0] _ rfl
  go_enter Try.func11, Try.ntmps11
  go_wp2_with fail
  refine (impl_newSym_any _).mono ?_
  rintro e w1 ⟨⟨A, B, rfl, R1⟩, b1⟩
  simp only [World.size_alloc] at R1
  have B1 := ac B0 b1
  replace S0 := S0.below b1 S0.lt
  have x0 := S0.cell (i := 0) rfl
  have x1 := S0.cell (i := 1) rfl
  have x2 := S0.cell (i := 2) rfl
  have x3 := S0.cell (i := 3) rfl
  have x4 := S0.cell (i := 4) rfl
  have x5 := S0.cell (i := 5) rfl
  have y0 := S0.frozen
  go_wp2
  refine bodyPost_ret (v := .agg #[.int .i64 0, .slice A 32 32, .slice B 32 32, .slice none 0 0, .int .i64 0, .slice none 0 0]) (by simp [results, Try.results11, go_sem, x0, x1, x2, x3, x4, x5]) rfl ?_
  obtain ⟨o1, s1, o2, _⟩ := R1
  have s12 := s1 (B, 32, nameL) (by simp)
  have zz : w.heap.size < w.heap.size + 1 := Nat.lt_succ_self _
  have R : Rm w1 (w.heap.size + 1) [(A, 32, nameL), (B, 32, nameL), (none, 0, []), (none, 0, [])] := by
    refine Rm.cons o1 ?_ (Rm.cons o2 ?_ (Rm.cons (Om.nil_ _ _) ?_ (Rm.cons (Om.nil_ _ _) ?_ (Rm.nil _ _))))
    · intro y hy
      simp only [List.mem_cons, List.not_mem_nil, or_false] at hy
      rcases hy with rfl | rfl | rfl
      · exact s12
      · intro _ h0; exact absurd h0 (by simp)
      · intro _ h0; exact absurd h0 (by simp)
    · intro y hy
      simp only [List.mem_cons, List.not_mem_nil, or_false] at hy
      rcases hy with rfl | rfl <;> (intro _ h0; exact absurd h0 (by simp))
    · intro y hy
      simp only [List.mem_cons, List.not_mem_nil, or_false] at hy
      subst hy
      intro _ h0; exact absurd h0 (by simp)
    · intro y hy; cases hy
  exact ⟨⟨A, B, rfl, ((((((R.far zz _).far zz _).far zz _).far zz _).far zz _).far zz _).mono (by omega)⟩, (((((B1.setCell (by simp) _).setCell (by simp) _).setCell (by simp) _).setCell (by simp) _).setCell (by simp) _).setCell (by simp) _⟩

theorem spec_StartSym_any (w : World) :
    Calls Try.prog 10 #[] w (StartAns w) := by
  have B0 := ab (Below.refl _ w) (.cells #[.int .i64 0, .slice none 0 0, .slice none 0 0, .slice none 0 0, .int .i64 0, .slice none 0 0] 32)
  have S0 := Stc.new w 32 [.int .i64 0, .slice none 0 0, .slice none 0 0, .slice none 0 0, .int .i64 0, .slice none 0 0] _ rfl
  go_enter Try.func10, Try.ntmps10
  go_wp2_with fail
  refine (spec_l5Start_any _).mono ?_
  rintro e w1 ⟨⟨A, B, rfl, R1⟩, b1⟩
  simp only [World.size_alloc] at R1
  have B1 := ac B0 b1
  replace S0 := S0.below b1 S0.lt
  have x0 := S0.cell (i := 0) rfl
  have x1 := S0.cell (i := 1) rfl
  have x2 := S0.cell (i := 2) rfl
  have x3 := S0.cell (i := 3) rfl
  have x4 := S0.cell (i := 4) rfl
  have x5 := S0.cell (i := 5) rfl
  have y0 := S0.frozen
  go_wp2
  refine bodyPost_ret (v := .agg #[.int .i64 0, .slice A 32 32, .slice B 32 32, .slice none 0 0, .int .i64 0, .slice none 0 0]) (by simp [results, Try.results10, go_sem, x0, x1, x2, x3, x4, x5]) rfl ?_
  obtain ⟨o1, s1, o2, _⟩ := R1
  have s12 := s1 (B, 32, nameL) (by simp)
  have zz : w.heap.size < w.heap.size + 1 := Nat.lt_succ_self _
  have R : Rm w1 (w.heap.size + 1) [(A, 32, nameL), (B, 32, nameL), (none, 0, []), (none, 0, [])] := by
    refine Rm.cons o1 ?_ (Rm.cons o2 ?_ (Rm.cons (Om.nil_ _ _) ?_ (Rm.cons (Om.nil_ _ _) ?_ (Rm.nil _ _))))
    · intro y hy
      simp only [List.mem_cons, List.not_mem_nil, or_false] at hy
      rcases hy with rfl | rfl | rfl
      · exact s12
      · intro _ h0; exact absurd h0 (by simp)
      · intro _ h0; exact absurd h0 (by simp)
    · intro y hy
      simp only [List.mem_cons, List.not_mem_nil, or_false] at hy
      rcases hy with rfl | rfl <;> (intro _ h0; exact absurd h0 (by simp))
    · intro y hy
      simp only [List.mem_cons, List.not_mem_nil, or_false] at hy
      subst hy
      intro _ h0; exact absurd h0 (by simp)
    · intro y hy; cases hy
  exact ⟨⟨A, B, rfl, ((((((R.far zz _).far zz _).far zz _).far zz _).far zz _).far zz _).mono (by omega)⟩, (((((B1.setCell (by simp) _).setCell (by simp) _).setCell (by simp) _).setCell (by simp) _).setCell (by simp) _).setCell (by simp) _⟩

end Go.Proofs.Ytknkadmngdaakaa
