/- An event, copied by the program. -/
import Derived.Test.YtpaemmoopjkppaaEvnT
import Derived.Test.YtpaemmoopjkppaaSndP
namespace Go.Proofs.Ytpaemmoopjkppaa
open Go.RowKit

set_option maxHeartbeats 1000000 in
theorem copiedE_any (e : EventD) (A : Option Addr) (m c : Nat) (w : World) (h : Bs w A m e.f2) (hz : A = none → c = 0) (hm : m ≤ 1048576) :
    Calls Try.prog 61 #[.agg #[.int .i64 e.f0, .int .i64 e.f1, .slice A m c, .int .i64 e.f3, .int .i64 e.f4, .int .i64 e.f5]] w fun x w' => (∃ A' c', x = .returned (.agg #[.int .i64 e.f0, .int .i64 e.f1, .slice A' m c', .int .i64 e.f3, .int .i64 e.f4, .int .i64 e.f5]) ∧ Ow w' w.heap.size A' m e.f2 ∧ Rm A' m c') ∧ Below w.heap.size w w' := by
  have S0 := (Stc.new w 102 [.int .i64 e.f0, .int .i64 e.f1, .slice A m c, .int .i64 e.f3, .int .i64 e.f4, .int .i64 e.f5] _ rfl).alloc (.cells #[.int .i64 0, .int .i64 0, .slice none 0 0, .int .i64 0, .int .i64 0, .int .i64 0] 102)
  have S1 := Stc.new (w.alloc (.cells #[.int .i64 e.f0, .int .i64 e.f1, .slice A m c, .int .i64 e.f3, .int .i64 e.f4, .int .i64 e.f5] 102)) 102 [.int .i64 0, .int .i64 0, .slice none 0 0, .int .i64 0, .int .i64 0, .int .i64 0] _ rfl
  have B0 := ab (ab (Below.refl _ w) (.cells #[.int .i64 e.f0, .int .i64 e.f1, .slice A m c, .int .i64 e.f3, .int .i64 e.f4, .int .i64 e.f5] 102)) (.cells #[.int .i64 0, .int .i64 0, .slice none 0 0, .int .i64 0, .int .i64 0, .int .i64 0] 102)
  simp only [World.size_alloc] at S1
  have hcp := clone_any A m c e.f2 _ (h.below B0) hz (by omega)
  go_enter Try.func61, Try.ntmps61
  go_wp2_with fail
  refine hcp.mono ?_
  rintro x w1 ⟨⟨A1, c1, rfl, ho, hrm⟩, b1⟩
  have B1 := ac B0 b1
  have hs1 := b1.size
  simp only [World.size_alloc] at ho hs1
  replace S0 := S0.below b1 S0.lt
  replace S1 := S1.below b1 S1.lt
  have p0 := S0.cell (i := 0) rfl
  have p1 := S0.cell (i := 1) rfl
  have p2 := S0.cell (i := 2) rfl
  have p3 := S0.cell (i := 3) rfl
  have p4 := S0.cell (i := 4) rfl
  have p5 := S0.cell (i := 5) rfl
  have pf := S0.frozen 2
  have q0 := S1.cell (i := 0) rfl
  have q1 := S1.cell (i := 1) rfl
  have q2 := S1.cell (i := 2) rfl
  have q3 := S1.cell (i := 3) rfl
  have q4 := S1.cell (i := 4) rfl
  have q5 := S1.cell (i := 5) rfl
  have qf := S1.frozen
  clear hcp b1
  go_wp2
  refine bodyPost_ret (v := .agg #[.int .i64 e.f0, .int .i64 e.f1, .slice A1 m c1, .int .i64 e.f3, .int .i64 e.f4, .int .i64 e.f5]) (by simp [results, Try.results61, go_sem, q0, q1, q2, q3, q4, q5]) rfl ?_
  refine ⟨⟨A1, c1, rfl, (((((((ho.far ?_ _).far ?_ _).far ?_ _).far ?_ _).far ?_ _).far ?_ _).far ?_ _).mono (by omega), hrm⟩, (((((((B1.setCell ?_ _).setCell ?_ _).setCell ?_ _).setCell ?_ _).setCell ?_ _).setCell ?_ _).setCell ?_ _)⟩ <;> (simp; try omega)
end Go.Proofs.Ytpaemmoopjkppaa
