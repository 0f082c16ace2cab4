/- A nonce, of the program; what is insisted on. -/
import Derived.Test.YtabhcolfkkfonaaGreatDoorFauX
import Derived.Test.YtabhcolfkkfonaaGreatDoorNonB
import Derived.Deep.RegionHeld3
import Derived.WalkLawsBesides
namespace Go.Proofs.YtabhcolfkkfonaaGreatDoor
open Go.RowKit

theorem insist_ok (w : World) : Calls Tryz.prog 178 #[.int .i64 0] w fun e w' => e = .returned (.tuple #[]) ∧ w' = w := by
  go_enter Tryz.func178, Tryz.ntmps178
  go_wp2
  go_end0
  exact ⟨rfl, rfl⟩
theorem insist_stop (z : Int) (hz : (z != 0) = true) (w : World) : Calls Tryz.prog 178 #[.int .i64 z] w fun e w' => e = .panicked [{ v := .iface 108 (.int .i64 z), recovered := false }] ∧ w' = w := by
  go_enter Tryz.func178, Tryz.ntmps178
  go_wp2
  exact ⟨rfl, rfl, rfl⟩

theorem insistedBytes_ok (A : Option Addr) (n c : Nat) (w : World) : Calls Tryz.prog 136 #[.agg #[.int .i64 0, .slice A n c]] w fun e w' => e = .returned (.slice A n c) ∧ Below w.heap.size w w' := by
  go_enter Tryz.func136, Tryz.ntmps136
  go_wp2_with fail
  refine (insist_ok _).mono ?_
  rintro e w' ⟨rfl, rfl⟩
  go_wp2
  go_ret
  exact ⟨rfl, ab (Below.refl _ _) _⟩
theorem insistedBytes_stop (z : Int) (hz : (z != 0) = true) (A : Option Addr) (n c : Nat) (w : World) : Calls Tryz.prog 136 #[.agg #[.int .i64 z, .slice A n c]] w fun e w' => e = .panicked [{ v := .iface 108 (.int .i64 z), recovered := false }] ∧ Below w.heap.size w w' := by
  go_enter Tryz.func136, Tryz.ntmps136
  go_wp2_with fail
  refine (insist_stop z hz _).mono ?_
  rintro e w' ⟨rfl, rfl⟩
  exact ⟨rfl, rfl, ab (Below.refl _ _) _⟩

set_option maxRecDepth 100000 in
set_option maxHeartbeats 1000000 in
/-- no two boxes of one key have one nonce: the count goes on -/
theorem nextNonce_any (b o : Nat) (L : List Value) (t : TypeId) (k : Int) (w : World) (hs : Stc w b L t) (hL : L[o + 3]? = some (.int .i64 k)) (h0 : 0 ≤ k) (hk : k < 1000) :
    Calls Tryz.prog 137 #[.pointer (some ⟨b, o, none⟩)] w fun e w' => ∃ A c, e = .returned (.slice A 12 c) ∧ Stc w' b (L.set (o + 3) (.int .i64 (k + 1))) t ∧ Ow w' w.heap.size A 12 (nonceL k) ∧ Roomy A 12 c ∧ Save b w w' := by
  have x0 := hs.cell hL
  have hb := hs.lt
  have hne : (k == 1000) = false := by rw [beq_eq_false_iff_ne]; omega
  go_enter Tryz.func137, Tryz.ntmps137
  go_wp2_with fail
  refine (nonceOf_any _ _).mono ?_
  rintro e w1 ⟨⟨A, c, rfl, o1, ro⟩, b1⟩
  have S1 := hs.below b1 hb
  clear x0
  have x0 := S1.cell hL
  have x1 := S1.frozen (o + 3)
  have hw : IntKind.i64.wrap (k + 1) = k + 1 := by rw [IntKind.wrap_i64]; omega
  go_wp2
  go_ret
  try rw [hw]
  exact ⟨A, c, rfl, S1.set_ _, o1.far hb _, ro, (Save.ofBelow b1).set_ _ _⟩

theorem nextNonce_full (b o : Nat) (L : List Value) (t : TypeId) (w : World) (hs : Stc w b L t) (hL : L[o + 3]? = some (.int .i64 1000)) :
    Calls Tryz.prog 137 #[.pointer (some ⟨b, o, none⟩)] w fun e w' => e = .panicked [{ v := .iface 108 (.int .i64 7), recovered := false }] ∧ w' = w := by
  have x0 := hs.cell hL
  go_enter Tryz.func137, Tryz.ntmps137
  go_wp2
  exact ⟨rfl, rfl, rfl⟩
end Go.Proofs.YtabhcolfkkfonaaGreatDoor
