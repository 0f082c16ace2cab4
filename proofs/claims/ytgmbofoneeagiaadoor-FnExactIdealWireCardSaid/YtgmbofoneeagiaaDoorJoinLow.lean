/- A range over slices.Backward: joinLow. -/
import Derived.RangeFuncFrom
import Derived.RangeFuncBox
import Derived.RangeFuncLeaves
import Derived.RangeFuncNested
import Derived.RangeFuncBound
import Derived.RangeFuncCalls
import Derived.Shelf.Abstract
import Derived.OwnWalkIn
import Derived.TacticsInMore
import Derived.LoopNIn
import Derived.LoopIn
import Derived.Test.YtgmbofoneeagiaaDoorBase
namespace Go.Proofs.YtgmbofoneeagiaaDoor
open Go.RowKit Go.Shelf

attribute [local go_sem] Oper.semAt_some

/-- what a round is handed: a place, and a byte -/
abbrev Came := Int × { x : Int // 0 ≤ x ∧ x < 256 }
def cameArgs (p : Came) : Array Value := #[.int .i64 p.1, .int .u8 p.2.1]
def vals (pre : List Came) : List Int := pre.map fun p => p.2.1
theorem vals_snoc (pre : List Came) (p : Came) : vals (pre ++ [p]) = vals pre ++ [p.2.1] := by simp [vals]
theorem vals_byte (pre : List Came) : By (vals pre) := fun x hx => by
  simp only [vals, List.mem_map] at hx
  obtain ⟨p, _, rfl⟩ := hx
  exact p.2.2

theorem rev_take (l : List Int) (n k : Nat) (h : l.length = n) (hk : k < n) : l.reverse.take (k + 1) = l.reverse.take k ++ [l.getD (n - 1 - k) 0] := by
  rw [List.take_succ_eq_append_getElem (by rw [List.length_reverse]; omega), List.getElem_reverse]
  simp [List.getD, List.getElem?_eq_getElem (show n - 1 - k < l.length by omega), h]

/-- what lay below n0 lies as it lay, and so does block Bx -/
def Kb (n0 Bx : Nat) (A B : World) : Prop := Below n0 A B ∧ B.heap[Bx]? = A.heap[Bx]?
theorem Kb.refl (n0 Bx : Nat) (A : World) : Kb n0 Bx A A := ⟨Below.refl _ _, rfl⟩
theorem Kb.trans {n0 Bx : Nat} {A B C : World} (h : Kb n0 Bx A B) (k : Kb n0 Bx B C) : Kb n0 Bx A C := ⟨h.1.trans k.1, k.2.trans h.2⟩
theorem Kb.cellBox {n0 Bx : Nat} {A B : World} (h : Kb n0 Bx A B) : B.cell? ⟨Bx, 0, none⟩ = A.cell? ⟨Bx, 0, none⟩ := World.cell?_of_block (a := ⟨Bx, 0, none⟩) h.2

theorem hi_bd6 (l : List Int) (h : By l) (hk : l.length ≤ 6) : 0 ≤ hi l ∧ hi l < 281474976710656 := by
  have := hi_take_bd l h l.length hk
  rwa [List.take_length] at this

/-- the number of bytes, the lowest one first -/
def lo (l : List Int) : Int := hi l.reverse

def rlow (l : List Int) : Int := if 1 ≤ l.length ∧ l.length ≤ 7 then lo l else 0

end Go.Proofs.YtgmbofoneeagiaaDoor
