/- A bound for what is sealed. -/
import Derived.Test.YtabhcolfkkfonaaGreatDoorSealH
namespace Go.Proofs.YtabhcolfkkfonaaGreatDoor
open Go.RowKit
theorem slM_le (q m : Nat) : slM q m ≤ m + 16 := by unfold slM; split <;> omega
end Go.Proofs.YtabhcolfkkfonaaGreatDoor
