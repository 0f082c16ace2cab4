/-
  DERIVED. GIVEN WITH THE SEED: THE CARDS: each row of YtgmbofoneeagiaaDoorRows.lean that lists a variable, with what it lists TIED to the program's text (the seventh form; the later family's looks); each row that meets fmt, with fmt's text TOLD by the authors' own Lean function (tested against real Go, not proved from fmt's source: count such statements apart). THE CARD IS WHAT COUNTS. Prove the row's statement (the work); the ties are given (YtgmbofoneeagiaaDoorTie.lean); close each card by the builder's one call (the guide's Derived/Test/ToyasCard.lean, 'card_holds'). Laid BY PROGRAM, IN A SANDBOX (cutbox-door.mjs). By AI agents, Wed Nov 11 2026. No macro, syntax, notation, axiom, sorry.
-/
import Derived.Test.YtgmbofoneeagiaaDoorRows
import GoSem.ClaimSeven
namespace Go.Proofs.YtgmbofoneeagiaaDoor
namespace Rows

/-- THE TIED CARD OF 'laws.FnExactIdealWire'. -/
def fnExactIdealWireCard : Claim7 := { stood := { row := fnExactIdealWireRow, standIns := [], harness := (true, "f6035ec1205e85bc74fd6efbaa6d533c661c6619a6dab798440bb6d66b480b3f"), looks := false }, kinds := [], alts := [], laidByText := true, laidKinds := [.data, .data], laidTests := true, laidLooks := .later }
def FnExactIdealWireCardSaid : Prop := Claim7.holds Tryd.pinned (.plain (OpenSpec.ofChange fnExactIdealWireSpec)) fnExactIdealWireCard

/-- THE SECOND FORM's CARD OF 'laws.FnExactIdealWire'. -/
def fnExactIdealWireUptoCard : Claim7 := { stood := { row := fnExactIdealWireUptoRow, standIns := [], harness := (true, "f6035ec1205e85bc74fd6efbaa6d533c661c6619a6dab798440bb6d66b480b3f"), looks := false }, kinds := [], alts := [], laidByText := true, laidKinds := [.data, .data], laidTests := true, laidLooks := .later }
def FnExactIdealWireUptoCardSaid : Prop := Claim7.holds Tryd.pinned (.plain (OpenSpec.upto fnExactIdealWireSpec)) fnExactIdealWireUptoCard
end Rows
end Go.Proofs.YtgmbofoneeagiaaDoor
