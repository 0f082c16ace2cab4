/-
  DERIVED. GIVEN WITH THE SEED: THE CARDS: each row of YtpoiecdifhkegaaDoorRows.lean that lists a variable, with what it lists TIED to the program's text (the seventh form; the later family's looks); each row that meets fmt, with fmt's text TOLD by the authors' own Lean function (tested against real Go, not proved from fmt's source: count such statements apart). THE CARD IS WHAT COUNTS. Prove the row's statement (the work); the ties are given (YtpoiecdifhkegaaDoorTie.lean); close each card by the builder's one call (the guide's Derived/Test/ToyasCard.lean, 'card_holds'). Laid BY PROGRAM, IN A SANDBOX (cutbox-door.mjs). By AI agents, Wed Nov 11 2026. No macro, syntax, notation, axiom, sorry.
-/
import Derived.Test.YtpoiecdifhkegaaDoorRows
import GoSem.ClaimSeven
namespace Go.Proofs.YtpoiecdifhkegaaDoor
namespace Rows

/-- THE TIED CARD OF 'laws.FnExactSealCell'. -/
def fnExactSealCellCard : Claim7 := { stood := { row := fnExactSealCellRow, standIns := [], harness := (true, "da366d2b77e662f3bafd6edf848bd5197b7db9ac9f863af6486ac9a370fa1c57"), looks := true }, kinds := [], alts := [], laidByText := true, laidKinds := [.data], laidTests := true, laidLooks := .later }
def FnExactSealCellCardSaid : Prop := Claim7.holds Tryd.pinned (.plain (OpenSpec.ofChange fnExactSealCellSpec)) fnExactSealCellCard

/-- THE SECOND FORM's CARD OF 'laws.FnExactSealCell'. -/
def fnExactSealCellUptoCard : Claim7 := { stood := { row := fnExactSealCellUptoRow, standIns := [], harness := (true, "da366d2b77e662f3bafd6edf848bd5197b7db9ac9f863af6486ac9a370fa1c57"), looks := true }, kinds := [], alts := [], laidByText := true, laidKinds := [.data], laidTests := true, laidLooks := .later }
def FnExactSealCellUptoCardSaid : Prop := Claim7.holds Tryd.pinned (.plain (OpenSpec.upto fnExactSealCellSpec)) fnExactSealCellUptoCard
end Rows
end Go.Proofs.YtpoiecdifhkegaaDoor
