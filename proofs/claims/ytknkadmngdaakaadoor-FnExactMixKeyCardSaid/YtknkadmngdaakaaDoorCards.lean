/-
  DERIVED. GIVEN WITH THE SEED: THE CARDS: each row of YtknkadmngdaakaaDoorRows.lean that lists a variable, with what it lists TIED to the program's text (the seventh form; the later family's looks); each row that meets fmt, with fmt's text TOLD by the authors' own Lean function (tested against real Go, not proved from fmt's source: count such statements apart). THE CARD IS WHAT COUNTS. Prove the row's statement (the work); the ties are given (YtknkadmngdaakaaDoorTie.lean); close each card by the builder's one call (the guide's Derived/Test/ToyasCard.lean, 'card_holds'). Laid BY PROGRAM, IN A SANDBOX (cutbox-door.mjs). By AI agents, Wed Nov 11 2026. No macro, syntax, notation, axiom, sorry.
-/
import Derived.Test.YtknkadmngdaakaaDoorRows
import GoSem.ClaimSeven
namespace Go.Proofs.YtknkadmngdaakaaDoor
namespace Rows

/-- THE TIED CARD OF 'laws.FnExactMixHash'. -/
def fnExactMixHashCard : Claim7 := { stood := { row := fnExactMixHashRow, standIns := [], harness := (true, "4a51a3f6998626ba15986798881cd5eead7a0b44943675ca569b1a28efff366d"), looks := true }, kinds := [], alts := [], laidByText := true, laidKinds := [.data, .data], laidTests := true, laidLooks := .later }
def FnExactMixHashCardSaid : Prop := Claim7.holds Tryd.pinned (.plain (OpenSpec.ofChange fnExactMixHashSpec)) fnExactMixHashCard

/-- THE TIED CARD OF 'laws.FnExactMixKey'. -/
def fnExactMixKeyCard : Claim7 := { stood := { row := fnExactMixKeyRow, standIns := [], harness := (true, "4a51a3f6998626ba15986798881cd5eead7a0b44943675ca569b1a28efff366d"), looks := true }, kinds := [], alts := [], laidByText := true, laidKinds := [.data, .data], laidTests := true, laidLooks := .later }
def FnExactMixKeyCardSaid : Prop := Claim7.holds Tryd.pinned (.plain (OpenSpec.ofChange fnExactMixKeySpec)) fnExactMixKeyCard

/-- THE TIED CARD OF 'laws.FnExactSplitSym'. -/
def fnExactSplitSymCard : Claim7 := { stood := { row := fnExactSplitSymRow, standIns := [], harness := (true, "4a51a3f6998626ba15986798881cd5eead7a0b44943675ca569b1a28efff366d"), looks := true }, kinds := [], alts := [], laidByText := true, laidKinds := [.data, .data], laidTests := true, laidLooks := .later }
def FnExactSplitSymCardSaid : Prop := Claim7.holds Tryd.pinned (.plain (OpenSpec.ofChange fnExactSplitSymSpec)) fnExactSplitSymCard

/-- THE TIED CARD OF 'laws.FnExactShakeFault'. -/
def fnExactShakeFaultCard : Claim7 := { stood := { row := fnExactShakeFaultRow, standIns := [], harness := (true, "4a51a3f6998626ba15986798881cd5eead7a0b44943675ca569b1a28efff366d"), looks := true }, kinds := [], alts := [], laidByText := true, laidKinds := [.data], laidTests := true, laidLooks := .later }
def FnExactShakeFaultCardSaid : Prop := Claim7.holds Tryd.pinned (.plain (OpenSpec.ofChange fnExactShakeFaultSpec)) fnExactShakeFaultCard

/-- THE SECOND FORM's CARD OF 'laws.FnExactMixHash'. -/
def fnExactMixHashUptoCard : Claim7 := { stood := { row := fnExactMixHashUptoRow, standIns := [], harness := (true, "4a51a3f6998626ba15986798881cd5eead7a0b44943675ca569b1a28efff366d"), looks := true }, kinds := [], alts := [], laidByText := true, laidKinds := [.data, .data], laidTests := true, laidLooks := .later }
def FnExactMixHashUptoCardSaid : Prop := Claim7.holds Tryd.pinned (.plain (OpenSpec.upto fnExactMixHashSpec)) fnExactMixHashUptoCard

/-- THE SECOND FORM's CARD OF 'laws.FnExactMixKey'. -/
def fnExactMixKeyUptoCard : Claim7 := { stood := { row := fnExactMixKeyUptoRow, standIns := [], harness := (true, "4a51a3f6998626ba15986798881cd5eead7a0b44943675ca569b1a28efff366d"), looks := true }, kinds := [], alts := [], laidByText := true, laidKinds := [.data, .data], laidTests := true, laidLooks := .later }
def FnExactMixKeyUptoCardSaid : Prop := Claim7.holds Tryd.pinned (.plain (OpenSpec.upto fnExactMixKeySpec)) fnExactMixKeyUptoCard

/-- THE SECOND FORM's CARD OF 'laws.FnExactSplitSym'. -/
def fnExactSplitSymUptoCard : Claim7 := { stood := { row := fnExactSplitSymUptoRow, standIns := [], harness := (true, "4a51a3f6998626ba15986798881cd5eead7a0b44943675ca569b1a28efff366d"), looks := true }, kinds := [], alts := [], laidByText := true, laidKinds := [.data, .data], laidTests := true, laidLooks := .later }
def FnExactSplitSymUptoCardSaid : Prop := Claim7.holds Tryd.pinned (.plain (OpenSpec.upto fnExactSplitSymSpec)) fnExactSplitSymUptoCard

/-- THE SECOND FORM's CARD OF 'laws.FnExactShakeFault'. -/
def fnExactShakeFaultUptoCard : Claim7 := { stood := { row := fnExactShakeFaultUptoRow, standIns := [], harness := (true, "4a51a3f6998626ba15986798881cd5eead7a0b44943675ca569b1a28efff366d"), looks := true }, kinds := [], alts := [], laidByText := true, laidKinds := [.data], laidTests := true, laidLooks := .later }
def FnExactShakeFaultUptoCardSaid : Prop := Claim7.holds Tryd.pinned (.plain (OpenSpec.upto fnExactShakeFaultSpec)) fnExactShakeFaultUptoCard
end Rows
end Go.Proofs.YtknkadmngdaakaaDoor
