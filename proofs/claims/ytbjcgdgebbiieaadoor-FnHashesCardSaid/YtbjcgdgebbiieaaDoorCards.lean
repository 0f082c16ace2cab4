/-
  DERIVED. GIVEN WITH THE SEED: THE CARDS: each row of YtbjcgdgebbiieaaDoorRows.lean that lists a variable, with what it lists TIED to the program's text (the seventh form; the later family's looks); each row that meets fmt, with fmt's text TOLD by the authors' own Lean function (tested against real Go, not proved from fmt's source: count such statements apart). THE CARD IS WHAT COUNTS. Prove the row's statement (the work); the ties are given (YtbjcgdgebbiieaaDoorTie.lean); close each card by the builder's one call (the guide's Derived/Test/ToyasCard.lean, 'card_holds'). Laid BY PROGRAM, IN A SANDBOX (cutbox-door.mjs). By AI agents, Wed Nov 11 2026. No macro, syntax, notation, axiom, sorry.
-/
import Derived.Test.YtbjcgdgebbiieaaDoorRows
import GoSem.ClaimSeven
namespace Go.Proofs.YtbjcgdgebbiieaaDoor
namespace Rows

/-- THE TIED CARD OF 'laws.FnHashes'. -/
def fnHashesCard : Claim7 := { stood := { row := fnHashesRow, standIns := [], harness := (true, "199c9ee4d00861177ba43207c5e4d750b9f4761bcfa3981f6f954204be5bf8d5"), looks := false }, kinds := [], alts := [], laidByText := true, laidKinds := [.data, .data], laidTests := true, laidLooks := .later }
def FnHashesCardSaid : Prop := Claim7.holds Tryd.pinned (.plain (OpenSpec.ofChange fnHashesSpec)) fnHashesCard

/-- THE TIED CARD OF 'laws.FnExactHashOf'. -/
def fnExactHashOfCard : Claim7 := { stood := { row := fnExactHashOfRow, standIns := [], harness := (true, "199c9ee4d00861177ba43207c5e4d750b9f4761bcfa3981f6f954204be5bf8d5"), looks := false }, kinds := [], alts := [], laidByText := true, laidKinds := [.data, .data], laidTests := true, laidLooks := .later }
def FnExactHashOfCardSaid : Prop := Claim7.holds Tryd.pinned (.plain (OpenSpec.ofChange fnExactHashOfSpec)) fnExactHashOfCard

/-- THE TIED CARD OF 'laws.FnExactMacOf'. -/
def fnExactMacOfCard : Claim7 := { stood := { row := fnExactMacOfRow, standIns := [], harness := (true, "199c9ee4d00861177ba43207c5e4d750b9f4761bcfa3981f6f954204be5bf8d5"), looks := false }, kinds := [], alts := [], laidByText := true, laidKinds := [.data, .data], laidTests := true, laidLooks := .later }
def FnExactMacOfCardSaid : Prop := Claim7.holds Tryd.pinned (.plain (OpenSpec.ofChange fnExactMacOfSpec)) fnExactMacOfCard

/-- THE TIED CARD OF 'laws.FnExactKeysOf'. -/
def fnExactKeysOfCard : Claim7 := { stood := { row := fnExactKeysOfRow, standIns := [], harness := (true, "199c9ee4d00861177ba43207c5e4d750b9f4761bcfa3981f6f954204be5bf8d5"), looks := false }, kinds := [], alts := [], laidByText := true, laidKinds := [.data, .data], laidTests := true, laidLooks := .later }
def FnExactKeysOfCardSaid : Prop := Claim7.holds Tryd.pinned (.plain (OpenSpec.ofChange fnExactKeysOfSpec)) fnExactKeysOfCard

/-- THE SECOND FORM's CARD OF 'laws.FnHashes'. -/
def fnHashesUptoCard : Claim7 := { stood := { row := fnHashesUptoRow, standIns := [], harness := (true, "199c9ee4d00861177ba43207c5e4d750b9f4761bcfa3981f6f954204be5bf8d5"), looks := false }, kinds := [], alts := [], laidByText := true, laidKinds := [.data, .data], laidTests := true, laidLooks := .later }
def FnHashesUptoCardSaid : Prop := Claim7.holds Tryd.pinned (.plain (OpenSpec.upto fnHashesSpec)) fnHashesUptoCard

/-- THE SECOND FORM's CARD OF 'laws.FnExactHashOf'. -/
def fnExactHashOfUptoCard : Claim7 := { stood := { row := fnExactHashOfUptoRow, standIns := [], harness := (true, "199c9ee4d00861177ba43207c5e4d750b9f4761bcfa3981f6f954204be5bf8d5"), looks := false }, kinds := [], alts := [], laidByText := true, laidKinds := [.data, .data], laidTests := true, laidLooks := .later }
def FnExactHashOfUptoCardSaid : Prop := Claim7.holds Tryd.pinned (.plain (OpenSpec.upto fnExactHashOfSpec)) fnExactHashOfUptoCard

/-- THE SECOND FORM's CARD OF 'laws.FnExactMacOf'. -/
def fnExactMacOfUptoCard : Claim7 := { stood := { row := fnExactMacOfUptoRow, standIns := [], harness := (true, "199c9ee4d00861177ba43207c5e4d750b9f4761bcfa3981f6f954204be5bf8d5"), looks := false }, kinds := [], alts := [], laidByText := true, laidKinds := [.data, .data], laidTests := true, laidLooks := .later }
def FnExactMacOfUptoCardSaid : Prop := Claim7.holds Tryd.pinned (.plain (OpenSpec.upto fnExactMacOfSpec)) fnExactMacOfUptoCard

/-- THE SECOND FORM's CARD OF 'laws.FnExactKeysOf'. -/
def fnExactKeysOfUptoCard : Claim7 := { stood := { row := fnExactKeysOfUptoRow, standIns := [], harness := (true, "199c9ee4d00861177ba43207c5e4d750b9f4761bcfa3981f6f954204be5bf8d5"), looks := false }, kinds := [], alts := [], laidByText := true, laidKinds := [.data, .data], laidTests := true, laidLooks := .later }
def FnExactKeysOfUptoCardSaid : Prop := Claim7.holds Tryd.pinned (.plain (OpenSpec.upto fnExactKeysOfSpec)) fnExactKeysOfUptoCard
end Rows
end Go.Proofs.YtbjcgdgebbiieaaDoor
