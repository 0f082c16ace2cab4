/-
  DERIVED. GIVEN WITH THE SEED: THE CARDS: each row of YtabhcolfkkfonaaDoorRows.lean that lists a variable, with what it lists TIED to the program's text (the seventh form; the later family's looks); each row that meets fmt, with fmt's text TOLD by the authors' own Lean function (tested against real Go, not proved from fmt's source: count such statements apart). THE CARD IS WHAT COUNTS. Prove the row's statement (the work); the ties are given (YtabhcolfkkfonaaDoorTie.lean); close each card by the builder's one call (the guide's Derived/Test/ToyasCard.lean, 'card_holds'). Laid BY PROGRAM, IN A SANDBOX (cutbox-door.mjs). By AI agents, Wed Nov 11 2026. No macro, syntax, notation, axiom, sorry.
-/
import Derived.Test.YtabhcolfkkfonaaDoorRows
import GoSem.ClaimSeven
namespace Go.Proofs.YtabhcolfkkfonaaDoor
namespace Rows

/-- THE TIED CARD OF 'laws.FnRatchets'. -/
def fnRatchetsCard : Claim7 := { stood := { row := fnRatchetsRow, standIns := [], harness := (true, "6bfdeb0904d0267cf4cbcc9dbd304a564a7179e47ff65353f4505434df612d3d"), looks := false }, kinds := [], alts := [], laidByText := true, laidKinds := [.data, .data], laidTests := true, laidLooks := .later }
def FnRatchetsCardSaid : Prop := Claim7.holds Tryd.pinned (.plain (OpenSpec.ofChange fnRatchetsSpec)) fnRatchetsCard

/-- THE TIED CARD OF 'laws.FnExactNextChain'. -/
def fnExactNextChainCard : Claim7 := { stood := { row := fnExactNextChainRow, standIns := [], harness := (true, "6bfdeb0904d0267cf4cbcc9dbd304a564a7179e47ff65353f4505434df612d3d"), looks := false }, kinds := [], alts := [], laidByText := true, laidKinds := [.data, .data], laidTests := true, laidLooks := .later }
def FnExactNextChainCardSaid : Prop := Claim7.holds Tryd.pinned (.plain (OpenSpec.ofChange fnExactNextChainSpec)) fnExactNextChainCard

/-- THE TIED CARD OF 'laws.FnExactKeyAt'. -/
def fnExactKeyAtCard : Claim7 := { stood := { row := fnExactKeyAtRow, standIns := [], harness := (true, "6bfdeb0904d0267cf4cbcc9dbd304a564a7179e47ff65353f4505434df612d3d"), looks := false }, kinds := [], alts := [], laidByText := true, laidKinds := [.data, .data], laidTests := true, laidLooks := .later }
def FnExactKeyAtCardSaid : Prop := Claim7.holds Tryd.pinned (.plain (OpenSpec.ofChange fnExactKeyAtSpec)) fnExactKeyAtCard

/-- THE SECOND FORM's CARD OF 'laws.FnRatchets'. -/
def fnRatchetsUptoCard : Claim7 := { stood := { row := fnRatchetsUptoRow, standIns := [], harness := (true, "6bfdeb0904d0267cf4cbcc9dbd304a564a7179e47ff65353f4505434df612d3d"), looks := false }, kinds := [], alts := [], laidByText := true, laidKinds := [.data, .data], laidTests := true, laidLooks := .later }
def FnRatchetsUptoCardSaid : Prop := Claim7.holds Tryd.pinned (.plain (OpenSpec.upto fnRatchetsSpec)) fnRatchetsUptoCard

/-- THE SECOND FORM's CARD OF 'laws.FnExactNextChain'. -/
def fnExactNextChainUptoCard : Claim7 := { stood := { row := fnExactNextChainUptoRow, standIns := [], harness := (true, "6bfdeb0904d0267cf4cbcc9dbd304a564a7179e47ff65353f4505434df612d3d"), looks := false }, kinds := [], alts := [], laidByText := true, laidKinds := [.data, .data], laidTests := true, laidLooks := .later }
def FnExactNextChainUptoCardSaid : Prop := Claim7.holds Tryd.pinned (.plain (OpenSpec.upto fnExactNextChainSpec)) fnExactNextChainUptoCard

/-- THE SECOND FORM's CARD OF 'laws.FnExactKeyAt'. -/
def fnExactKeyAtUptoCard : Claim7 := { stood := { row := fnExactKeyAtUptoRow, standIns := [], harness := (true, "6bfdeb0904d0267cf4cbcc9dbd304a564a7179e47ff65353f4505434df612d3d"), looks := false }, kinds := [], alts := [], laidByText := true, laidKinds := [.data, .data], laidTests := true, laidLooks := .later }
def FnExactKeyAtUptoCardSaid : Prop := Claim7.holds Tryd.pinned (.plain (OpenSpec.upto fnExactKeyAtSpec)) fnExactKeyAtUptoCard
end Rows
end Go.Proofs.YtabhcolfkkfonaaDoor
