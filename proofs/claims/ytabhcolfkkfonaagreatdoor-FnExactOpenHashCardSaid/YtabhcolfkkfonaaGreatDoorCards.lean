/-
  DERIVED. GIVEN WITH THE SEED: THE CARDS: each row of YtabhcolfkkfonaaGreatDoorRows.lean that lists a variable, with what it lists TIED to the program's text (the seventh form; the later family's looks); each row that meets fmt, with fmt's text TOLD by the authors' own Lean function (tested against real Go, not proved from fmt's source: count such statements apart). THE CARD IS WHAT COUNTS. Prove the row's statement (the work); the ties are given (YtabhcolfkkfonaaGreatDoorTie.lean); close each card by the builder's one call (the guide's Derived/Test/ToyasCard.lean, 'card_holds'). Laid BY PROGRAM, IN A SANDBOX (cutbox-door.mjs). By AI agents, Wed Nov 11 2026. No macro, syntax, notation, axiom, sorry.
-/
import Derived.Test.YtabhcolfkkfonaaGreatDoorRows
import GoSem.ClaimSeven
namespace Go.Proofs.YtabhcolfkkfonaaGreatDoor
namespace Rows

/-- THE TIED CARD OF 'laws.FnSyms'. -/
def fnSymsCard : Claim7 := { stood := { row := fnSymsRow, standIns := [], harness := (true, "c72af829cf396cb4cdf56f5ec18b3817097b597614cd8105b9fd585c0853133b"), looks := true }, kinds := [], alts := [], laidByText := true, laidKinds := [.data, .data, .sentinel, .data], laidTests := true, laidLooks := .later }
def FnSymsCardSaid : Prop := Claim7.holds Tryz.pinned (.plain (OpenSpec.ofChange fnSymsSpec)) fnSymsCard

/-- THE TIED CARD OF 'laws.FnShakes'. -/
def fnShakesCard : Claim7 := { stood := { row := fnShakesRow, standIns := [], harness := (true, "c72af829cf396cb4cdf56f5ec18b3817097b597614cd8105b9fd585c0853133b"), looks := true }, kinds := [], alts := [], laidByText := true, laidKinds := [.data, .data, .sentinel, .data, .data], laidTests := true, laidLooks := .later }
def FnShakesCardSaid : Prop := Claim7.holds Tryz.pinned (.plain (OpenSpec.ofChange fnShakesSpec)) fnShakesCard

/-- THE TIED CARD OF 'laws.FnSeals'. -/
def fnSealsCard : Claim7 := { stood := { row := fnSealsRow, standIns := [], harness := (true, "c72af829cf396cb4cdf56f5ec18b3817097b597614cd8105b9fd585c0853133b"), looks := true }, kinds := [], alts := [], laidByText := true, laidKinds := [.sentinel, .data], laidTests := true, laidLooks := .later }
def FnSealsCardSaid : Prop := Claim7.holds Tryz.pinned (.plain (OpenSpec.ofChange fnSealsSpec)) fnSealsCard

/-- THE TIED CARD OF 'laws.FnExactSealHash'. -/
def fnExactSealHashCard : Claim7 := { stood := { row := fnExactSealHashRow, standIns := [], harness := (true, "c72af829cf396cb4cdf56f5ec18b3817097b597614cd8105b9fd585c0853133b"), looks := true }, kinds := [], alts := [], laidByText := true, laidKinds := [.data, .data, .data], laidTests := true, laidLooks := .later }
def FnExactSealHashCardSaid : Prop := Claim7.holds Tryz.pinned (.plain (OpenSpec.ofChange fnExactSealHashSpec)) fnExactSealHashCard

/-- THE TIED CARD OF 'laws.FnExactOpenHash'. -/
def fnExactOpenHashCard : Claim7 := { stood := { row := fnExactOpenHashRow, standIns := [], harness := (true, "c72af829cf396cb4cdf56f5ec18b3817097b597614cd8105b9fd585c0853133b"), looks := true }, kinds := [], alts := [], laidByText := true, laidKinds := [.data, .data, .sentinel, .data], laidTests := true, laidLooks := .later }
def FnExactOpenHashCardSaid : Prop := Claim7.holds Tryz.pinned (.plain (OpenSpec.ofChange fnExactOpenHashSpec)) fnExactOpenHashCard

/-- THE TIED CARD OF 'laws.FnExactRunShake'. -/
def fnExactRunShakeCard : Claim7 := { stood := { row := fnExactRunShakeRow, standIns := [], harness := (true, "c72af829cf396cb4cdf56f5ec18b3817097b597614cd8105b9fd585c0853133b"), looks := true }, kinds := [], alts := [], laidByText := true, laidKinds := [.data, .data, .sentinel, .data, .data], laidTests := true, laidLooks := .later }
def FnExactRunShakeCardSaid : Prop := Claim7.holds Tryz.pinned (.plain (OpenSpec.ofChange fnExactRunShakeSpec)) fnExactRunShakeCard

/-- THE TIED CARD OF 'laws.FnExactOpenCell'. -/
def fnExactOpenCellCard : Claim7 := { stood := { row := fnExactOpenCellRow, standIns := [], harness := (true, "c72af829cf396cb4cdf56f5ec18b3817097b597614cd8105b9fd585c0853133b"), looks := true }, kinds := [], alts := [], laidByText := true, laidKinds := [.sentinel, .data], laidTests := true, laidLooks := .later }
def FnExactOpenCellCardSaid : Prop := Claim7.holds Tryz.pinned (.plain (OpenSpec.ofChange fnExactOpenCellSpec)) fnExactOpenCellCard

/-- THE SECOND FORM's CARD OF 'laws.FnSyms'. -/
def fnSymsUptoCard : Claim7 := { stood := { row := fnSymsUptoRow, standIns := [], harness := (true, "c72af829cf396cb4cdf56f5ec18b3817097b597614cd8105b9fd585c0853133b"), looks := true }, kinds := [], alts := [], laidByText := true, laidKinds := [.data, .data, .sentinel, .data], laidTests := true, laidLooks := .later }
def FnSymsUptoCardSaid : Prop := Claim7.holds Tryz.pinned (.plain (OpenSpec.upto fnSymsSpec)) fnSymsUptoCard

/-- THE SECOND FORM's CARD OF 'laws.FnShakes'. -/
def fnShakesUptoCard : Claim7 := { stood := { row := fnShakesUptoRow, standIns := [], harness := (true, "c72af829cf396cb4cdf56f5ec18b3817097b597614cd8105b9fd585c0853133b"), looks := true }, kinds := [], alts := [], laidByText := true, laidKinds := [.data, .data, .sentinel, .data, .data], laidTests := true, laidLooks := .later }
def FnShakesUptoCardSaid : Prop := Claim7.holds Tryz.pinned (.plain (OpenSpec.upto fnShakesSpec)) fnShakesUptoCard

/-- THE SECOND FORM's CARD OF 'laws.FnSeals'. -/
def fnSealsUptoCard : Claim7 := { stood := { row := fnSealsUptoRow, standIns := [], harness := (true, "c72af829cf396cb4cdf56f5ec18b3817097b597614cd8105b9fd585c0853133b"), looks := true }, kinds := [], alts := [], laidByText := true, laidKinds := [.sentinel, .data], laidTests := true, laidLooks := .later }
def FnSealsUptoCardSaid : Prop := Claim7.holds Tryz.pinned (.plain (OpenSpec.upto fnSealsSpec)) fnSealsUptoCard

/-- THE SECOND FORM's CARD OF 'laws.FnExactSealHash'. -/
def fnExactSealHashUptoCard : Claim7 := { stood := { row := fnExactSealHashUptoRow, standIns := [], harness := (true, "c72af829cf396cb4cdf56f5ec18b3817097b597614cd8105b9fd585c0853133b"), looks := true }, kinds := [], alts := [], laidByText := true, laidKinds := [.data, .data, .data], laidTests := true, laidLooks := .later }
def FnExactSealHashUptoCardSaid : Prop := Claim7.holds Tryz.pinned (.plain (OpenSpec.upto fnExactSealHashSpec)) fnExactSealHashUptoCard

/-- THE SECOND FORM's CARD OF 'laws.FnExactOpenHash'. -/
def fnExactOpenHashUptoCard : Claim7 := { stood := { row := fnExactOpenHashUptoRow, standIns := [], harness := (true, "c72af829cf396cb4cdf56f5ec18b3817097b597614cd8105b9fd585c0853133b"), looks := true }, kinds := [], alts := [], laidByText := true, laidKinds := [.data, .data, .sentinel, .data], laidTests := true, laidLooks := .later }
def FnExactOpenHashUptoCardSaid : Prop := Claim7.holds Tryz.pinned (.plain (OpenSpec.upto fnExactOpenHashSpec)) fnExactOpenHashUptoCard

/-- THE SECOND FORM's CARD OF 'laws.FnExactRunShake'. -/
def fnExactRunShakeUptoCard : Claim7 := { stood := { row := fnExactRunShakeUptoRow, standIns := [], harness := (true, "c72af829cf396cb4cdf56f5ec18b3817097b597614cd8105b9fd585c0853133b"), looks := true }, kinds := [], alts := [], laidByText := true, laidKinds := [.data, .data, .sentinel, .data, .data], laidTests := true, laidLooks := .later }
def FnExactRunShakeUptoCardSaid : Prop := Claim7.holds Tryz.pinned (.plain (OpenSpec.upto fnExactRunShakeSpec)) fnExactRunShakeUptoCard

/-- THE SECOND FORM's CARD OF 'laws.FnExactOpenCell'. -/
def fnExactOpenCellUptoCard : Claim7 := { stood := { row := fnExactOpenCellUptoRow, standIns := [], harness := (true, "c72af829cf396cb4cdf56f5ec18b3817097b597614cd8105b9fd585c0853133b"), looks := true }, kinds := [], alts := [], laidByText := true, laidKinds := [.sentinel, .data], laidTests := true, laidLooks := .later }
def FnExactOpenCellUptoCardSaid : Prop := Claim7.holds Tryz.pinned (.plain (OpenSpec.upto fnExactOpenCellSpec)) fnExactOpenCellUptoCard
end Rows
end Go.Proofs.YtabhcolfkkfonaaGreatDoor
