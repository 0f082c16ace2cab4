/-
  DERIVED. GIVEN WITH THE SEED: THE CARDS: each row of YtcanmhlhnihijaaDoorRows.lean that lists a variable, with what it lists TIED to the program's text (the seventh form; the later family's looks); each row that meets fmt, with fmt's text TOLD by the authors' own Lean function (tested against real Go, not proved from fmt's source: count such statements apart). THE CARD IS WHAT COUNTS. Prove the row's statement (the work); the ties are given (YtcanmhlhnihijaaDoorTie.lean); close each card by the builder's one call (the guide's Derived/Test/ToyasCard.lean, 'card_holds'). Laid BY PROGRAM, IN A SANDBOX (cutbox-door.mjs). By AI agents, Wed Nov 11 2026. No macro, syntax, notation, axiom, sorry.
-/
import Derived.Test.YtcanmhlhnihijaaDoorRows
import GoSem.ClaimSeven
namespace Go.Proofs.YtcanmhlhnihijaaDoor
namespace Rows

/-- THE TIED CARD OF 'laws.FnStreams'. -/
def fnStreamsCard : Claim7 := { stood := { row := fnStreamsRow, standIns := [], harness := (true, "69bb7f133dfb4a96bf387b100947e5edd7605735d2df63672f9a1175a7a57395"), looks := true }, kinds := [], alts := [], laidByText := true, laidKinds := [.data], laidTests := true, laidLooks := .later }
def FnStreamsCardSaid : Prop := Claim7.holds Tryd.pinned (.plain (OpenSpec.ofChange fnStreamsSpec)) fnStreamsCard

/-- THE TIED CARD OF 'laws.FnBoxes'. -/
def fnBoxesCard : Claim7 := { stood := { row := fnBoxesRow, standIns := [], harness := (true, "69bb7f133dfb4a96bf387b100947e5edd7605735d2df63672f9a1175a7a57395"), looks := true }, kinds := [], alts := [], laidByText := true, laidKinds := [.sentinel, .data], laidTests := true, laidLooks := .later }
def FnBoxesCardSaid : Prop := Claim7.holds Tryd.pinned (.plain (OpenSpec.ofChange fnBoxesSpec)) fnBoxesCard

/-- THE TIED CARD OF 'laws.FnExactStreamBlock'. -/
def fnExactStreamBlockCard : Claim7 := { stood := { row := fnExactStreamBlockRow, standIns := [], harness := (true, "69bb7f133dfb4a96bf387b100947e5edd7605735d2df63672f9a1175a7a57395"), looks := true }, kinds := [], alts := [], laidByText := true, laidKinds := [.data], laidTests := true, laidLooks := .later }
def FnExactStreamBlockCardSaid : Prop := Claim7.holds Tryd.pinned (.plain (OpenSpec.ofChange fnExactStreamBlockSpec)) fnExactStreamBlockCard

/-- THE TIED CARD OF 'laws.FnExactStreamXor'. -/
def fnExactStreamXorCard : Claim7 := { stood := { row := fnExactStreamXorRow, standIns := [], harness := (true, "69bb7f133dfb4a96bf387b100947e5edd7605735d2df63672f9a1175a7a57395"), looks := true }, kinds := [], alts := [], laidByText := true, laidKinds := [.data], laidTests := true, laidLooks := .later }
def FnExactStreamXorCardSaid : Prop := Claim7.holds Tryd.pinned (.plain (OpenSpec.ofChange fnExactStreamXorSpec)) fnExactStreamXorCard

/-- THE TIED CARD OF 'laws.FnExactSealBox'. -/
def fnExactSealBoxCard : Claim7 := { stood := { row := fnExactSealBoxRow, standIns := [], harness := (true, "69bb7f133dfb4a96bf387b100947e5edd7605735d2df63672f9a1175a7a57395"), looks := true }, kinds := [], alts := [], laidByText := true, laidKinds := [.data], laidTests := true, laidLooks := .later }
def FnExactSealBoxCardSaid : Prop := Claim7.holds Tryd.pinned (.plain (OpenSpec.ofChange fnExactSealBoxSpec)) fnExactSealBoxCard

/-- THE TIED CARD OF 'laws.FnExactOpenBox'. -/
def fnExactOpenBoxCard : Claim7 := { stood := { row := fnExactOpenBoxRow, standIns := [], harness := (true, "69bb7f133dfb4a96bf387b100947e5edd7605735d2df63672f9a1175a7a57395"), looks := true }, kinds := [], alts := [], laidByText := true, laidKinds := [.sentinel, .data], laidTests := true, laidLooks := .later }
def FnExactOpenBoxCardSaid : Prop := Claim7.holds Tryd.pinned (.plain (OpenSpec.ofChange fnExactOpenBoxSpec)) fnExactOpenBoxCard

/-- THE SECOND FORM's CARD OF 'laws.FnStreams'. -/
def fnStreamsUptoCard : Claim7 := { stood := { row := fnStreamsUptoRow, standIns := [], harness := (true, "69bb7f133dfb4a96bf387b100947e5edd7605735d2df63672f9a1175a7a57395"), looks := true }, kinds := [], alts := [], laidByText := true, laidKinds := [.data], laidTests := true, laidLooks := .later }
def FnStreamsUptoCardSaid : Prop := Claim7.holds Tryd.pinned (.plain (OpenSpec.upto fnStreamsSpec)) fnStreamsUptoCard

/-- THE SECOND FORM's CARD OF 'laws.FnBoxes'. -/
def fnBoxesUptoCard : Claim7 := { stood := { row := fnBoxesUptoRow, standIns := [], harness := (true, "69bb7f133dfb4a96bf387b100947e5edd7605735d2df63672f9a1175a7a57395"), looks := true }, kinds := [], alts := [], laidByText := true, laidKinds := [.sentinel, .data], laidTests := true, laidLooks := .later }
def FnBoxesUptoCardSaid : Prop := Claim7.holds Tryd.pinned (.plain (OpenSpec.upto fnBoxesSpec)) fnBoxesUptoCard

/-- THE SECOND FORM's CARD OF 'laws.FnExactStreamBlock'. -/
def fnExactStreamBlockUptoCard : Claim7 := { stood := { row := fnExactStreamBlockUptoRow, standIns := [], harness := (true, "69bb7f133dfb4a96bf387b100947e5edd7605735d2df63672f9a1175a7a57395"), looks := true }, kinds := [], alts := [], laidByText := true, laidKinds := [.data], laidTests := true, laidLooks := .later }
def FnExactStreamBlockUptoCardSaid : Prop := Claim7.holds Tryd.pinned (.plain (OpenSpec.upto fnExactStreamBlockSpec)) fnExactStreamBlockUptoCard

/-- THE SECOND FORM's CARD OF 'laws.FnExactStreamXor'. -/
def fnExactStreamXorUptoCard : Claim7 := { stood := { row := fnExactStreamXorUptoRow, standIns := [], harness := (true, "69bb7f133dfb4a96bf387b100947e5edd7605735d2df63672f9a1175a7a57395"), looks := true }, kinds := [], alts := [], laidByText := true, laidKinds := [.data], laidTests := true, laidLooks := .later }
def FnExactStreamXorUptoCardSaid : Prop := Claim7.holds Tryd.pinned (.plain (OpenSpec.upto fnExactStreamXorSpec)) fnExactStreamXorUptoCard

/-- THE SECOND FORM's CARD OF 'laws.FnExactSealBox'. -/
def fnExactSealBoxUptoCard : Claim7 := { stood := { row := fnExactSealBoxUptoRow, standIns := [], harness := (true, "69bb7f133dfb4a96bf387b100947e5edd7605735d2df63672f9a1175a7a57395"), looks := true }, kinds := [], alts := [], laidByText := true, laidKinds := [.data], laidTests := true, laidLooks := .later }
def FnExactSealBoxUptoCardSaid : Prop := Claim7.holds Tryd.pinned (.plain (OpenSpec.upto fnExactSealBoxSpec)) fnExactSealBoxUptoCard

/-- THE SECOND FORM's CARD OF 'laws.FnExactOpenBox'. -/
def fnExactOpenBoxUptoCard : Claim7 := { stood := { row := fnExactOpenBoxUptoRow, standIns := [], harness := (true, "69bb7f133dfb4a96bf387b100947e5edd7605735d2df63672f9a1175a7a57395"), looks := true }, kinds := [], alts := [], laidByText := true, laidKinds := [.sentinel, .data], laidTests := true, laidLooks := .later }
def FnExactOpenBoxUptoCardSaid : Prop := Claim7.holds Tryd.pinned (.plain (OpenSpec.upto fnExactOpenBoxSpec)) fnExactOpenBoxUptoCard
end Rows
end Go.Proofs.YtcanmhlhnihijaaDoor
