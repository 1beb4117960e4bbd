/-
  DERIVED. GIVEN WITH THE SEED: THE CARDS: each row of YtfpdcokdponojaaGreatDoorRows.lean that lists a variable, with what it lists TIED to the program's text (the seventh form; the later family's looks); each row that meets fmt, with fmt's text TOLD by the authors' own Lean function (tested against real Go, not proved from fmt's source: count such statements apart). THE CARD IS WHAT COUNTS. Prove the row's statement (the work); the ties are given (YtfpdcokdponojaaGreatDoorTie.lean); close each card by the builder's one call (the guide's Derived/Test/ToyasCard.lean, 'card_holds'). Laid BY PROGRAM, IN A SANDBOX (cutbox-door.mjs). By AI agents, Wed Nov 11 2026. No macro, syntax, notation, axiom, sorry.
-/
import Derived.Test.YtfpdcokdponojaaGreatDoorRows
import GoSem.ClaimSeven
namespace Go.Proofs.YtfpdcokdponojaaGreatDoor
namespace Rows

/-- THE TIED CARD OF 'gatepostlaw10.RequestReads'. -/
def requestReadsCard : Claim7 := { stood := { row := requestReadsRow, standIns := [], harness := (true, "45597f0fafbb39294e6292d53248cff1a3b88e434a44c3e76080203d756d6f98"), looks := true }, kinds := [], alts := [], laidByText := true, laidKinds := [.data, .data, .data, .data, .sentinel, .sentinel, .pinned, .pinned], laidTests := true, laidLooks := .later }
def RequestReadsCardSaid : Prop := Claim7.holds Tryz.pinned (.plain (OpenSpec.ofChange requestReadsSpec)) requestReadsCard

/-- THE TIED CARD OF 'gatepostlaw10.RequestOne'. -/
def requestOneCard : Claim7 := { stood := { row := requestOneRow, standIns := [], harness := (true, "45597f0fafbb39294e6292d53248cff1a3b88e434a44c3e76080203d756d6f98"), looks := true }, kinds := [], alts := [], laidByText := true, laidKinds := [.data, .data, .data, .data, .sentinel, .sentinel, .pinned, .pinned], laidTests := true, laidLooks := .later }
def RequestOneCardSaid : Prop := Claim7.holds Tryz.pinned (.plain (OpenSpec.ofChange requestOneSpec)) requestOneCard

/-- THE TIED CARD OF 'gatepostlaw10.RequestOf'. -/
def requestOfCard : Claim7 := { stood := { row := requestOfRow, standIns := [], harness := (true, "45597f0fafbb39294e6292d53248cff1a3b88e434a44c3e76080203d756d6f98"), looks := true }, kinds := [], alts := [], laidByText := true, laidKinds := [.data, .data, .data, .data, .sentinel, .sentinel, .pinned, .pinned], laidTests := true, laidLooks := .later }
def RequestOfCardSaid : Prop := Claim7.holds Tryz.pinned (.plain (OpenSpec.ofChange requestOfSpec)) requestOfCard

/-- THE TIED CARD OF 'gatepostlaw10.RequestMay'. -/
def requestMayCard : Claim7 := { stood := { row := requestMayRow, standIns := [], harness := (true, "45597f0fafbb39294e6292d53248cff1a3b88e434a44c3e76080203d756d6f98"), looks := true }, kinds := [], alts := [], laidByText := true, laidKinds := [.data, .data, .data, .data, .sentinel, .sentinel, .pinned, .pinned], laidTests := true, laidLooks := .later }
def RequestMayCardSaid : Prop := Claim7.holds Tryz.pinned (.plain (OpenSpec.ofChange requestMaySpec)) requestMayCard

/-- THE TIED CARD OF 'gatepostlaw10.RequestPieces'. -/
def requestPiecesCard : Claim7 := { stood := { row := requestPiecesRow, standIns := [], harness := (true, "45597f0fafbb39294e6292d53248cff1a3b88e434a44c3e76080203d756d6f98"), looks := true }, kinds := [], alts := [], laidByText := true, laidKinds := [.data, .data, .data, .data, .sentinel, .sentinel, .pinned, .pinned], laidTests := true, laidLooks := .later }
def RequestPiecesCardSaid : Prop := Claim7.holds Tryz.pinned (.plain (OpenSpec.ofChange requestPiecesSpec)) requestPiecesCard

/-- THE TIED CARD OF 'gatepostlaw10.RequestAlone'. -/
def requestAloneCard : Claim7 := { stood := { row := requestAloneRow, standIns := [], harness := (true, "45597f0fafbb39294e6292d53248cff1a3b88e434a44c3e76080203d756d6f98"), looks := true }, kinds := [], alts := [], laidByText := true, laidKinds := [.data, .data, .data, .data, .sentinel, .sentinel, .pinned, .pinned], laidTests := true, laidLooks := .later }
def RequestAloneCardSaid : Prop := Claim7.holds Tryz.pinned (.plain (OpenSpec.ofChange requestAloneSpec)) requestAloneCard

/-- THE TIED CARD OF 'gatepostlaw10.RequestBack'. -/
def requestBackCard : Claim7 := { stood := { row := requestBackRow, standIns := [], harness := (true, "45597f0fafbb39294e6292d53248cff1a3b88e434a44c3e76080203d756d6f98"), looks := true }, kinds := [], alts := [], laidByText := true, laidKinds := [.data, .data, .data, .data, .sentinel, .sentinel, .pinned, .pinned], laidTests := true, laidLooks := .later }
def RequestBackCardSaid : Prop := Claim7.holds Tryz.pinned (.plain (OpenSpec.ofChange requestBackSpec)) requestBackCard

/-- THE TIED CARD OF 'gatepostlaw10.RequestBare'. -/
def requestBareCard : Claim7 := { stood := { row := requestBareRow, standIns := [], harness := (true, "45597f0fafbb39294e6292d53248cff1a3b88e434a44c3e76080203d756d6f98"), looks := true }, kinds := [], alts := [], laidByText := true, laidKinds := [.data, .data, .data, .data, .sentinel, .sentinel, .pinned, .pinned], laidTests := true, laidLooks := .later }
def RequestBareCardSaid : Prop := Claim7.holds Tryz.pinned (.plain (OpenSpec.ofChange requestBareSpec)) requestBareCard

/-- THE TIED CARD OF 'gatepostlaw10.RequestRows'. -/
def requestRowsCard : Claim7 := { stood := { row := requestRowsRow, standIns := [], harness := (true, "45597f0fafbb39294e6292d53248cff1a3b88e434a44c3e76080203d756d6f98"), looks := true }, kinds := [], alts := [], laidByText := true, laidKinds := [.data, .data, .data, .data, .sentinel, .sentinel, .pinned, .pinned], laidTests := true, laidLooks := .later }
def RequestRowsCardSaid : Prop := Claim7.holds Tryz.pinned (.plain (OpenSpec.ofChange requestRowsSpec)) requestRowsCard

/-- THE SECOND FORM's CARD OF 'gatepostlaw10.RequestReads'. -/
def requestReadsUptoCard : Claim7 := { stood := { row := requestReadsUptoRow, standIns := [], harness := (true, "45597f0fafbb39294e6292d53248cff1a3b88e434a44c3e76080203d756d6f98"), looks := true }, kinds := [], alts := [], laidByText := true, laidKinds := [.data, .data, .data, .data, .sentinel, .sentinel, .pinned, .pinned], laidTests := true, laidLooks := .later }
def RequestReadsUptoCardSaid : Prop := Claim7.holds Tryz.pinned (.plain (OpenSpec.upto requestReadsSpec)) requestReadsUptoCard

/-- THE SECOND FORM's CARD OF 'gatepostlaw10.RequestOne'. -/
def requestOneUptoCard : Claim7 := { stood := { row := requestOneUptoRow, standIns := [], harness := (true, "45597f0fafbb39294e6292d53248cff1a3b88e434a44c3e76080203d756d6f98"), looks := true }, kinds := [], alts := [], laidByText := true, laidKinds := [.data, .data, .data, .data, .sentinel, .sentinel, .pinned, .pinned], laidTests := true, laidLooks := .later }
def RequestOneUptoCardSaid : Prop := Claim7.holds Tryz.pinned (.plain (OpenSpec.upto requestOneSpec)) requestOneUptoCard

/-- THE SECOND FORM's CARD OF 'gatepostlaw10.RequestOf'. -/
def requestOfUptoCard : Claim7 := { stood := { row := requestOfUptoRow, standIns := [], harness := (true, "45597f0fafbb39294e6292d53248cff1a3b88e434a44c3e76080203d756d6f98"), looks := true }, kinds := [], alts := [], laidByText := true, laidKinds := [.data, .data, .data, .data, .sentinel, .sentinel, .pinned, .pinned], laidTests := true, laidLooks := .later }
def RequestOfUptoCardSaid : Prop := Claim7.holds Tryz.pinned (.plain (OpenSpec.upto requestOfSpec)) requestOfUptoCard

/-- THE SECOND FORM's CARD OF 'gatepostlaw10.RequestMay'. -/
def requestMayUptoCard : Claim7 := { stood := { row := requestMayUptoRow, standIns := [], harness := (true, "45597f0fafbb39294e6292d53248cff1a3b88e434a44c3e76080203d756d6f98"), looks := true }, kinds := [], alts := [], laidByText := true, laidKinds := [.data, .data, .data, .data, .sentinel, .sentinel, .pinned, .pinned], laidTests := true, laidLooks := .later }
def RequestMayUptoCardSaid : Prop := Claim7.holds Tryz.pinned (.plain (OpenSpec.upto requestMaySpec)) requestMayUptoCard

/-- THE SECOND FORM's CARD OF 'gatepostlaw10.RequestPieces'. -/
def requestPiecesUptoCard : Claim7 := { stood := { row := requestPiecesUptoRow, standIns := [], harness := (true, "45597f0fafbb39294e6292d53248cff1a3b88e434a44c3e76080203d756d6f98"), looks := true }, kinds := [], alts := [], laidByText := true, laidKinds := [.data, .data, .data, .data, .sentinel, .sentinel, .pinned, .pinned], laidTests := true, laidLooks := .later }
def RequestPiecesUptoCardSaid : Prop := Claim7.holds Tryz.pinned (.plain (OpenSpec.upto requestPiecesSpec)) requestPiecesUptoCard

/-- THE SECOND FORM's CARD OF 'gatepostlaw10.RequestAlone'. -/
def requestAloneUptoCard : Claim7 := { stood := { row := requestAloneUptoRow, standIns := [], harness := (true, "45597f0fafbb39294e6292d53248cff1a3b88e434a44c3e76080203d756d6f98"), looks := true }, kinds := [], alts := [], laidByText := true, laidKinds := [.data, .data, .data, .data, .sentinel, .sentinel, .pinned, .pinned], laidTests := true, laidLooks := .later }
def RequestAloneUptoCardSaid : Prop := Claim7.holds Tryz.pinned (.plain (OpenSpec.upto requestAloneSpec)) requestAloneUptoCard

/-- THE SECOND FORM's CARD OF 'gatepostlaw10.RequestBack'. -/
def requestBackUptoCard : Claim7 := { stood := { row := requestBackUptoRow, standIns := [], harness := (true, "45597f0fafbb39294e6292d53248cff1a3b88e434a44c3e76080203d756d6f98"), looks := true }, kinds := [], alts := [], laidByText := true, laidKinds := [.data, .data, .data, .data, .sentinel, .sentinel, .pinned, .pinned], laidTests := true, laidLooks := .later }
def RequestBackUptoCardSaid : Prop := Claim7.holds Tryz.pinned (.plain (OpenSpec.upto requestBackSpec)) requestBackUptoCard

/-- THE SECOND FORM's CARD OF 'gatepostlaw10.RequestBare'. -/
def requestBareUptoCard : Claim7 := { stood := { row := requestBareUptoRow, standIns := [], harness := (true, "45597f0fafbb39294e6292d53248cff1a3b88e434a44c3e76080203d756d6f98"), looks := true }, kinds := [], alts := [], laidByText := true, laidKinds := [.data, .data, .data, .data, .sentinel, .sentinel, .pinned, .pinned], laidTests := true, laidLooks := .later }
def RequestBareUptoCardSaid : Prop := Claim7.holds Tryz.pinned (.plain (OpenSpec.upto requestBareSpec)) requestBareUptoCard

/-- THE SECOND FORM's CARD OF 'gatepostlaw10.RequestRows'. -/
def requestRowsUptoCard : Claim7 := { stood := { row := requestRowsUptoRow, standIns := [], harness := (true, "45597f0fafbb39294e6292d53248cff1a3b88e434a44c3e76080203d756d6f98"), looks := true }, kinds := [], alts := [], laidByText := true, laidKinds := [.data, .data, .data, .data, .sentinel, .sentinel, .pinned, .pinned], laidTests := true, laidLooks := .later }
def RequestRowsUptoCardSaid : Prop := Claim7.holds Tryz.pinned (.plain (OpenSpec.upto requestRowsSpec)) requestRowsUptoCard
end Rows
end Go.Proofs.YtfpdcokdponojaaGreatDoor
