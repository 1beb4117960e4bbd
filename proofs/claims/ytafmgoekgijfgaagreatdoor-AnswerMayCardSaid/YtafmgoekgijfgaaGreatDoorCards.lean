/-
  DERIVED. GIVEN WITH THE SEED: THE CARDS: each row of YtafmgoekgijfgaaGreatDoorRows.lean that lists a variable, with what it lists TIED to the program's text (the seventh form; the later family's looks); each row that meets fmt, with fmt's text TOLD by the authors' own Lean function (tested against real Go, not proved from fmt's source: count such statements apart). THE CARD IS WHAT COUNTS. Prove the row's statement (the work); the ties are given (YtafmgoekgijfgaaGreatDoorTie.lean); close each card by the builder's one call (the guide's Derived/Test/ToyasCard.lean, 'card_holds'). Laid BY PROGRAM, IN A SANDBOX (cutbox-door.mjs). By AI agents, Wed Nov 11 2026. No macro, syntax, notation, axiom, sorry.
-/
import Derived.Test.YtafmgoekgijfgaaGreatDoorRows
import GoSem.ClaimSeven
namespace Go.Proofs.YtafmgoekgijfgaaGreatDoor
namespace Rows

/-- THE TIED CARD OF 'gatepostlaw10.RequestOne'. -/
def requestOneCard : Claim7 := { stood := { row := requestOneRow, standIns := [], harness := (true, "0df606dcdb3c1a85892eb21600ec869dee341e8673be7dbb440ed0cb637b0dcc"), looks := true }, kinds := [], alts := [], laidByText := true, laidKinds := [.data, .data, .data, .data, .sentinel, .sentinel, .pinned, .pinned], laidTests := true, laidLooks := .later }
def RequestOneCardSaid : Prop := Claim7.holds Tryz.pinned (.plain (OpenSpec.ofChange requestOneSpec)) requestOneCard

/-- THE TIED CARD OF 'gatepostlaw10.RequestOf'. -/
def requestOfCard : Claim7 := { stood := { row := requestOfRow, standIns := [], harness := (true, "0df606dcdb3c1a85892eb21600ec869dee341e8673be7dbb440ed0cb637b0dcc"), looks := true }, kinds := [], alts := [], laidByText := true, laidKinds := [.data, .data, .data, .data, .sentinel, .sentinel, .pinned, .pinned], laidTests := true, laidLooks := .later }
def RequestOfCardSaid : Prop := Claim7.holds Tryz.pinned (.plain (OpenSpec.ofChange requestOfSpec)) requestOfCard

/-- THE TIED CARD OF 'gatepostlaw10.RequestMay'. -/
def requestMayCard : Claim7 := { stood := { row := requestMayRow, standIns := [], harness := (true, "0df606dcdb3c1a85892eb21600ec869dee341e8673be7dbb440ed0cb637b0dcc"), looks := true }, kinds := [], alts := [], laidByText := true, laidKinds := [.data, .data, .data, .data, .sentinel, .sentinel, .pinned, .pinned], laidTests := true, laidLooks := .later }
def RequestMayCardSaid : Prop := Claim7.holds Tryz.pinned (.plain (OpenSpec.ofChange requestMaySpec)) requestMayCard

/-- THE TIED CARD OF 'gatepostlaw11.AnswerMay'. -/
def answerMayCard : Claim7 := { stood := { row := answerMayRow, standIns := [], harness := (true, "0df606dcdb3c1a85892eb21600ec869dee341e8673be7dbb440ed0cb637b0dcc"), looks := true }, kinds := [], alts := [], laidByText := true, laidKinds := [.data, .data, .data, .data, .sentinel, .sentinel, .pinned], laidTests := true, laidLooks := .later }
def AnswerMayCardSaid : Prop := Claim7.holds Tryz.pinned (.plain (OpenSpec.ofChange answerMaySpec)) answerMayCard

/-- THE TIED CARD OF 'gatepostlaw11.AnswerOf'. -/
def answerOfCard : Claim7 := { stood := { row := answerOfRow, standIns := [], harness := (true, "0df606dcdb3c1a85892eb21600ec869dee341e8673be7dbb440ed0cb637b0dcc"), looks := true }, kinds := [], alts := [], laidByText := true, laidKinds := [.data, .data, .data, .data, .sentinel, .sentinel, .pinned], laidTests := true, laidLooks := .later }
def AnswerOfCardSaid : Prop := Claim7.holds Tryz.pinned (.plain (OpenSpec.ofChange answerOfSpec)) answerOfCard

/-- THE SECOND FORM's CARD OF 'gatepostlaw10.RequestOne'. -/
def requestOneUptoCard : Claim7 := { stood := { row := requestOneUptoRow, standIns := [], harness := (true, "0df606dcdb3c1a85892eb21600ec869dee341e8673be7dbb440ed0cb637b0dcc"), looks := true }, kinds := [], alts := [], laidByText := true, laidKinds := [.data, .data, .data, .data, .sentinel, .sentinel, .pinned, .pinned], laidTests := true, laidLooks := .later }
def RequestOneUptoCardSaid : Prop := Claim7.holds Tryz.pinned (.plain (OpenSpec.upto requestOneSpec)) requestOneUptoCard

/-- THE SECOND FORM's CARD OF 'gatepostlaw10.RequestOf'. -/
def requestOfUptoCard : Claim7 := { stood := { row := requestOfUptoRow, standIns := [], harness := (true, "0df606dcdb3c1a85892eb21600ec869dee341e8673be7dbb440ed0cb637b0dcc"), looks := true }, kinds := [], alts := [], laidByText := true, laidKinds := [.data, .data, .data, .data, .sentinel, .sentinel, .pinned, .pinned], laidTests := true, laidLooks := .later }
def RequestOfUptoCardSaid : Prop := Claim7.holds Tryz.pinned (.plain (OpenSpec.upto requestOfSpec)) requestOfUptoCard

/-- THE SECOND FORM's CARD OF 'gatepostlaw10.RequestMay'. -/
def requestMayUptoCard : Claim7 := { stood := { row := requestMayUptoRow, standIns := [], harness := (true, "0df606dcdb3c1a85892eb21600ec869dee341e8673be7dbb440ed0cb637b0dcc"), looks := true }, kinds := [], alts := [], laidByText := true, laidKinds := [.data, .data, .data, .data, .sentinel, .sentinel, .pinned, .pinned], laidTests := true, laidLooks := .later }
def RequestMayUptoCardSaid : Prop := Claim7.holds Tryz.pinned (.plain (OpenSpec.upto requestMaySpec)) requestMayUptoCard

/-- THE SECOND FORM's CARD OF 'gatepostlaw11.AnswerMay'. -/
def answerMayUptoCard : Claim7 := { stood := { row := answerMayUptoRow, standIns := [], harness := (true, "0df606dcdb3c1a85892eb21600ec869dee341e8673be7dbb440ed0cb637b0dcc"), looks := true }, kinds := [], alts := [], laidByText := true, laidKinds := [.data, .data, .data, .data, .sentinel, .sentinel, .pinned], laidTests := true, laidLooks := .later }
def AnswerMayUptoCardSaid : Prop := Claim7.holds Tryz.pinned (.plain (OpenSpec.upto answerMaySpec)) answerMayUptoCard

/-- THE SECOND FORM's CARD OF 'gatepostlaw11.AnswerOf'. -/
def answerOfUptoCard : Claim7 := { stood := { row := answerOfUptoRow, standIns := [], harness := (true, "0df606dcdb3c1a85892eb21600ec869dee341e8673be7dbb440ed0cb637b0dcc"), looks := true }, kinds := [], alts := [], laidByText := true, laidKinds := [.data, .data, .data, .data, .sentinel, .sentinel, .pinned], laidTests := true, laidLooks := .later }
def AnswerOfUptoCardSaid : Prop := Claim7.holds Tryz.pinned (.plain (OpenSpec.upto answerOfSpec)) answerOfUptoCard
end Rows
end Go.Proofs.YtafmgoekgijfgaaGreatDoor
