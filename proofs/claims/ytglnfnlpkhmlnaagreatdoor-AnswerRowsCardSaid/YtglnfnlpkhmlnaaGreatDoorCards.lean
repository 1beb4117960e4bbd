/-
  DERIVED. GIVEN WITH THE SEED: THE CARDS: each row of YtglnfnlpkhmlnaaGreatDoorRows.lean that lists a variable, with what it lists TIED to the program's text (the seventh form; the later family's looks); each row that meets fmt, with fmt's text TOLD by the authors' own Lean function (tested against real Go, not proved from fmt's source: count such statements apart). THE CARD IS WHAT COUNTS. Prove the row's statement (the work); the ties are given (YtglnfnlpkhmlnaaGreatDoorTie.lean); close each card by the builder's one call (the guide's Derived/Test/ToyasCard.lean, 'card_holds'). Laid BY PROGRAM, IN A SANDBOX (cutbox-door.mjs). By AI agents, Wed Nov 11 2026. No macro, syntax, notation, axiom, sorry.
-/
import Derived.Test.YtglnfnlpkhmlnaaGreatDoorRows
import GoSem.ClaimSeven
namespace Go.Proofs.YtglnfnlpkhmlnaaGreatDoor
namespace Rows

/-- THE TIED CARD OF 'gatepostlaw10.RequestReads'. -/
def requestReadsCard : Claim7 := { stood := { row := requestReadsRow, standIns := [], harness := (true, "0a307bdc2f84221d5ae4b5f1533a14a1fb470fc1e99f772b4453ca5f9bc92682"), looks := true }, kinds := [], alts := [], laidByText := true, laidKinds := [.data, .data, .data, .data, .sentinel, .sentinel, .pinned, .pinned], laidTests := true, laidLooks := .later }
def RequestReadsCardSaid : Prop := Claim7.holds Tryz.pinned (.plain (OpenSpec.ofChange requestReadsSpec)) requestReadsCard

/-- THE TIED CARD OF 'gatepostlaw10.RequestOne'. -/
def requestOneCard : Claim7 := { stood := { row := requestOneRow, standIns := [], harness := (true, "0a307bdc2f84221d5ae4b5f1533a14a1fb470fc1e99f772b4453ca5f9bc92682"), looks := true }, kinds := [], alts := [], laidByText := true, laidKinds := [.data, .data, .data, .data, .sentinel, .sentinel, .pinned, .pinned], laidTests := true, laidLooks := .later }
def RequestOneCardSaid : Prop := Claim7.holds Tryz.pinned (.plain (OpenSpec.ofChange requestOneSpec)) requestOneCard

/-- THE TIED CARD OF 'gatepostlaw10.RequestOf'. -/
def requestOfCard : Claim7 := { stood := { row := requestOfRow, standIns := [], harness := (true, "0a307bdc2f84221d5ae4b5f1533a14a1fb470fc1e99f772b4453ca5f9bc92682"), looks := true }, kinds := [], alts := [], laidByText := true, laidKinds := [.data, .data, .data, .data, .sentinel, .sentinel, .pinned, .pinned], laidTests := true, laidLooks := .later }
def RequestOfCardSaid : Prop := Claim7.holds Tryz.pinned (.plain (OpenSpec.ofChange requestOfSpec)) requestOfCard

/-- THE TIED CARD OF 'gatepostlaw10.RequestMay'. -/
def requestMayCard : Claim7 := { stood := { row := requestMayRow, standIns := [], harness := (true, "0a307bdc2f84221d5ae4b5f1533a14a1fb470fc1e99f772b4453ca5f9bc92682"), looks := true }, kinds := [], alts := [], laidByText := true, laidKinds := [.data, .data, .data, .data, .sentinel, .sentinel, .pinned, .pinned], laidTests := true, laidLooks := .later }
def RequestMayCardSaid : Prop := Claim7.holds Tryz.pinned (.plain (OpenSpec.ofChange requestMaySpec)) requestMayCard

/-- THE TIED CARD OF 'gatepostlaw11.AnswerMay'. -/
def answerMayCard : Claim7 := { stood := { row := answerMayRow, standIns := [], harness := (true, "0a307bdc2f84221d5ae4b5f1533a14a1fb470fc1e99f772b4453ca5f9bc92682"), looks := true }, kinds := [], alts := [], laidByText := true, laidKinds := [.data, .data, .data, .data, .sentinel, .sentinel, .pinned], laidTests := true, laidLooks := .later }
def AnswerMayCardSaid : Prop := Claim7.holds Tryz.pinned (.plain (OpenSpec.ofChange answerMaySpec)) answerMayCard

/-- THE TIED CARD OF 'gatepostlaw11.AnswerOf'. -/
def answerOfCard : Claim7 := { stood := { row := answerOfRow, standIns := [], harness := (true, "0a307bdc2f84221d5ae4b5f1533a14a1fb470fc1e99f772b4453ca5f9bc92682"), looks := true }, kinds := [], alts := [], laidByText := true, laidKinds := [.data, .data, .data, .data, .sentinel, .sentinel, .pinned], laidTests := true, laidLooks := .later }
def AnswerOfCardSaid : Prop := Claim7.holds Tryz.pinned (.plain (OpenSpec.ofChange answerOfSpec)) answerOfCard

/-- THE TIED CARD OF 'gatepostlaw11.AnswerSimple'. -/
def answerSimpleCard : Claim7 := { stood := { row := answerSimpleRow, standIns := [], harness := (true, "0a307bdc2f84221d5ae4b5f1533a14a1fb470fc1e99f772b4453ca5f9bc92682"), looks := true }, kinds := [], alts := [], laidByText := true, laidKinds := [.data, .data, .data, .data, .sentinel, .sentinel, .pinned], laidTests := true, laidLooks := .later }
def AnswerSimpleCardSaid : Prop := Claim7.holds Tryz.pinned (.plain (OpenSpec.ofChange answerSimpleSpec)) answerSimpleCard

/-- THE TIED CARD OF 'gatepostlaw11.AnswerBack'. -/
def answerBackCard : Claim7 := { stood := { row := answerBackRow, standIns := [], harness := (true, "0a307bdc2f84221d5ae4b5f1533a14a1fb470fc1e99f772b4453ca5f9bc92682"), looks := true }, kinds := [], alts := [], laidByText := true, laidKinds := [.data, .data, .data, .data, .sentinel, .sentinel, .pinned, .pinned], laidTests := true, laidLooks := .later }
def AnswerBackCardSaid : Prop := Claim7.holds Tryz.pinned (.plain (OpenSpec.ofChange answerBackSpec)) answerBackCard

/-- THE TIED CARD OF 'gatepostlaw11.AnswerRows'. -/
def answerRowsCard : Claim7 := { stood := { row := answerRowsRow, standIns := [], harness := (true, "0a307bdc2f84221d5ae4b5f1533a14a1fb470fc1e99f772b4453ca5f9bc92682"), looks := true }, kinds := [], alts := [], laidByText := true, laidKinds := [.data, .data, .data, .data, .sentinel, .sentinel, .pinned], laidTests := true, laidLooks := .later }
def AnswerRowsCardSaid : Prop := Claim7.holds Tryz.pinned (.plain (OpenSpec.ofChange answerRowsSpec)) answerRowsCard

/-- THE SECOND FORM's CARD OF 'gatepostlaw10.RequestReads'. -/
def requestReadsUptoCard : Claim7 := { stood := { row := requestReadsUptoRow, standIns := [], harness := (true, "0a307bdc2f84221d5ae4b5f1533a14a1fb470fc1e99f772b4453ca5f9bc92682"), looks := true }, kinds := [], alts := [], laidByText := true, laidKinds := [.data, .data, .data, .data, .sentinel, .sentinel, .pinned, .pinned], laidTests := true, laidLooks := .later }
def RequestReadsUptoCardSaid : Prop := Claim7.holds Tryz.pinned (.plain (OpenSpec.upto requestReadsSpec)) requestReadsUptoCard

/-- THE SECOND FORM's CARD OF 'gatepostlaw10.RequestOne'. -/
def requestOneUptoCard : Claim7 := { stood := { row := requestOneUptoRow, standIns := [], harness := (true, "0a307bdc2f84221d5ae4b5f1533a14a1fb470fc1e99f772b4453ca5f9bc92682"), looks := true }, kinds := [], alts := [], laidByText := true, laidKinds := [.data, .data, .data, .data, .sentinel, .sentinel, .pinned, .pinned], laidTests := true, laidLooks := .later }
def RequestOneUptoCardSaid : Prop := Claim7.holds Tryz.pinned (.plain (OpenSpec.upto requestOneSpec)) requestOneUptoCard

/-- THE SECOND FORM's CARD OF 'gatepostlaw10.RequestOf'. -/
def requestOfUptoCard : Claim7 := { stood := { row := requestOfUptoRow, standIns := [], harness := (true, "0a307bdc2f84221d5ae4b5f1533a14a1fb470fc1e99f772b4453ca5f9bc92682"), looks := true }, kinds := [], alts := [], laidByText := true, laidKinds := [.data, .data, .data, .data, .sentinel, .sentinel, .pinned, .pinned], laidTests := true, laidLooks := .later }
def RequestOfUptoCardSaid : Prop := Claim7.holds Tryz.pinned (.plain (OpenSpec.upto requestOfSpec)) requestOfUptoCard

/-- THE SECOND FORM's CARD OF 'gatepostlaw10.RequestMay'. -/
def requestMayUptoCard : Claim7 := { stood := { row := requestMayUptoRow, standIns := [], harness := (true, "0a307bdc2f84221d5ae4b5f1533a14a1fb470fc1e99f772b4453ca5f9bc92682"), looks := true }, kinds := [], alts := [], laidByText := true, laidKinds := [.data, .data, .data, .data, .sentinel, .sentinel, .pinned, .pinned], laidTests := true, laidLooks := .later }
def RequestMayUptoCardSaid : Prop := Claim7.holds Tryz.pinned (.plain (OpenSpec.upto requestMaySpec)) requestMayUptoCard

/-- THE SECOND FORM's CARD OF 'gatepostlaw11.AnswerMay'. -/
def answerMayUptoCard : Claim7 := { stood := { row := answerMayUptoRow, standIns := [], harness := (true, "0a307bdc2f84221d5ae4b5f1533a14a1fb470fc1e99f772b4453ca5f9bc92682"), looks := true }, kinds := [], alts := [], laidByText := true, laidKinds := [.data, .data, .data, .data, .sentinel, .sentinel, .pinned], laidTests := true, laidLooks := .later }
def AnswerMayUptoCardSaid : Prop := Claim7.holds Tryz.pinned (.plain (OpenSpec.upto answerMaySpec)) answerMayUptoCard

/-- THE SECOND FORM's CARD OF 'gatepostlaw11.AnswerOf'. -/
def answerOfUptoCard : Claim7 := { stood := { row := answerOfUptoRow, standIns := [], harness := (true, "0a307bdc2f84221d5ae4b5f1533a14a1fb470fc1e99f772b4453ca5f9bc92682"), looks := true }, kinds := [], alts := [], laidByText := true, laidKinds := [.data, .data, .data, .data, .sentinel, .sentinel, .pinned], laidTests := true, laidLooks := .later }
def AnswerOfUptoCardSaid : Prop := Claim7.holds Tryz.pinned (.plain (OpenSpec.upto answerOfSpec)) answerOfUptoCard

/-- THE SECOND FORM's CARD OF 'gatepostlaw11.AnswerSimple'. -/
def answerSimpleUptoCard : Claim7 := { stood := { row := answerSimpleUptoRow, standIns := [], harness := (true, "0a307bdc2f84221d5ae4b5f1533a14a1fb470fc1e99f772b4453ca5f9bc92682"), looks := true }, kinds := [], alts := [], laidByText := true, laidKinds := [.data, .data, .data, .data, .sentinel, .sentinel, .pinned], laidTests := true, laidLooks := .later }
def AnswerSimpleUptoCardSaid : Prop := Claim7.holds Tryz.pinned (.plain (OpenSpec.upto answerSimpleSpec)) answerSimpleUptoCard

/-- THE SECOND FORM's CARD OF 'gatepostlaw11.AnswerBack'. -/
def answerBackUptoCard : Claim7 := { stood := { row := answerBackUptoRow, standIns := [], harness := (true, "0a307bdc2f84221d5ae4b5f1533a14a1fb470fc1e99f772b4453ca5f9bc92682"), looks := true }, kinds := [], alts := [], laidByText := true, laidKinds := [.data, .data, .data, .data, .sentinel, .sentinel, .pinned, .pinned], laidTests := true, laidLooks := .later }
def AnswerBackUptoCardSaid : Prop := Claim7.holds Tryz.pinned (.plain (OpenSpec.upto answerBackSpec)) answerBackUptoCard

/-- THE SECOND FORM's CARD OF 'gatepostlaw11.AnswerRows'. -/
def answerRowsUptoCard : Claim7 := { stood := { row := answerRowsUptoRow, standIns := [], harness := (true, "0a307bdc2f84221d5ae4b5f1533a14a1fb470fc1e99f772b4453ca5f9bc92682"), looks := true }, kinds := [], alts := [], laidByText := true, laidKinds := [.data, .data, .data, .data, .sentinel, .sentinel, .pinned], laidTests := true, laidLooks := .later }
def AnswerRowsUptoCardSaid : Prop := Claim7.holds Tryz.pinned (.plain (OpenSpec.upto answerRowsSpec)) answerRowsUptoCard
end Rows
end Go.Proofs.YtglnfnlpkhmlnaaGreatDoor
