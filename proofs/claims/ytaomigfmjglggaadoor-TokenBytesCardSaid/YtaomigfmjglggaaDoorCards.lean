/-
  DERIVED. GIVEN WITH THE SEED: THE CARDS: each row of YtaomigfmjglggaaDoorRows.lean that lists a variable, with what it lists TIED to the program's text (the seventh form; the later family's looks); each row that meets fmt, with fmt's text TOLD by the authors' own Lean function (tested against real Go, not proved from fmt's source: count such statements apart). THE CARD IS WHAT COUNTS. Prove the row's statement (the work); the ties are given (YtaomigfmjglggaaDoorTie.lean); close each card by the builder's one call (the guide's Derived/Test/ToyasCard.lean, 'card_holds'). Laid BY PROGRAM, IN A SANDBOX (cutbox-door.mjs). By AI agents, Wed Nov 11 2026. No macro, syntax, notation, axiom, sorry.
-/
import Derived.Test.YtaomigfmjglggaaDoorRows
import GoSem.ClaimSeven
namespace Go.Proofs.YtaomigfmjglggaaDoor
namespace Rows

/-- THE TIED CARD OF 'gatepostlaw06.TokenMay'. -/
def tokenMayCard : Claim7 := { stood := { row := tokenMayRow, standIns := [], harness := (true, "faa5a8efd9b64d58eb34ad5033f695628ea52ca4e2fc4932858742437f8cfcee"), looks := false }, kinds := [], alts := [], laidByText := true, laidKinds := [.data, .data], laidTests := true, laidLooks := .later }
def TokenMayCardSaid : Prop := Claim7.holds Tryd.pinned (.plain (OpenSpec.ofChange tokenMaySpec)) tokenMayCard

/-- THE TIED CARD OF 'gatepostlaw06.TokenIssue'. -/
def tokenIssueCard : Claim7 := { stood := { row := tokenIssueRow, standIns := [], harness := (true, "faa5a8efd9b64d58eb34ad5033f695628ea52ca4e2fc4932858742437f8cfcee"), looks := false }, kinds := [], alts := [], laidByText := true, laidKinds := [.data, .data], laidTests := true, laidLooks := .later }
def TokenIssueCardSaid : Prop := Claim7.holds Tryd.pinned (.plain (OpenSpec.ofChange tokenIssueSpec)) tokenIssueCard

/-- THE TIED CARD OF 'gatepostlaw06.TokenVerify'. -/
def tokenVerifyCard : Claim7 := { stood := { row := tokenVerifyRow, standIns := [], harness := (true, "faa5a8efd9b64d58eb34ad5033f695628ea52ca4e2fc4932858742437f8cfcee"), looks := false }, kinds := [], alts := [], laidByText := true, laidKinds := [.data, .data], laidTests := true, laidLooks := .later }
def TokenVerifyCardSaid : Prop := Claim7.holds Tryd.pinned (.plain (OpenSpec.ofChange tokenVerifySpec)) tokenVerifyCard

/-- THE TIED CARD OF 'gatepostlaw06.TokenBytes'. -/
def tokenBytesCard : Claim7 := { stood := { row := tokenBytesRow, standIns := [], harness := (true, "faa5a8efd9b64d58eb34ad5033f695628ea52ca4e2fc4932858742437f8cfcee"), looks := false }, kinds := [], alts := [], laidByText := true, laidKinds := [.data, .data], laidTests := true, laidLooks := .later }
def TokenBytesCardSaid : Prop := Claim7.holds Tryd.pinned (.plain (OpenSpec.ofChange tokenBytesSpec)) tokenBytesCard

/-- THE TIED CARD OF 'gatepostlaw06.TokenLives'. -/
def tokenLivesCard : Claim7 := { stood := { row := tokenLivesRow, standIns := [], harness := (true, "faa5a8efd9b64d58eb34ad5033f695628ea52ca4e2fc4932858742437f8cfcee"), looks := false }, kinds := [], alts := [], laidByText := true, laidKinds := [.data, .data], laidTests := true, laidLooks := .later }
def TokenLivesCardSaid : Prop := Claim7.holds Tryd.pinned (.plain (OpenSpec.ofChange tokenLivesSpec)) tokenLivesCard

/-- THE TIED CARD OF 'gatepostlaw06.TokenFields'. -/
def tokenFieldsCard : Claim7 := { stood := { row := tokenFieldsRow, standIns := [], harness := (true, "faa5a8efd9b64d58eb34ad5033f695628ea52ca4e2fc4932858742437f8cfcee"), looks := false }, kinds := [], alts := [], laidByText := true, laidKinds := [.data, .data], laidTests := true, laidLooks := .later }
def TokenFieldsCardSaid : Prop := Claim7.holds Tryd.pinned (.plain (OpenSpec.ofChange tokenFieldsSpec)) tokenFieldsCard

/-- THE TIED CARD OF 'gatepostlaw06.TokenBack'. -/
def tokenBackCard : Claim7 := { stood := { row := tokenBackRow, standIns := [], harness := (true, "faa5a8efd9b64d58eb34ad5033f695628ea52ca4e2fc4932858742437f8cfcee"), looks := false }, kinds := [], alts := [], laidByText := true, laidKinds := [.data, .data], laidTests := true, laidLooks := .later }
def TokenBackCardSaid : Prop := Claim7.holds Tryd.pinned (.plain (OpenSpec.ofChange tokenBackSpec)) tokenBackCard

/-- THE TIED CARD OF 'gatepostlaw06.TokenRings'. -/
def tokenRingsCard : Claim7 := { stood := { row := tokenRingsRow, standIns := [], harness := (true, "faa5a8efd9b64d58eb34ad5033f695628ea52ca4e2fc4932858742437f8cfcee"), looks := false }, kinds := [], alts := [], laidByText := true, laidKinds := [.data, .data], laidTests := true, laidLooks := .later }
def TokenRingsCardSaid : Prop := Claim7.holds Tryd.pinned (.plain (OpenSpec.ofChange tokenRingsSpec)) tokenRingsCard

/-- THE SECOND FORM's CARD OF 'gatepostlaw06.TokenMay'. -/
def tokenMayUptoCard : Claim7 := { stood := { row := tokenMayUptoRow, standIns := [], harness := (true, "faa5a8efd9b64d58eb34ad5033f695628ea52ca4e2fc4932858742437f8cfcee"), looks := false }, kinds := [], alts := [], laidByText := true, laidKinds := [.data, .data], laidTests := true, laidLooks := .later }
def TokenMayUptoCardSaid : Prop := Claim7.holds Tryd.pinned (.plain (OpenSpec.upto tokenMaySpec)) tokenMayUptoCard

/-- THE SECOND FORM's CARD OF 'gatepostlaw06.TokenIssue'. -/
def tokenIssueUptoCard : Claim7 := { stood := { row := tokenIssueUptoRow, standIns := [], harness := (true, "faa5a8efd9b64d58eb34ad5033f695628ea52ca4e2fc4932858742437f8cfcee"), looks := false }, kinds := [], alts := [], laidByText := true, laidKinds := [.data, .data], laidTests := true, laidLooks := .later }
def TokenIssueUptoCardSaid : Prop := Claim7.holds Tryd.pinned (.plain (OpenSpec.upto tokenIssueSpec)) tokenIssueUptoCard

/-- THE SECOND FORM's CARD OF 'gatepostlaw06.TokenVerify'. -/
def tokenVerifyUptoCard : Claim7 := { stood := { row := tokenVerifyUptoRow, standIns := [], harness := (true, "faa5a8efd9b64d58eb34ad5033f695628ea52ca4e2fc4932858742437f8cfcee"), looks := false }, kinds := [], alts := [], laidByText := true, laidKinds := [.data, .data], laidTests := true, laidLooks := .later }
def TokenVerifyUptoCardSaid : Prop := Claim7.holds Tryd.pinned (.plain (OpenSpec.upto tokenVerifySpec)) tokenVerifyUptoCard

/-- THE SECOND FORM's CARD OF 'gatepostlaw06.TokenBytes'. -/
def tokenBytesUptoCard : Claim7 := { stood := { row := tokenBytesUptoRow, standIns := [], harness := (true, "faa5a8efd9b64d58eb34ad5033f695628ea52ca4e2fc4932858742437f8cfcee"), looks := false }, kinds := [], alts := [], laidByText := true, laidKinds := [.data, .data], laidTests := true, laidLooks := .later }
def TokenBytesUptoCardSaid : Prop := Claim7.holds Tryd.pinned (.plain (OpenSpec.upto tokenBytesSpec)) tokenBytesUptoCard

/-- THE SECOND FORM's CARD OF 'gatepostlaw06.TokenLives'. -/
def tokenLivesUptoCard : Claim7 := { stood := { row := tokenLivesUptoRow, standIns := [], harness := (true, "faa5a8efd9b64d58eb34ad5033f695628ea52ca4e2fc4932858742437f8cfcee"), looks := false }, kinds := [], alts := [], laidByText := true, laidKinds := [.data, .data], laidTests := true, laidLooks := .later }
def TokenLivesUptoCardSaid : Prop := Claim7.holds Tryd.pinned (.plain (OpenSpec.upto tokenLivesSpec)) tokenLivesUptoCard

/-- THE SECOND FORM's CARD OF 'gatepostlaw06.TokenFields'. -/
def tokenFieldsUptoCard : Claim7 := { stood := { row := tokenFieldsUptoRow, standIns := [], harness := (true, "faa5a8efd9b64d58eb34ad5033f695628ea52ca4e2fc4932858742437f8cfcee"), looks := false }, kinds := [], alts := [], laidByText := true, laidKinds := [.data, .data], laidTests := true, laidLooks := .later }
def TokenFieldsUptoCardSaid : Prop := Claim7.holds Tryd.pinned (.plain (OpenSpec.upto tokenFieldsSpec)) tokenFieldsUptoCard

/-- THE SECOND FORM's CARD OF 'gatepostlaw06.TokenBack'. -/
def tokenBackUptoCard : Claim7 := { stood := { row := tokenBackUptoRow, standIns := [], harness := (true, "faa5a8efd9b64d58eb34ad5033f695628ea52ca4e2fc4932858742437f8cfcee"), looks := false }, kinds := [], alts := [], laidByText := true, laidKinds := [.data, .data], laidTests := true, laidLooks := .later }
def TokenBackUptoCardSaid : Prop := Claim7.holds Tryd.pinned (.plain (OpenSpec.upto tokenBackSpec)) tokenBackUptoCard

/-- THE SECOND FORM's CARD OF 'gatepostlaw06.TokenRings'. -/
def tokenRingsUptoCard : Claim7 := { stood := { row := tokenRingsUptoRow, standIns := [], harness := (true, "faa5a8efd9b64d58eb34ad5033f695628ea52ca4e2fc4932858742437f8cfcee"), looks := false }, kinds := [], alts := [], laidByText := true, laidKinds := [.data, .data], laidTests := true, laidLooks := .later }
def TokenRingsUptoCardSaid : Prop := Claim7.holds Tryd.pinned (.plain (OpenSpec.upto tokenRingsSpec)) tokenRingsUptoCard
end Rows
end Go.Proofs.YtaomigfmjglggaaDoor
