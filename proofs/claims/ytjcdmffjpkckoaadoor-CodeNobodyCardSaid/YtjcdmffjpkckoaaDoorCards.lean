/-
  DERIVED. GIVEN WITH THE SEED: THE CARDS: each row of YtjcdmffjpkckoaaDoorRows.lean that lists a variable, with what it lists TIED to the program's text (the seventh form; the later family's looks); each row that meets fmt, with fmt's text TOLD by the authors' own Lean function (tested against real Go, not proved from fmt's source: count such statements apart). THE CARD IS WHAT COUNTS. Prove the row's statement (the work); the ties are given (YtjcdmffjpkckoaaDoorTie.lean); close each card by the builder's one call (the guide's Derived/Test/ToyasCard.lean, 'card_holds'). Laid BY PROGRAM, IN A SANDBOX (cutbox-door.mjs). By AI agents, Wed Nov 11 2026. No macro, syntax, notation, axiom, sorry.
-/
import Derived.Test.YtjcdmffjpkckoaaDoorRows
import GoSem.ClaimSeven
namespace Go.Proofs.YtjcdmffjpkckoaaDoor
namespace Rows

/-- THE TIED CARD OF 'gatepostlaw03.CodeWrites'. -/
def codeWritesCard : Claim7 := { stood := { row := codeWritesRow, standIns := [], harness := (true, "5f0607ea4f3b37676aef0db623dc3f8c9f23b416ea87c092930b0359443c3973"), looks := false }, kinds := [], alts := [], laidByText := true, laidKinds := [.data, .data], laidTests := true, laidLooks := .later }
def CodeWritesCardSaid : Prop := Claim7.holds Tryd.pinned (.plain (OpenSpec.ofChange codeWritesSpec)) codeWritesCard

/-- THE TIED CARD OF 'gatepostlaw03.CodeReads'. -/
def codeReadsCard : Claim7 := { stood := { row := codeReadsRow, standIns := [], harness := (true, "5f0607ea4f3b37676aef0db623dc3f8c9f23b416ea87c092930b0359443c3973"), looks := false }, kinds := [], alts := [], laidByText := true, laidKinds := [.data, .data], laidTests := true, laidLooks := .later }
def CodeReadsCardSaid : Prop := Claim7.holds Tryd.pinned (.plain (OpenSpec.ofChange codeReadsSpec)) codeReadsCard

/-- THE TIED CARD OF 'gatepostlaw03.CodeNobody'. -/
def codeNobodyCard : Claim7 := { stood := { row := codeNobodyRow, standIns := [], harness := (true, "5f0607ea4f3b37676aef0db623dc3f8c9f23b416ea87c092930b0359443c3973"), looks := false }, kinds := [], alts := [], laidByText := true, laidKinds := [.data, .data], laidTests := true, laidLooks := .later }
def CodeNobodyCardSaid : Prop := Claim7.holds Tryd.pinned (.plain (OpenSpec.ofChange codeNobodySpec)) codeNobodyCard

/-- THE TIED CARD OF 'gatepostlaw03.CodeCut'. -/
def codeCutCard : Claim7 := { stood := { row := codeCutRow, standIns := [], harness := (true, "5f0607ea4f3b37676aef0db623dc3f8c9f23b416ea87c092930b0359443c3973"), looks := false }, kinds := [], alts := [], laidByText := true, laidKinds := [.data, .data], laidTests := true, laidLooks := .later }
def CodeCutCardSaid : Prop := Claim7.holds Tryd.pinned (.plain (OpenSpec.ofChange codeCutSpec)) codeCutCard

/-- THE TIED CARD OF 'gatepostlaw03.CodeOneForm'. -/
def codeOneFormCard : Claim7 := { stood := { row := codeOneFormRow, standIns := [], harness := (true, "5f0607ea4f3b37676aef0db623dc3f8c9f23b416ea87c092930b0359443c3973"), looks := false }, kinds := [], alts := [], laidByText := true, laidKinds := [.data, .data], laidTests := true, laidLooks := .later }
def CodeOneFormCardSaid : Prop := Claim7.holds Tryd.pinned (.plain (OpenSpec.ofChange codeOneFormSpec)) codeOneFormCard

/-- THE TIED CARD OF 'gatepostlaw03.CodeStopped'. -/
def codeStoppedCard : Claim7 := { stood := { row := codeStoppedRow, standIns := [], harness := (true, "5f0607ea4f3b37676aef0db623dc3f8c9f23b416ea87c092930b0359443c3973"), looks := false }, kinds := [], alts := [], laidByText := true, laidKinds := [.data, .data], laidTests := true, laidLooks := .later }
def CodeStoppedCardSaid : Prop := Claim7.holds Tryd.pinned (.plain (OpenSpec.ofChange codeStoppedSpec)) codeStoppedCard

/-- THE TIED CARD OF 'gatepostlaw03.CodeShort'. -/
def codeShortCard : Claim7 := { stood := { row := codeShortRow, standIns := [], harness := (true, "5f0607ea4f3b37676aef0db623dc3f8c9f23b416ea87c092930b0359443c3973"), looks := false }, kinds := [], alts := [], laidByText := true, laidKinds := [.data, .data], laidTests := true, laidLooks := .later }
def CodeShortCardSaid : Prop := Claim7.holds Tryd.pinned (.plain (OpenSpec.ofChange codeShortSpec)) codeShortCard

/-- THE TIED CARD OF 'gatepostlaw03.CodeBounds'. -/
def codeBoundsCard : Claim7 := { stood := { row := codeBoundsRow, standIns := [], harness := (true, "5f0607ea4f3b37676aef0db623dc3f8c9f23b416ea87c092930b0359443c3973"), looks := false }, kinds := [], alts := [], laidByText := true, laidKinds := [.data, .data], laidTests := true, laidLooks := .later }
def CodeBoundsCardSaid : Prop := Claim7.holds Tryd.pinned (.plain (OpenSpec.ofChange codeBoundsSpec)) codeBoundsCard

/-- THE SECOND FORM's CARD OF 'gatepostlaw03.CodeWrites'. -/
def codeWritesUptoCard : Claim7 := { stood := { row := codeWritesUptoRow, standIns := [], harness := (true, "5f0607ea4f3b37676aef0db623dc3f8c9f23b416ea87c092930b0359443c3973"), looks := false }, kinds := [], alts := [], laidByText := true, laidKinds := [.data, .data], laidTests := true, laidLooks := .later }
def CodeWritesUptoCardSaid : Prop := Claim7.holds Tryd.pinned (.plain (OpenSpec.upto codeWritesSpec)) codeWritesUptoCard

/-- THE SECOND FORM's CARD OF 'gatepostlaw03.CodeReads'. -/
def codeReadsUptoCard : Claim7 := { stood := { row := codeReadsUptoRow, standIns := [], harness := (true, "5f0607ea4f3b37676aef0db623dc3f8c9f23b416ea87c092930b0359443c3973"), looks := false }, kinds := [], alts := [], laidByText := true, laidKinds := [.data, .data], laidTests := true, laidLooks := .later }
def CodeReadsUptoCardSaid : Prop := Claim7.holds Tryd.pinned (.plain (OpenSpec.upto codeReadsSpec)) codeReadsUptoCard

/-- THE SECOND FORM's CARD OF 'gatepostlaw03.CodeNobody'. -/
def codeNobodyUptoCard : Claim7 := { stood := { row := codeNobodyUptoRow, standIns := [], harness := (true, "5f0607ea4f3b37676aef0db623dc3f8c9f23b416ea87c092930b0359443c3973"), looks := false }, kinds := [], alts := [], laidByText := true, laidKinds := [.data, .data], laidTests := true, laidLooks := .later }
def CodeNobodyUptoCardSaid : Prop := Claim7.holds Tryd.pinned (.plain (OpenSpec.upto codeNobodySpec)) codeNobodyUptoCard

/-- THE SECOND FORM's CARD OF 'gatepostlaw03.CodeCut'. -/
def codeCutUptoCard : Claim7 := { stood := { row := codeCutUptoRow, standIns := [], harness := (true, "5f0607ea4f3b37676aef0db623dc3f8c9f23b416ea87c092930b0359443c3973"), looks := false }, kinds := [], alts := [], laidByText := true, laidKinds := [.data, .data], laidTests := true, laidLooks := .later }
def CodeCutUptoCardSaid : Prop := Claim7.holds Tryd.pinned (.plain (OpenSpec.upto codeCutSpec)) codeCutUptoCard

/-- THE SECOND FORM's CARD OF 'gatepostlaw03.CodeOneForm'. -/
def codeOneFormUptoCard : Claim7 := { stood := { row := codeOneFormUptoRow, standIns := [], harness := (true, "5f0607ea4f3b37676aef0db623dc3f8c9f23b416ea87c092930b0359443c3973"), looks := false }, kinds := [], alts := [], laidByText := true, laidKinds := [.data, .data], laidTests := true, laidLooks := .later }
def CodeOneFormUptoCardSaid : Prop := Claim7.holds Tryd.pinned (.plain (OpenSpec.upto codeOneFormSpec)) codeOneFormUptoCard

/-- THE SECOND FORM's CARD OF 'gatepostlaw03.CodeStopped'. -/
def codeStoppedUptoCard : Claim7 := { stood := { row := codeStoppedUptoRow, standIns := [], harness := (true, "5f0607ea4f3b37676aef0db623dc3f8c9f23b416ea87c092930b0359443c3973"), looks := false }, kinds := [], alts := [], laidByText := true, laidKinds := [.data, .data], laidTests := true, laidLooks := .later }
def CodeStoppedUptoCardSaid : Prop := Claim7.holds Tryd.pinned (.plain (OpenSpec.upto codeStoppedSpec)) codeStoppedUptoCard

/-- THE SECOND FORM's CARD OF 'gatepostlaw03.CodeShort'. -/
def codeShortUptoCard : Claim7 := { stood := { row := codeShortUptoRow, standIns := [], harness := (true, "5f0607ea4f3b37676aef0db623dc3f8c9f23b416ea87c092930b0359443c3973"), looks := false }, kinds := [], alts := [], laidByText := true, laidKinds := [.data, .data], laidTests := true, laidLooks := .later }
def CodeShortUptoCardSaid : Prop := Claim7.holds Tryd.pinned (.plain (OpenSpec.upto codeShortSpec)) codeShortUptoCard

/-- THE SECOND FORM's CARD OF 'gatepostlaw03.CodeBounds'. -/
def codeBoundsUptoCard : Claim7 := { stood := { row := codeBoundsUptoRow, standIns := [], harness := (true, "5f0607ea4f3b37676aef0db623dc3f8c9f23b416ea87c092930b0359443c3973"), looks := false }, kinds := [], alts := [], laidByText := true, laidKinds := [.data, .data], laidTests := true, laidLooks := .later }
def CodeBoundsUptoCardSaid : Prop := Claim7.holds Tryd.pinned (.plain (OpenSpec.upto codeBoundsSpec)) codeBoundsUptoCard
end Rows
end Go.Proofs.YtjcdmffjpkckoaaDoor
