/-
  DERIVED. GIVEN WITH THE SEED: THE CARDS: each row of YtilefgmlnmpeoaaDoorRows.lean that lists a variable, with what it lists TIED to the program's text (the seventh form; the later family's looks); each row that meets fmt, with fmt's text TOLD by the authors' own Lean function (tested against real Go, not proved from fmt's source: count such statements apart). THE CARD IS WHAT COUNTS. Prove the row's statement (the work); the ties are given (YtilefgmlnmpeoaaDoorTie.lean); close each card by the builder's one call (the guide's Derived/Test/ToyasCard.lean, 'card_holds'). Laid BY PROGRAM, IN A SANDBOX (cutbox-door.mjs). By AI agents, Wed Nov 11 2026. No macro, syntax, notation, axiom, sorry.
-/
import Derived.Test.YtilefgmlnmpeoaaDoorRows
import GoSem.ClaimSeven
namespace Go.Proofs.YtilefgmlnmpeoaaDoor
namespace Rows

/-- THE TIED CARD OF 'gatepostlaw09.HeadsMay'. -/
def headsMayCard : Claim7 := { stood := { row := headsMayRow, standIns := [], harness := (true, "9007fc10dfca9a65c51c6aee0b54f4cd616500024c50ec616e55518b667003fd"), looks := true }, kinds := [], alts := [], laidByText := true, laidKinds := [.data, .data, .data, .data, .sentinel, .sentinel, .pinned], laidTests := true, laidLooks := .later }
def HeadsMayCardSaid : Prop := Claim7.holds Tryd.pinned (.plain (OpenSpec.ofChange headsMaySpec)) headsMayCard

/-- THE TIED CARD OF 'gatepostlaw09.HeadsTable'. -/
def headsTableCard : Claim7 := { stood := { row := headsTableRow, standIns := [], harness := (true, "9007fc10dfca9a65c51c6aee0b54f4cd616500024c50ec616e55518b667003fd"), looks := true }, kinds := [], alts := [], laidByText := true, laidKinds := [.data, .data, .data, .data, .sentinel, .sentinel, .pinned], laidTests := true, laidLooks := .later }
def HeadsTableCardSaid : Prop := Claim7.holds Tryd.pinned (.plain (OpenSpec.ofChange headsTableSpec)) headsTableCard

/-- THE TIED CARD OF 'gatepostlaw09.HeadsFraming'. -/
def headsFramingCard : Claim7 := { stood := { row := headsFramingRow, standIns := [], harness := (true, "9007fc10dfca9a65c51c6aee0b54f4cd616500024c50ec616e55518b667003fd"), looks := true }, kinds := [], alts := [], laidByText := true, laidKinds := [.data, .data, .data, .data, .sentinel, .sentinel, .pinned], laidTests := true, laidLooks := .later }
def HeadsFramingCardSaid : Prop := Claim7.holds Tryd.pinned (.plain (OpenSpec.ofChange headsFramingSpec)) headsFramingCard

/-- THE TIED CARD OF 'gatepostlaw09.HeadsBack'. -/
def headsBackCard : Claim7 := { stood := { row := headsBackRow, standIns := [], harness := (true, "9007fc10dfca9a65c51c6aee0b54f4cd616500024c50ec616e55518b667003fd"), looks := true }, kinds := [], alts := [], laidByText := true, laidKinds := [.data, .data, .data, .data, .sentinel, .sentinel, .pinned], laidTests := true, laidLooks := .later }
def HeadsBackCardSaid : Prop := Claim7.holds Tryd.pinned (.plain (OpenSpec.ofChange headsBackSpec)) headsBackCard

/-- THE TIED CARD OF 'gatepostlaw09.HeadsOne'. -/
def headsOneCard : Claim7 := { stood := { row := headsOneRow, standIns := [], harness := (true, "9007fc10dfca9a65c51c6aee0b54f4cd616500024c50ec616e55518b667003fd"), looks := true }, kinds := [], alts := [], laidByText := true, laidKinds := [.data, .data, .data, .data, .sentinel, .sentinel, .pinned], laidTests := true, laidLooks := .later }
def HeadsOneCardSaid : Prop := Claim7.holds Tryd.pinned (.plain (OpenSpec.ofChange headsOneSpec)) headsOneCard

/-- THE TIED CARD OF 'gatepostlaw09.HeadsAdded'. -/
def headsAddedCard : Claim7 := { stood := { row := headsAddedRow, standIns := [], harness := (true, "9007fc10dfca9a65c51c6aee0b54f4cd616500024c50ec616e55518b667003fd"), looks := true }, kinds := [], alts := [], laidByText := true, laidKinds := [.data, .data, .data, .data, .sentinel, .sentinel, .pinned], laidTests := true, laidLooks := .later }
def HeadsAddedCardSaid : Prop := Claim7.holds Tryd.pinned (.plain (OpenSpec.ofChange headsAddedSpec)) headsAddedCard

/-- THE SECOND FORM's CARD OF 'gatepostlaw09.HeadsMay'. -/
def headsMayUptoCard : Claim7 := { stood := { row := headsMayUptoRow, standIns := [], harness := (true, "9007fc10dfca9a65c51c6aee0b54f4cd616500024c50ec616e55518b667003fd"), looks := true }, kinds := [], alts := [], laidByText := true, laidKinds := [.data, .data, .data, .data, .sentinel, .sentinel, .pinned], laidTests := true, laidLooks := .later }
def HeadsMayUptoCardSaid : Prop := Claim7.holds Tryd.pinned (.plain (OpenSpec.upto headsMaySpec)) headsMayUptoCard

/-- THE SECOND FORM's CARD OF 'gatepostlaw09.HeadsTable'. -/
def headsTableUptoCard : Claim7 := { stood := { row := headsTableUptoRow, standIns := [], harness := (true, "9007fc10dfca9a65c51c6aee0b54f4cd616500024c50ec616e55518b667003fd"), looks := true }, kinds := [], alts := [], laidByText := true, laidKinds := [.data, .data, .data, .data, .sentinel, .sentinel, .pinned], laidTests := true, laidLooks := .later }
def HeadsTableUptoCardSaid : Prop := Claim7.holds Tryd.pinned (.plain (OpenSpec.upto headsTableSpec)) headsTableUptoCard

/-- THE SECOND FORM's CARD OF 'gatepostlaw09.HeadsFraming'. -/
def headsFramingUptoCard : Claim7 := { stood := { row := headsFramingUptoRow, standIns := [], harness := (true, "9007fc10dfca9a65c51c6aee0b54f4cd616500024c50ec616e55518b667003fd"), looks := true }, kinds := [], alts := [], laidByText := true, laidKinds := [.data, .data, .data, .data, .sentinel, .sentinel, .pinned], laidTests := true, laidLooks := .later }
def HeadsFramingUptoCardSaid : Prop := Claim7.holds Tryd.pinned (.plain (OpenSpec.upto headsFramingSpec)) headsFramingUptoCard

/-- THE SECOND FORM's CARD OF 'gatepostlaw09.HeadsBack'. -/
def headsBackUptoCard : Claim7 := { stood := { row := headsBackUptoRow, standIns := [], harness := (true, "9007fc10dfca9a65c51c6aee0b54f4cd616500024c50ec616e55518b667003fd"), looks := true }, kinds := [], alts := [], laidByText := true, laidKinds := [.data, .data, .data, .data, .sentinel, .sentinel, .pinned], laidTests := true, laidLooks := .later }
def HeadsBackUptoCardSaid : Prop := Claim7.holds Tryd.pinned (.plain (OpenSpec.upto headsBackSpec)) headsBackUptoCard

/-- THE SECOND FORM's CARD OF 'gatepostlaw09.HeadsOne'. -/
def headsOneUptoCard : Claim7 := { stood := { row := headsOneUptoRow, standIns := [], harness := (true, "9007fc10dfca9a65c51c6aee0b54f4cd616500024c50ec616e55518b667003fd"), looks := true }, kinds := [], alts := [], laidByText := true, laidKinds := [.data, .data, .data, .data, .sentinel, .sentinel, .pinned], laidTests := true, laidLooks := .later }
def HeadsOneUptoCardSaid : Prop := Claim7.holds Tryd.pinned (.plain (OpenSpec.upto headsOneSpec)) headsOneUptoCard

/-- THE SECOND FORM's CARD OF 'gatepostlaw09.HeadsAdded'. -/
def headsAddedUptoCard : Claim7 := { stood := { row := headsAddedUptoRow, standIns := [], harness := (true, "9007fc10dfca9a65c51c6aee0b54f4cd616500024c50ec616e55518b667003fd"), looks := true }, kinds := [], alts := [], laidByText := true, laidKinds := [.data, .data, .data, .data, .sentinel, .sentinel, .pinned], laidTests := true, laidLooks := .later }
def HeadsAddedUptoCardSaid : Prop := Claim7.holds Tryd.pinned (.plain (OpenSpec.upto headsAddedSpec)) headsAddedUptoCard
end Rows
end Go.Proofs.YtilefgmlnmpeoaaDoor
