/-
  DERIVED. GIVEN WITH THE SEED: THE CARDS: each row of YthbgnkkjchaaeaaDoorRows.lean that lists a variable, with what it lists TIED to the program's text (the seventh form; the later family's looks); each row that meets fmt, with fmt's text TOLD by the authors' own Lean function (tested against real Go, not proved from fmt's source: count such statements apart). THE CARD IS WHAT COUNTS. Prove the row's statement (the work); the ties are given (YthbgnkkjchaaeaaDoorTie.lean); close each card by the builder's one call (the guide's Derived/Test/ToyasCard.lean, 'card_holds'). Laid BY PROGRAM, IN A SANDBOX (cutbox-door.mjs). By AI agents, Wed Nov 11 2026. No macro, syntax, notation, axiom, sorry.
-/
import Derived.Test.YthbgnkkjchaaeaaDoorRows
import GoSem.ClaimSeven
namespace Go.Proofs.YthbgnkkjchaaeaaDoor
namespace Rows

/-- THE TIED CARD OF 'gatepostlaw08.PathNormal'. -/
def pathNormalCard : Claim7 := { stood := { row := pathNormalRow, standIns := [], harness := (true, "956e39ac4d4a7d054016bfbc1da6d751c21c84106e8e6e3497b59e9515ee630d"), looks := true }, kinds := [], alts := [], laidByText := true, laidKinds := [.data, .data, .data, .data, .sentinel, .sentinel, .pinned, .pinned], laidTests := true, laidLooks := .later }
def PathNormalCardSaid : Prop := Claim7.holds Tryd.pinned (.plain (OpenSpec.ofChange pathNormalSpec)) pathNormalCard

/-- THE TIED CARD OF 'gatepostlaw08.PathJoin'. -/
def pathJoinCard : Claim7 := { stood := { row := pathJoinRow, standIns := [], harness := (true, "956e39ac4d4a7d054016bfbc1da6d751c21c84106e8e6e3497b59e9515ee630d"), looks := true }, kinds := [], alts := [], laidByText := true, laidKinds := [.data, .data, .data, .data, .sentinel, .sentinel, .pinned, .pinned], laidTests := true, laidLooks := .later }
def PathJoinCardSaid : Prop := Claim7.holds Tryd.pinned (.plain (OpenSpec.ofChange pathJoinSpec)) pathJoinCard

/-- THE TIED CARD OF 'gatepostlaw08.PathAlike'. -/
def pathAlikeCard : Claim7 := { stood := { row := pathAlikeRow, standIns := [], harness := (true, "956e39ac4d4a7d054016bfbc1da6d751c21c84106e8e6e3497b59e9515ee630d"), looks := true }, kinds := [], alts := [], laidByText := true, laidKinds := [.data, .data, .data, .data, .sentinel, .sentinel, .pinned, .pinned], laidTests := true, laidLooks := .later }
def PathAlikeCardSaid : Prop := Claim7.holds Tryd.pinned (.plain (OpenSpec.ofChange pathAlikeSpec)) pathAlikeCard

/-- THE TIED CARD OF 'gatepostlaw08.PathQuery'. -/
def pathQueryCard : Claim7 := { stood := { row := pathQueryRow, standIns := [], harness := (true, "956e39ac4d4a7d054016bfbc1da6d751c21c84106e8e6e3497b59e9515ee630d"), looks := true }, kinds := [], alts := [], laidByText := true, laidKinds := [.data, .data, .data, .data, .sentinel, .sentinel, .pinned, .pinned], laidTests := true, laidLooks := .later }
def PathQueryCardSaid : Prop := Claim7.holds Tryd.pinned (.plain (OpenSpec.ofChange pathQuerySpec)) pathQueryCard

/-- THE SECOND FORM's CARD OF 'gatepostlaw08.PathNormal'. -/
def pathNormalUptoCard : Claim7 := { stood := { row := pathNormalUptoRow, standIns := [], harness := (true, "956e39ac4d4a7d054016bfbc1da6d751c21c84106e8e6e3497b59e9515ee630d"), looks := true }, kinds := [], alts := [], laidByText := true, laidKinds := [.data, .data, .data, .data, .sentinel, .sentinel, .pinned, .pinned], laidTests := true, laidLooks := .later }
def PathNormalUptoCardSaid : Prop := Claim7.holds Tryd.pinned (.plain (OpenSpec.upto pathNormalSpec)) pathNormalUptoCard

/-- THE SECOND FORM's CARD OF 'gatepostlaw08.PathJoin'. -/
def pathJoinUptoCard : Claim7 := { stood := { row := pathJoinUptoRow, standIns := [], harness := (true, "956e39ac4d4a7d054016bfbc1da6d751c21c84106e8e6e3497b59e9515ee630d"), looks := true }, kinds := [], alts := [], laidByText := true, laidKinds := [.data, .data, .data, .data, .sentinel, .sentinel, .pinned, .pinned], laidTests := true, laidLooks := .later }
def PathJoinUptoCardSaid : Prop := Claim7.holds Tryd.pinned (.plain (OpenSpec.upto pathJoinSpec)) pathJoinUptoCard

/-- THE SECOND FORM's CARD OF 'gatepostlaw08.PathAlike'. -/
def pathAlikeUptoCard : Claim7 := { stood := { row := pathAlikeUptoRow, standIns := [], harness := (true, "956e39ac4d4a7d054016bfbc1da6d751c21c84106e8e6e3497b59e9515ee630d"), looks := true }, kinds := [], alts := [], laidByText := true, laidKinds := [.data, .data, .data, .data, .sentinel, .sentinel, .pinned, .pinned], laidTests := true, laidLooks := .later }
def PathAlikeUptoCardSaid : Prop := Claim7.holds Tryd.pinned (.plain (OpenSpec.upto pathAlikeSpec)) pathAlikeUptoCard

/-- THE SECOND FORM's CARD OF 'gatepostlaw08.PathQuery'. -/
def pathQueryUptoCard : Claim7 := { stood := { row := pathQueryUptoRow, standIns := [], harness := (true, "956e39ac4d4a7d054016bfbc1da6d751c21c84106e8e6e3497b59e9515ee630d"), looks := true }, kinds := [], alts := [], laidByText := true, laidKinds := [.data, .data, .data, .data, .sentinel, .sentinel, .pinned, .pinned], laidTests := true, laidLooks := .later }
def PathQueryUptoCardSaid : Prop := Claim7.holds Tryd.pinned (.plain (OpenSpec.upto pathQuerySpec)) pathQueryUptoCard
end Rows
end Go.Proofs.YthbgnkkjchaaeaaDoor
