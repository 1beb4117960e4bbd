/-
  NARROWER THAN 'FOR EVERY INPUT', by the rows' own cells (each row's printed sentence says how): CodeWrites: laid · CodeReads: laid · CodeNobody: laid · CodeCut: laid · CodeOneForm: laid · CodeStopped: laid · CodeShort: laid · CodeBounds: laid.
  DERIVED. THE GIVEN ROWS OF THIS SEAT. 8 by the template 'for every input the law returns true; each argument reads behind the call as it read before'; 0 by the template 'total and deterministic' (their statements: YtjcdmffjpkckoaaDoorTotals.lean).
  GIVEN WITH THE SEED: the statements are not yours to turn. If you find one false, say at which input.
  Laid BY PROGRAM, IN A SANDBOX (cutbox-rows.mjs): the forced cells as the released guide's own fill.sh prints them over the translation a40517963d86e99d… (all of the seat's roots in one cut). By AI agents, Wed Nov 11 2026. No macro, syntax, notation, axiom, sorry.
-/
import Derived.Test.YtjcdmffjpkckoaaDoorChecked
import GoSem.Claim
import GoSem.ClaimJoined
import GoSem.ClaimMapViews
import Derived.JoinedTies
import Derived.KernelRfl
namespace Go.Proofs.YtjcdmffjpkckoaaDoor
/- THE CELL 'sum', in the pinned program and in every row, IS THE sha256 OF THE DUMP (.gsa) THAT YtjcdmffjpkckoaaDoorProg.lean LOADS. Nothing in Lean hashes anything: it is a label: what it is worth is what the hold of that sum in a sandbox is worth. -/
noncomputable def Tryd.pinned : Pinned := { name := "ytjcdmffjpkckoaadoor", sum := "a40517963d86e99d766ab0e7043372bb288a5d64ce7aa708cc071b8ca0c5d42c", checked := Tryd.checked }
namespace Rows
def none {H : Type} : Left H := { results := [], args := [] }

/- WHAT THE LISTED PACKAGE-LEVEL VARIABLES READ AS WHEN THE CALL BEGINS. Each datum BY PROGRAM (the guide's laid-datum.mjs) off the statement by which the dump's own 'gosem.cut.vars' lays the variable. In a bare row this is a premise. The card (YtjcdmffjpkckoaaDoorCards.lean) ties it to the program's text. -/
def laid_gatepost_code_placesOfU32 {H : Type} : DataW H := .agg [.lit (.int .i64 0), .lit (.int .i64 8), .lit (.int .i64 16), .lit (.int .i64 24)]
def laid_gatepost_code_placesOfUint {H : Type} : DataW H := .agg [.lit (.int .i64 0), .lit (.int .i64 7), .lit (.int .i64 14), .lit (.int .i64 21), .lit (.int .i64 28), .lit (.int .i64 35), .lit (.int .i64 42), .lit (.int .i64 49), .lit (.int .i64 56), .lit (.int .i64 63)]

/-- 'gatepostlaw03.CodeWrites': WHATEVER THE INPUT: true; the input reads as it did. -/
def codeWritesSpec : ChangeSpec := { name := "codeWrites", fn := fun _ => fun
  | [d1, d2] => { results := [.lit (.bool true)], args := [d1, d2] }
  | _ => none }
def codeWritesRow : OpenClaim := { program := "ytjcdmffjpkckoaadoor", sum := "a40517963d86e99d766ab0e7043372bb288a5d64ce7aa708cc071b8ca0c5d42c", func := "gatepost/gatepostlaw03.CodeWrites", spec := "codeWrites", unfollowed := true, recurses := true, named := ["gatepost/code.placesOfU32", "gatepost/code.placesOfUint"], apart := false, laid := [("gatepost/code.placesOfU32", laid_gatepost_code_placesOfU32), ("gatepost/code.placesOfUint", laid_gatepost_code_placesOfUint)] }
def CodeWritesSaid : Prop := codeWritesRow.holds Tryd.pinned (OpenSpec.ofChange codeWritesSpec)

/-- ITS FALSE NEIGHBOUR: 'it returns false'. Refute it at one input. -/
def codeWritesWrong : ChangeSpec := { name := "codeWrites", fn := fun _ => fun
  | [d1, d2] => { results := [.lit (.bool false)], args := [d1, d2] }
  | _ => none }
def CodeWritesWrongFalsely : Prop := codeWritesRow.holds Tryd.pinned (OpenSpec.ofChange codeWritesWrong)

/-- 'gatepostlaw03.CodeReads': WHATEVER THE INPUT: true; the input reads as it did. -/
def codeReadsSpec : ChangeSpec := { name := "codeReads", fn := fun _ => fun
  | [d1, d2, d3] => { results := [.lit (.bool true)], args := [d1, d2, d3] }
  | _ => none }
def codeReadsRow : OpenClaim := { program := "ytjcdmffjpkckoaadoor", sum := "a40517963d86e99d766ab0e7043372bb288a5d64ce7aa708cc071b8ca0c5d42c", func := "gatepost/gatepostlaw03.CodeReads", spec := "codeReads", unfollowed := true, recurses := true, named := ["gatepost/code.placesOfU32", "gatepost/code.placesOfUint"], apart := false, laid := [("gatepost/code.placesOfU32", laid_gatepost_code_placesOfU32), ("gatepost/code.placesOfUint", laid_gatepost_code_placesOfUint)] }
def CodeReadsSaid : Prop := codeReadsRow.holds Tryd.pinned (OpenSpec.ofChange codeReadsSpec)

/-- ITS FALSE NEIGHBOUR: 'it returns false'. Refute it at one input. -/
def codeReadsWrong : ChangeSpec := { name := "codeReads", fn := fun _ => fun
  | [d1, d2, d3] => { results := [.lit (.bool false)], args := [d1, d2, d3] }
  | _ => none }
def CodeReadsWrongFalsely : Prop := codeReadsRow.holds Tryd.pinned (OpenSpec.ofChange codeReadsWrong)

/-- 'gatepostlaw03.CodeNobody': WHATEVER THE INPUT: true; the input reads as it did. -/
def codeNobodySpec : ChangeSpec := { name := "codeNobody", fn := fun _ => fun
  | [d] => { results := [.lit (.bool true)], args := [d] }
  | _ => none }
def codeNobodyRow : OpenClaim := { program := "ytjcdmffjpkckoaadoor", sum := "a40517963d86e99d766ab0e7043372bb288a5d64ce7aa708cc071b8ca0c5d42c", func := "gatepost/gatepostlaw03.CodeNobody", spec := "codeNobody", unfollowed := true, recurses := true, named := ["gatepost/code.placesOfU32", "gatepost/code.placesOfUint"], apart := false, laid := [("gatepost/code.placesOfU32", laid_gatepost_code_placesOfU32), ("gatepost/code.placesOfUint", laid_gatepost_code_placesOfUint)] }
def CodeNobodySaid : Prop := codeNobodyRow.holds Tryd.pinned (OpenSpec.ofChange codeNobodySpec)

/-- ITS FALSE NEIGHBOUR: 'it returns false'. Refute it at one input. -/
def codeNobodyWrong : ChangeSpec := { name := "codeNobody", fn := fun _ => fun
  | [d] => { results := [.lit (.bool false)], args := [d] }
  | _ => none }
def CodeNobodyWrongFalsely : Prop := codeNobodyRow.holds Tryd.pinned (OpenSpec.ofChange codeNobodyWrong)

/-- 'gatepostlaw03.CodeCut': WHATEVER THE INPUT: true; the input reads as it did. -/
def codeCutSpec : ChangeSpec := { name := "codeCut", fn := fun _ => fun
  | [d1, d2] => { results := [.lit (.bool true)], args := [d1, d2] }
  | _ => none }
def codeCutRow : OpenClaim := { program := "ytjcdmffjpkckoaadoor", sum := "a40517963d86e99d766ab0e7043372bb288a5d64ce7aa708cc071b8ca0c5d42c", func := "gatepost/gatepostlaw03.CodeCut", spec := "codeCut", unfollowed := true, recurses := true, named := ["gatepost/code.placesOfU32", "gatepost/code.placesOfUint"], apart := false, laid := [("gatepost/code.placesOfU32", laid_gatepost_code_placesOfU32), ("gatepost/code.placesOfUint", laid_gatepost_code_placesOfUint)] }
def CodeCutSaid : Prop := codeCutRow.holds Tryd.pinned (OpenSpec.ofChange codeCutSpec)

/-- ITS FALSE NEIGHBOUR: 'it returns false'. Refute it at one input. -/
def codeCutWrong : ChangeSpec := { name := "codeCut", fn := fun _ => fun
  | [d1, d2] => { results := [.lit (.bool false)], args := [d1, d2] }
  | _ => none }
def CodeCutWrongFalsely : Prop := codeCutRow.holds Tryd.pinned (OpenSpec.ofChange codeCutWrong)

/-- 'gatepostlaw03.CodeOneForm': WHATEVER THE INPUT: true; the input reads as it did. -/
def codeOneFormSpec : ChangeSpec := { name := "codeOneForm", fn := fun _ => fun
  | [d1, d2] => { results := [.lit (.bool true)], args := [d1, d2] }
  | _ => none }
def codeOneFormRow : OpenClaim := { program := "ytjcdmffjpkckoaadoor", sum := "a40517963d86e99d766ab0e7043372bb288a5d64ce7aa708cc071b8ca0c5d42c", func := "gatepost/gatepostlaw03.CodeOneForm", spec := "codeOneForm", unfollowed := true, recurses := true, named := ["gatepost/code.placesOfU32", "gatepost/code.placesOfUint"], apart := false, laid := [("gatepost/code.placesOfU32", laid_gatepost_code_placesOfU32), ("gatepost/code.placesOfUint", laid_gatepost_code_placesOfUint)] }
def CodeOneFormSaid : Prop := codeOneFormRow.holds Tryd.pinned (OpenSpec.ofChange codeOneFormSpec)

/-- ITS FALSE NEIGHBOUR: 'it returns false'. Refute it at one input. -/
def codeOneFormWrong : ChangeSpec := { name := "codeOneForm", fn := fun _ => fun
  | [d1, d2] => { results := [.lit (.bool false)], args := [d1, d2] }
  | _ => none }
def CodeOneFormWrongFalsely : Prop := codeOneFormRow.holds Tryd.pinned (OpenSpec.ofChange codeOneFormWrong)

/-- 'gatepostlaw03.CodeStopped': WHATEVER THE INPUT: true; the input reads as it did. -/
def codeStoppedSpec : ChangeSpec := { name := "codeStopped", fn := fun _ => fun
  | [d1, d2, d3] => { results := [.lit (.bool true)], args := [d1, d2, d3] }
  | _ => none }
def codeStoppedRow : OpenClaim := { program := "ytjcdmffjpkckoaadoor", sum := "a40517963d86e99d766ab0e7043372bb288a5d64ce7aa708cc071b8ca0c5d42c", func := "gatepost/gatepostlaw03.CodeStopped", spec := "codeStopped", unfollowed := true, recurses := true, named := ["gatepost/code.placesOfU32", "gatepost/code.placesOfUint"], apart := false, laid := [("gatepost/code.placesOfU32", laid_gatepost_code_placesOfU32), ("gatepost/code.placesOfUint", laid_gatepost_code_placesOfUint)] }
def CodeStoppedSaid : Prop := codeStoppedRow.holds Tryd.pinned (OpenSpec.ofChange codeStoppedSpec)

/-- ITS FALSE NEIGHBOUR: 'it returns false'. Refute it at one input. -/
def codeStoppedWrong : ChangeSpec := { name := "codeStopped", fn := fun _ => fun
  | [d1, d2, d3] => { results := [.lit (.bool false)], args := [d1, d2, d3] }
  | _ => none }
def CodeStoppedWrongFalsely : Prop := codeStoppedRow.holds Tryd.pinned (OpenSpec.ofChange codeStoppedWrong)

/-- 'gatepostlaw03.CodeShort': WHATEVER THE INPUT: true; the input reads as it did. -/
def codeShortSpec : ChangeSpec := { name := "codeShort", fn := fun _ => fun
  | [d1, d2] => { results := [.lit (.bool true)], args := [d1, d2] }
  | _ => none }
def codeShortRow : OpenClaim := { program := "ytjcdmffjpkckoaadoor", sum := "a40517963d86e99d766ab0e7043372bb288a5d64ce7aa708cc071b8ca0c5d42c", func := "gatepost/gatepostlaw03.CodeShort", spec := "codeShort", unfollowed := true, recurses := true, named := ["gatepost/code.placesOfU32", "gatepost/code.placesOfUint"], apart := false, laid := [("gatepost/code.placesOfU32", laid_gatepost_code_placesOfU32), ("gatepost/code.placesOfUint", laid_gatepost_code_placesOfUint)] }
def CodeShortSaid : Prop := codeShortRow.holds Tryd.pinned (OpenSpec.ofChange codeShortSpec)

/-- ITS FALSE NEIGHBOUR: 'it returns false'. Refute it at one input. -/
def codeShortWrong : ChangeSpec := { name := "codeShort", fn := fun _ => fun
  | [d1, d2] => { results := [.lit (.bool false)], args := [d1, d2] }
  | _ => none }
def CodeShortWrongFalsely : Prop := codeShortRow.holds Tryd.pinned (OpenSpec.ofChange codeShortWrong)

/-- 'gatepostlaw03.CodeBounds': WHATEVER THE INPUT: true; the input reads as it did. -/
def codeBoundsSpec : ChangeSpec := { name := "codeBounds", fn := fun _ => fun
  | [d1, d2, d3] => { results := [.lit (.bool true)], args := [d1, d2, d3] }
  | _ => none }
def codeBoundsRow : OpenClaim := { program := "ytjcdmffjpkckoaadoor", sum := "a40517963d86e99d766ab0e7043372bb288a5d64ce7aa708cc071b8ca0c5d42c", func := "gatepost/gatepostlaw03.CodeBounds", spec := "codeBounds", unfollowed := true, recurses := true, named := ["gatepost/code.placesOfU32", "gatepost/code.placesOfUint"], apart := false, laid := [("gatepost/code.placesOfU32", laid_gatepost_code_placesOfU32), ("gatepost/code.placesOfUint", laid_gatepost_code_placesOfUint)] }
def CodeBoundsSaid : Prop := codeBoundsRow.holds Tryd.pinned (OpenSpec.ofChange codeBoundsSpec)

/-- ITS FALSE NEIGHBOUR: 'it returns false'. Refute it at one input. -/
def codeBoundsWrong : ChangeSpec := { name := "codeBounds", fn := fun _ => fun
  | [d1, d2, d3] => { results := [.lit (.bool false)], args := [d1, d2, d3] }
  | _ => none }
def CodeBoundsWrongFalsely : Prop := codeBoundsRow.holds Tryd.pinned (OpenSpec.ofChange codeBoundsWrong)

/- THE SECOND FORM. 'bulk': how many values and letters a reading holds, each counted each time it is reached (what is shared counts as often as it is met; a slice's spare places count too). A statement '..UptoSaid' is the law's where the arguments, and the package variables that the reading takes, are together of bulk at most 1048576: NARROWER than '..Said'. Prove '..Said' where nothing that the law and all that it calls make is longer than what came in: it says more and counts as full. Else prove '..UptoSaid'. A law counts once. -/
mutual
def uptoBulk {H : Type} : DataW H → Nat
  | .lit (.string bytes) => bytes.length + 1
  | .lit _ => 1
  | .nil => 1
  | .ptr d => uptoBulk d + 1
  | .slice elems spare => uptoBulkAll elems + uptoBulkAll spare + 1
  | .agg parts => uptoBulkAll parts + 1
  | .iface _ d => uptoBulk d + 1
  | .map entries => uptoBulkEntries entries + 1
  | .held _ => 1
def uptoBulkAll {H : Type} : List (DataW H) → Nat
  | [] => 0
  | d :: r => uptoBulk d + uptoBulkAll r
def uptoBulkEntries {H : Type} : List (Lit × DataW H) → Nat
  | [] => 0
  | x :: r => uptoBulkEntry x + uptoBulkEntries r
def uptoBulkEntry {H : Type} : Lit × DataW H → Nat
  | (.string bytes, d) => bytes.length + uptoBulk d + 1
  | (_, d) => uptoBulk d + 1
 end
def uptoSmall : (H : Type) → List (DataW H) → Bool := fun _ ds => decide (uptoBulkAll ds ≤ 1048576)
def OpenSpec.upto (s : _root_.Go.ChangeSpec) : _root_.Go.OpenSpec := { _root_.Go.OpenSpec.ofChange s with cond := some uptoSmall }

/-- 'gatepostlaw03.CodeWrites', WHERE WHAT IT READS IS OF BULK AT MOST 1048576: true; the input reads as it did. -/
def codeWritesUptoRow : OpenClaim := { program := "ytjcdmffjpkckoaadoor", sum := "a40517963d86e99d766ab0e7043372bb288a5d64ce7aa708cc071b8ca0c5d42c", func := "gatepost/gatepostlaw03.CodeWrites", spec := "codeWrites", unfollowed := true, recurses := true, named := ["gatepost/code.placesOfU32", "gatepost/code.placesOfUint"], apart := false, laid := [("gatepost/code.placesOfU32", laid_gatepost_code_placesOfU32), ("gatepost/code.placesOfUint", laid_gatepost_code_placesOfUint)], narrowed := true }
def CodeWritesUptoSaid : Prop := codeWritesUptoRow.holds Tryd.pinned (OpenSpec.upto codeWritesSpec)

/-- 'gatepostlaw03.CodeReads', WHERE WHAT IT READS IS OF BULK AT MOST 1048576: true; the input reads as it did. -/
def codeReadsUptoRow : OpenClaim := { program := "ytjcdmffjpkckoaadoor", sum := "a40517963d86e99d766ab0e7043372bb288a5d64ce7aa708cc071b8ca0c5d42c", func := "gatepost/gatepostlaw03.CodeReads", spec := "codeReads", unfollowed := true, recurses := true, named := ["gatepost/code.placesOfU32", "gatepost/code.placesOfUint"], apart := false, laid := [("gatepost/code.placesOfU32", laid_gatepost_code_placesOfU32), ("gatepost/code.placesOfUint", laid_gatepost_code_placesOfUint)], narrowed := true }
def CodeReadsUptoSaid : Prop := codeReadsUptoRow.holds Tryd.pinned (OpenSpec.upto codeReadsSpec)

/-- 'gatepostlaw03.CodeNobody', WHERE WHAT IT READS IS OF BULK AT MOST 1048576: true; the input reads as it did. -/
def codeNobodyUptoRow : OpenClaim := { program := "ytjcdmffjpkckoaadoor", sum := "a40517963d86e99d766ab0e7043372bb288a5d64ce7aa708cc071b8ca0c5d42c", func := "gatepost/gatepostlaw03.CodeNobody", spec := "codeNobody", unfollowed := true, recurses := true, named := ["gatepost/code.placesOfU32", "gatepost/code.placesOfUint"], apart := false, laid := [("gatepost/code.placesOfU32", laid_gatepost_code_placesOfU32), ("gatepost/code.placesOfUint", laid_gatepost_code_placesOfUint)], narrowed := true }
def CodeNobodyUptoSaid : Prop := codeNobodyUptoRow.holds Tryd.pinned (OpenSpec.upto codeNobodySpec)

/-- 'gatepostlaw03.CodeCut', WHERE WHAT IT READS IS OF BULK AT MOST 1048576: true; the input reads as it did. -/
def codeCutUptoRow : OpenClaim := { program := "ytjcdmffjpkckoaadoor", sum := "a40517963d86e99d766ab0e7043372bb288a5d64ce7aa708cc071b8ca0c5d42c", func := "gatepost/gatepostlaw03.CodeCut", spec := "codeCut", unfollowed := true, recurses := true, named := ["gatepost/code.placesOfU32", "gatepost/code.placesOfUint"], apart := false, laid := [("gatepost/code.placesOfU32", laid_gatepost_code_placesOfU32), ("gatepost/code.placesOfUint", laid_gatepost_code_placesOfUint)], narrowed := true }
def CodeCutUptoSaid : Prop := codeCutUptoRow.holds Tryd.pinned (OpenSpec.upto codeCutSpec)

/-- 'gatepostlaw03.CodeOneForm', WHERE WHAT IT READS IS OF BULK AT MOST 1048576: true; the input reads as it did. -/
def codeOneFormUptoRow : OpenClaim := { program := "ytjcdmffjpkckoaadoor", sum := "a40517963d86e99d766ab0e7043372bb288a5d64ce7aa708cc071b8ca0c5d42c", func := "gatepost/gatepostlaw03.CodeOneForm", spec := "codeOneForm", unfollowed := true, recurses := true, named := ["gatepost/code.placesOfU32", "gatepost/code.placesOfUint"], apart := false, laid := [("gatepost/code.placesOfU32", laid_gatepost_code_placesOfU32), ("gatepost/code.placesOfUint", laid_gatepost_code_placesOfUint)], narrowed := true }
def CodeOneFormUptoSaid : Prop := codeOneFormUptoRow.holds Tryd.pinned (OpenSpec.upto codeOneFormSpec)

/-- 'gatepostlaw03.CodeStopped', WHERE WHAT IT READS IS OF BULK AT MOST 1048576: true; the input reads as it did. -/
def codeStoppedUptoRow : OpenClaim := { program := "ytjcdmffjpkckoaadoor", sum := "a40517963d86e99d766ab0e7043372bb288a5d64ce7aa708cc071b8ca0c5d42c", func := "gatepost/gatepostlaw03.CodeStopped", spec := "codeStopped", unfollowed := true, recurses := true, named := ["gatepost/code.placesOfU32", "gatepost/code.placesOfUint"], apart := false, laid := [("gatepost/code.placesOfU32", laid_gatepost_code_placesOfU32), ("gatepost/code.placesOfUint", laid_gatepost_code_placesOfUint)], narrowed := true }
def CodeStoppedUptoSaid : Prop := codeStoppedUptoRow.holds Tryd.pinned (OpenSpec.upto codeStoppedSpec)

/-- 'gatepostlaw03.CodeShort', WHERE WHAT IT READS IS OF BULK AT MOST 1048576: true; the input reads as it did. -/
def codeShortUptoRow : OpenClaim := { program := "ytjcdmffjpkckoaadoor", sum := "a40517963d86e99d766ab0e7043372bb288a5d64ce7aa708cc071b8ca0c5d42c", func := "gatepost/gatepostlaw03.CodeShort", spec := "codeShort", unfollowed := true, recurses := true, named := ["gatepost/code.placesOfU32", "gatepost/code.placesOfUint"], apart := false, laid := [("gatepost/code.placesOfU32", laid_gatepost_code_placesOfU32), ("gatepost/code.placesOfUint", laid_gatepost_code_placesOfUint)], narrowed := true }
def CodeShortUptoSaid : Prop := codeShortUptoRow.holds Tryd.pinned (OpenSpec.upto codeShortSpec)

/-- 'gatepostlaw03.CodeBounds', WHERE WHAT IT READS IS OF BULK AT MOST 1048576: true; the input reads as it did. -/
def codeBoundsUptoRow : OpenClaim := { program := "ytjcdmffjpkckoaadoor", sum := "a40517963d86e99d766ab0e7043372bb288a5d64ce7aa708cc071b8ca0c5d42c", func := "gatepost/gatepostlaw03.CodeBounds", spec := "codeBounds", unfollowed := true, recurses := true, named := ["gatepost/code.placesOfU32", "gatepost/code.placesOfUint"], apart := false, laid := [("gatepost/code.placesOfU32", laid_gatepost_code_placesOfU32), ("gatepost/code.placesOfUint", laid_gatepost_code_placesOfUint)], narrowed := true }
def CodeBoundsUptoSaid : Prop := codeBoundsUptoRow.holds Tryd.pinned (OpenSpec.upto codeBoundsSpec)

end Rows
end Go.Proofs.YtjcdmffjpkckoaaDoor
