/-
  NARROWER THAN 'FOR EVERY INPUT', by the rows' own cells (each row's printed sentence says how): TokenMay: laid · TokenIssue: laid · TokenVerify: laid · TokenBytes: laid · TokenLives: laid · TokenFields: laid · TokenBack: laid · TokenRings: laid.
  DERIVED. THE GIVEN ROWS OF THIS SEAT. 8 by the template 'for every input the law returns true; each argument reads behind the call as it read before'; 0 by the template 'total and deterministic' (their statements: YtaomigfmjglggaaDoorTotals.lean).
  GIVEN WITH THE SEED: the statements are not yours to turn. If you find one false, say at which input.
  Laid BY PROGRAM, IN A SANDBOX (cutbox-rows.mjs): the forced cells as the released guide's own fill.sh prints them over the translation f1698e20e3982b53… (all of the seat's roots in one cut). By AI agents, Wed Nov 11 2026. No macro, syntax, notation, axiom, sorry.
-/
import Derived.Test.YtaomigfmjglggaaDoorChecked
import GoSem.Claim
import GoSem.ClaimJoined
import GoSem.ClaimMapViews
import Derived.JoinedTies
import Derived.KernelRfl
namespace Go.Proofs.YtaomigfmjglggaaDoor
/- THE CELL 'sum', in the pinned program and in every row, IS THE sha256 OF THE DUMP (.gsa) THAT YtaomigfmjglggaaDoorProg.lean LOADS. Nothing in Lean hashes anything: it is a label: what it is worth is what the hold of that sum in a sandbox is worth. -/
noncomputable def Tryd.pinned : Pinned := { name := "ytaomigfmjglggaadoor", sum := "f1698e20e3982b5387c15acd1aca89ab226d8e561fdf0d570e735531d9fa7ac2", checked := Tryd.checked }
namespace Rows
def none {H : Type} : Left H := { results := [], args := [] }

/- WHAT THE LISTED PACKAGE-LEVEL VARIABLES READ AS WHEN THE CALL BEGINS. Each datum BY PROGRAM (the guide's laid-datum.mjs) off the statement by which the dump's own 'gosem.cut.vars' lays the variable. In a bare row this is a premise. The card (YtaomigfmjglggaaDoorCards.lean) ties it to the program's text. -/
def laid_gatepost_code_placesOfU32 {H : Type} : DataW H := .agg [.lit (.int .i64 0), .lit (.int .i64 8), .lit (.int .i64 16), .lit (.int .i64 24)]
def laid_gatepost_code_placesOfUint {H : Type} : DataW H := .agg [.lit (.int .i64 0), .lit (.int .i64 7), .lit (.int .i64 14), .lit (.int .i64 21), .lit (.int .i64 28), .lit (.int .i64 35), .lit (.int .i64 42), .lit (.int .i64 49), .lit (.int .i64 56), .lit (.int .i64 63)]

/-- 'gatepostlaw06.TokenMay': WHATEVER THE INPUT: true; the input reads as it did. -/
def tokenMaySpec : ChangeSpec := { name := "tokenMay", fn := fun _ => fun
  | [d1, d2, d3] => { results := [.lit (.bool true)], args := [d1, d2, d3] }
  | _ => none }
def tokenMayRow : OpenClaim := { program := "ytaomigfmjglggaadoor", sum := "f1698e20e3982b5387c15acd1aca89ab226d8e561fdf0d570e735531d9fa7ac2", func := "gatepost/gatepostlaw06.TokenMay", spec := "tokenMay", unfollowed := true, recurses := true, named := ["gatepost/code.placesOfUint", "gatepost/code.placesOfU32"], apart := false, laid := [("gatepost/code.placesOfU32", laid_gatepost_code_placesOfU32), ("gatepost/code.placesOfUint", laid_gatepost_code_placesOfUint)] }
def TokenMaySaid : Prop := tokenMayRow.holds Tryd.pinned (OpenSpec.ofChange tokenMaySpec)

/-- ITS FALSE NEIGHBOUR: 'it returns false'. Refute it at one input. -/
def tokenMayWrong : ChangeSpec := { name := "tokenMay", fn := fun _ => fun
  | [d1, d2, d3] => { results := [.lit (.bool false)], args := [d1, d2, d3] }
  | _ => none }
def TokenMayWrongFalsely : Prop := tokenMayRow.holds Tryd.pinned (OpenSpec.ofChange tokenMayWrong)

/-- 'gatepostlaw06.TokenIssue': WHATEVER THE INPUT: true; the input reads as it did. -/
def tokenIssueSpec : ChangeSpec := { name := "tokenIssue", fn := fun _ => fun
  | [d1, d2, d3] => { results := [.lit (.bool true)], args := [d1, d2, d3] }
  | _ => none }
def tokenIssueRow : OpenClaim := { program := "ytaomigfmjglggaadoor", sum := "f1698e20e3982b5387c15acd1aca89ab226d8e561fdf0d570e735531d9fa7ac2", func := "gatepost/gatepostlaw06.TokenIssue", spec := "tokenIssue", unfollowed := true, recurses := true, named := ["gatepost/code.placesOfUint", "gatepost/code.placesOfU32"], apart := false, laid := [("gatepost/code.placesOfU32", laid_gatepost_code_placesOfU32), ("gatepost/code.placesOfUint", laid_gatepost_code_placesOfUint)] }
def TokenIssueSaid : Prop := tokenIssueRow.holds Tryd.pinned (OpenSpec.ofChange tokenIssueSpec)

/-- ITS FALSE NEIGHBOUR: 'it returns false'. Refute it at one input. -/
def tokenIssueWrong : ChangeSpec := { name := "tokenIssue", fn := fun _ => fun
  | [d1, d2, d3] => { results := [.lit (.bool false)], args := [d1, d2, d3] }
  | _ => none }
def TokenIssueWrongFalsely : Prop := tokenIssueRow.holds Tryd.pinned (OpenSpec.ofChange tokenIssueWrong)

/-- 'gatepostlaw06.TokenVerify': WHATEVER THE INPUT: true; the input reads as it did. -/
def tokenVerifySpec : ChangeSpec := { name := "tokenVerify", fn := fun _ => fun
  | [d1, d2, d3] => { results := [.lit (.bool true)], args := [d1, d2, d3] }
  | _ => none }
def tokenVerifyRow : OpenClaim := { program := "ytaomigfmjglggaadoor", sum := "f1698e20e3982b5387c15acd1aca89ab226d8e561fdf0d570e735531d9fa7ac2", func := "gatepost/gatepostlaw06.TokenVerify", spec := "tokenVerify", unfollowed := true, recurses := true, named := ["gatepost/code.placesOfUint", "gatepost/code.placesOfU32"], apart := false, laid := [("gatepost/code.placesOfU32", laid_gatepost_code_placesOfU32), ("gatepost/code.placesOfUint", laid_gatepost_code_placesOfUint)] }
def TokenVerifySaid : Prop := tokenVerifyRow.holds Tryd.pinned (OpenSpec.ofChange tokenVerifySpec)

/-- ITS FALSE NEIGHBOUR: 'it returns false'. Refute it at one input. -/
def tokenVerifyWrong : ChangeSpec := { name := "tokenVerify", fn := fun _ => fun
  | [d1, d2, d3] => { results := [.lit (.bool false)], args := [d1, d2, d3] }
  | _ => none }
def TokenVerifyWrongFalsely : Prop := tokenVerifyRow.holds Tryd.pinned (OpenSpec.ofChange tokenVerifyWrong)

/-- 'gatepostlaw06.TokenBytes': WHATEVER THE INPUT: true; the input reads as it did. -/
def tokenBytesSpec : ChangeSpec := { name := "tokenBytes", fn := fun _ => fun
  | [d1, d2] => { results := [.lit (.bool true)], args := [d1, d2] }
  | _ => none }
def tokenBytesRow : OpenClaim := { program := "ytaomigfmjglggaadoor", sum := "f1698e20e3982b5387c15acd1aca89ab226d8e561fdf0d570e735531d9fa7ac2", func := "gatepost/gatepostlaw06.TokenBytes", spec := "tokenBytes", unfollowed := true, recurses := true, named := ["gatepost/code.placesOfUint", "gatepost/code.placesOfU32"], apart := false, laid := [("gatepost/code.placesOfU32", laid_gatepost_code_placesOfU32), ("gatepost/code.placesOfUint", laid_gatepost_code_placesOfUint)] }
def TokenBytesSaid : Prop := tokenBytesRow.holds Tryd.pinned (OpenSpec.ofChange tokenBytesSpec)

/-- ITS FALSE NEIGHBOUR: 'it returns false'. Refute it at one input. -/
def tokenBytesWrong : ChangeSpec := { name := "tokenBytes", fn := fun _ => fun
  | [d1, d2] => { results := [.lit (.bool false)], args := [d1, d2] }
  | _ => none }
def TokenBytesWrongFalsely : Prop := tokenBytesRow.holds Tryd.pinned (OpenSpec.ofChange tokenBytesWrong)

/-- 'gatepostlaw06.TokenLives': WHATEVER THE INPUT: true; the input reads as it did. -/
def tokenLivesSpec : ChangeSpec := { name := "tokenLives", fn := fun _ => fun
  | [d1, d2, d3, d4, d5] => { results := [.lit (.bool true)], args := [d1, d2, d3, d4, d5] }
  | _ => none }
def tokenLivesRow : OpenClaim := { program := "ytaomigfmjglggaadoor", sum := "f1698e20e3982b5387c15acd1aca89ab226d8e561fdf0d570e735531d9fa7ac2", func := "gatepost/gatepostlaw06.TokenLives", spec := "tokenLives", unfollowed := true, recurses := true, named := ["gatepost/code.placesOfUint", "gatepost/code.placesOfU32"], apart := false, laid := [("gatepost/code.placesOfU32", laid_gatepost_code_placesOfU32), ("gatepost/code.placesOfUint", laid_gatepost_code_placesOfUint)] }
def TokenLivesSaid : Prop := tokenLivesRow.holds Tryd.pinned (OpenSpec.ofChange tokenLivesSpec)

/-- ITS FALSE NEIGHBOUR: 'it returns false'. Refute it at one input. -/
def tokenLivesWrong : ChangeSpec := { name := "tokenLives", fn := fun _ => fun
  | [d1, d2, d3, d4, d5] => { results := [.lit (.bool false)], args := [d1, d2, d3, d4, d5] }
  | _ => none }
def TokenLivesWrongFalsely : Prop := tokenLivesRow.holds Tryd.pinned (OpenSpec.ofChange tokenLivesWrong)

/-- 'gatepostlaw06.TokenFields': WHATEVER THE INPUT: true; the input reads as it did. -/
def tokenFieldsSpec : ChangeSpec := { name := "tokenFields", fn := fun _ => fun
  | [d1, d2, d3, d4, d5] => { results := [.lit (.bool true)], args := [d1, d2, d3, d4, d5] }
  | _ => none }
def tokenFieldsRow : OpenClaim := { program := "ytaomigfmjglggaadoor", sum := "f1698e20e3982b5387c15acd1aca89ab226d8e561fdf0d570e735531d9fa7ac2", func := "gatepost/gatepostlaw06.TokenFields", spec := "tokenFields", unfollowed := true, recurses := true, named := ["gatepost/code.placesOfUint", "gatepost/code.placesOfU32"], apart := false, laid := [("gatepost/code.placesOfU32", laid_gatepost_code_placesOfU32), ("gatepost/code.placesOfUint", laid_gatepost_code_placesOfUint)] }
def TokenFieldsSaid : Prop := tokenFieldsRow.holds Tryd.pinned (OpenSpec.ofChange tokenFieldsSpec)

/-- ITS FALSE NEIGHBOUR: 'it returns false'. Refute it at one input. -/
def tokenFieldsWrong : ChangeSpec := { name := "tokenFields", fn := fun _ => fun
  | [d1, d2, d3, d4, d5] => { results := [.lit (.bool false)], args := [d1, d2, d3, d4, d5] }
  | _ => none }
def TokenFieldsWrongFalsely : Prop := tokenFieldsRow.holds Tryd.pinned (OpenSpec.ofChange tokenFieldsWrong)

/-- 'gatepostlaw06.TokenBack': WHATEVER THE INPUT: true; the input reads as it did. -/
def tokenBackSpec : ChangeSpec := { name := "tokenBack", fn := fun _ => fun
  | [d1, d2, d3, d4] => { results := [.lit (.bool true)], args := [d1, d2, d3, d4] }
  | _ => none }
def tokenBackRow : OpenClaim := { program := "ytaomigfmjglggaadoor", sum := "f1698e20e3982b5387c15acd1aca89ab226d8e561fdf0d570e735531d9fa7ac2", func := "gatepost/gatepostlaw06.TokenBack", spec := "tokenBack", unfollowed := true, recurses := true, named := ["gatepost/code.placesOfUint", "gatepost/code.placesOfU32"], apart := false, laid := [("gatepost/code.placesOfU32", laid_gatepost_code_placesOfU32), ("gatepost/code.placesOfUint", laid_gatepost_code_placesOfUint)] }
def TokenBackSaid : Prop := tokenBackRow.holds Tryd.pinned (OpenSpec.ofChange tokenBackSpec)

/-- ITS FALSE NEIGHBOUR: 'it returns false'. Refute it at one input. -/
def tokenBackWrong : ChangeSpec := { name := "tokenBack", fn := fun _ => fun
  | [d1, d2, d3, d4] => { results := [.lit (.bool false)], args := [d1, d2, d3, d4] }
  | _ => none }
def TokenBackWrongFalsely : Prop := tokenBackRow.holds Tryd.pinned (OpenSpec.ofChange tokenBackWrong)

/-- 'gatepostlaw06.TokenRings': WHATEVER THE INPUT: true; the input reads as it did. -/
def tokenRingsSpec : ChangeSpec := { name := "tokenRings", fn := fun _ => fun
  | [d1, d2, d3, d4, d5] => { results := [.lit (.bool true)], args := [d1, d2, d3, d4, d5] }
  | _ => none }
def tokenRingsRow : OpenClaim := { program := "ytaomigfmjglggaadoor", sum := "f1698e20e3982b5387c15acd1aca89ab226d8e561fdf0d570e735531d9fa7ac2", func := "gatepost/gatepostlaw06.TokenRings", spec := "tokenRings", unfollowed := true, recurses := true, named := ["gatepost/code.placesOfUint", "gatepost/code.placesOfU32"], apart := false, laid := [("gatepost/code.placesOfU32", laid_gatepost_code_placesOfU32), ("gatepost/code.placesOfUint", laid_gatepost_code_placesOfUint)] }
def TokenRingsSaid : Prop := tokenRingsRow.holds Tryd.pinned (OpenSpec.ofChange tokenRingsSpec)

/-- ITS FALSE NEIGHBOUR: 'it returns false'. Refute it at one input. -/
def tokenRingsWrong : ChangeSpec := { name := "tokenRings", fn := fun _ => fun
  | [d1, d2, d3, d4, d5] => { results := [.lit (.bool false)], args := [d1, d2, d3, d4, d5] }
  | _ => none }
def TokenRingsWrongFalsely : Prop := tokenRingsRow.holds Tryd.pinned (OpenSpec.ofChange tokenRingsWrong)

/- THE SECOND FORM. 'bulk': how many values and letters a reading holds, each counted each time it is reached (what is shared counts as often as it is met; a slice's spare places count too). A statement '..UptoSaid' is the law's where the arguments, and the package variables that the reading takes, are together of bulk at most 1048576: NARROWER than '..Said'. Prove '..Said' where nothing that the law and all that it calls make is longer than what came in: it says more and counts as full. Else prove '..UptoSaid'. A law counts once. -/
mutual
def uptoBulk {H : Type} : DataW H → Nat
  | .lit (.string bytes) => bytes.length + 1
  | .lit _ => 1
  | .nil => 1
  | .ptr d => uptoBulk d + 1
  | .slice elems spare => uptoBulkAll elems + uptoBulkAll spare + 1
  | .agg parts => uptoBulkAll parts + 1
  | .iface _ d => uptoBulk d + 1
  | .map entries => uptoBulkEntries entries + 1
  | .held _ => 1
def uptoBulkAll {H : Type} : List (DataW H) → Nat
  | [] => 0
  | d :: r => uptoBulk d + uptoBulkAll r
def uptoBulkEntries {H : Type} : List (Lit × DataW H) → Nat
  | [] => 0
  | x :: r => uptoBulkEntry x + uptoBulkEntries r
def uptoBulkEntry {H : Type} : Lit × DataW H → Nat
  | (.string bytes, d) => bytes.length + uptoBulk d + 1
  | (_, d) => uptoBulk d + 1
 end
def uptoSmall : (H : Type) → List (DataW H) → Bool := fun _ ds => decide (uptoBulkAll ds ≤ 1048576)
def OpenSpec.upto (s : _root_.Go.ChangeSpec) : _root_.Go.OpenSpec := { _root_.Go.OpenSpec.ofChange s with cond := some uptoSmall }

/-- 'gatepostlaw06.TokenMay', WHERE WHAT IT READS IS OF BULK AT MOST 1048576: true; the input reads as it did. -/
def tokenMayUptoRow : OpenClaim := { program := "ytaomigfmjglggaadoor", sum := "f1698e20e3982b5387c15acd1aca89ab226d8e561fdf0d570e735531d9fa7ac2", func := "gatepost/gatepostlaw06.TokenMay", spec := "tokenMay", unfollowed := true, recurses := true, named := ["gatepost/code.placesOfUint", "gatepost/code.placesOfU32"], apart := false, laid := [("gatepost/code.placesOfU32", laid_gatepost_code_placesOfU32), ("gatepost/code.placesOfUint", laid_gatepost_code_placesOfUint)], narrowed := true }
def TokenMayUptoSaid : Prop := tokenMayUptoRow.holds Tryd.pinned (OpenSpec.upto tokenMaySpec)

/-- 'gatepostlaw06.TokenIssue', WHERE WHAT IT READS IS OF BULK AT MOST 1048576: true; the input reads as it did. -/
def tokenIssueUptoRow : OpenClaim := { program := "ytaomigfmjglggaadoor", sum := "f1698e20e3982b5387c15acd1aca89ab226d8e561fdf0d570e735531d9fa7ac2", func := "gatepost/gatepostlaw06.TokenIssue", spec := "tokenIssue", unfollowed := true, recurses := true, named := ["gatepost/code.placesOfUint", "gatepost/code.placesOfU32"], apart := false, laid := [("gatepost/code.placesOfU32", laid_gatepost_code_placesOfU32), ("gatepost/code.placesOfUint", laid_gatepost_code_placesOfUint)], narrowed := true }
def TokenIssueUptoSaid : Prop := tokenIssueUptoRow.holds Tryd.pinned (OpenSpec.upto tokenIssueSpec)

/-- 'gatepostlaw06.TokenVerify', WHERE WHAT IT READS IS OF BULK AT MOST 1048576: true; the input reads as it did. -/
def tokenVerifyUptoRow : OpenClaim := { program := "ytaomigfmjglggaadoor", sum := "f1698e20e3982b5387c15acd1aca89ab226d8e561fdf0d570e735531d9fa7ac2", func := "gatepost/gatepostlaw06.TokenVerify", spec := "tokenVerify", unfollowed := true, recurses := true, named := ["gatepost/code.placesOfUint", "gatepost/code.placesOfU32"], apart := false, laid := [("gatepost/code.placesOfU32", laid_gatepost_code_placesOfU32), ("gatepost/code.placesOfUint", laid_gatepost_code_placesOfUint)], narrowed := true }
def TokenVerifyUptoSaid : Prop := tokenVerifyUptoRow.holds Tryd.pinned (OpenSpec.upto tokenVerifySpec)

/-- 'gatepostlaw06.TokenBytes', WHERE WHAT IT READS IS OF BULK AT MOST 1048576: true; the input reads as it did. -/
def tokenBytesUptoRow : OpenClaim := { program := "ytaomigfmjglggaadoor", sum := "f1698e20e3982b5387c15acd1aca89ab226d8e561fdf0d570e735531d9fa7ac2", func := "gatepost/gatepostlaw06.TokenBytes", spec := "tokenBytes", unfollowed := true, recurses := true, named := ["gatepost/code.placesOfUint", "gatepost/code.placesOfU32"], apart := false, laid := [("gatepost/code.placesOfU32", laid_gatepost_code_placesOfU32), ("gatepost/code.placesOfUint", laid_gatepost_code_placesOfUint)], narrowed := true }
def TokenBytesUptoSaid : Prop := tokenBytesUptoRow.holds Tryd.pinned (OpenSpec.upto tokenBytesSpec)

/-- 'gatepostlaw06.TokenLives', WHERE WHAT IT READS IS OF BULK AT MOST 1048576: true; the input reads as it did. -/
def tokenLivesUptoRow : OpenClaim := { program := "ytaomigfmjglggaadoor", sum := "f1698e20e3982b5387c15acd1aca89ab226d8e561fdf0d570e735531d9fa7ac2", func := "gatepost/gatepostlaw06.TokenLives", spec := "tokenLives", unfollowed := true, recurses := true, named := ["gatepost/code.placesOfUint", "gatepost/code.placesOfU32"], apart := false, laid := [("gatepost/code.placesOfU32", laid_gatepost_code_placesOfU32), ("gatepost/code.placesOfUint", laid_gatepost_code_placesOfUint)], narrowed := true }
def TokenLivesUptoSaid : Prop := tokenLivesUptoRow.holds Tryd.pinned (OpenSpec.upto tokenLivesSpec)

/-- 'gatepostlaw06.TokenFields', WHERE WHAT IT READS IS OF BULK AT MOST 1048576: true; the input reads as it did. -/
def tokenFieldsUptoRow : OpenClaim := { program := "ytaomigfmjglggaadoor", sum := "f1698e20e3982b5387c15acd1aca89ab226d8e561fdf0d570e735531d9fa7ac2", func := "gatepost/gatepostlaw06.TokenFields", spec := "tokenFields", unfollowed := true, recurses := true, named := ["gatepost/code.placesOfUint", "gatepost/code.placesOfU32"], apart := false, laid := [("gatepost/code.placesOfU32", laid_gatepost_code_placesOfU32), ("gatepost/code.placesOfUint", laid_gatepost_code_placesOfUint)], narrowed := true }
def TokenFieldsUptoSaid : Prop := tokenFieldsUptoRow.holds Tryd.pinned (OpenSpec.upto tokenFieldsSpec)

/-- 'gatepostlaw06.TokenBack', WHERE WHAT IT READS IS OF BULK AT MOST 1048576: true; the input reads as it did. -/
def tokenBackUptoRow : OpenClaim := { program := "ytaomigfmjglggaadoor", sum := "f1698e20e3982b5387c15acd1aca89ab226d8e561fdf0d570e735531d9fa7ac2", func := "gatepost/gatepostlaw06.TokenBack", spec := "tokenBack", unfollowed := true, recurses := true, named := ["gatepost/code.placesOfUint", "gatepost/code.placesOfU32"], apart := false, laid := [("gatepost/code.placesOfU32", laid_gatepost_code_placesOfU32), ("gatepost/code.placesOfUint", laid_gatepost_code_placesOfUint)], narrowed := true }
def TokenBackUptoSaid : Prop := tokenBackUptoRow.holds Tryd.pinned (OpenSpec.upto tokenBackSpec)

/-- 'gatepostlaw06.TokenRings', WHERE WHAT IT READS IS OF BULK AT MOST 1048576: true; the input reads as it did. -/
def tokenRingsUptoRow : OpenClaim := { program := "ytaomigfmjglggaadoor", sum := "f1698e20e3982b5387c15acd1aca89ab226d8e561fdf0d570e735531d9fa7ac2", func := "gatepost/gatepostlaw06.TokenRings", spec := "tokenRings", unfollowed := true, recurses := true, named := ["gatepost/code.placesOfUint", "gatepost/code.placesOfU32"], apart := false, laid := [("gatepost/code.placesOfU32", laid_gatepost_code_placesOfU32), ("gatepost/code.placesOfUint", laid_gatepost_code_placesOfUint)], narrowed := true }
def TokenRingsUptoSaid : Prop := tokenRingsUptoRow.holds Tryd.pinned (OpenSpec.upto tokenRingsSpec)

end Rows
end Go.Proofs.YtaomigfmjglggaaDoor
