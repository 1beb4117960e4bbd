/-
  No cell of these rows narrows 'for every input' (looked for: loops, veiled, ifaces, maps, wideKeys, modest, calm, conditions, laid).
  DERIVED. THE GIVEN ROWS OF THIS SEAT. 5 by the template 'for every input the law returns true; each argument reads behind the call as it read before'; 0 by the template 'total and deterministic' (their statements: YtffbmkocmjpmeaaTotals.lean).
  GIVEN WITH THE SEED: the statements are not yours to turn. If you find one false, say at which input.
  Laid BY PROGRAM, IN A SANDBOX (cutbox-rows.mjs): the forced cells as the released guide's own fill.sh prints them over the translation c2d000dedd1e3f49… (all of the seat's roots in one cut). By AI agents, Wed Nov 11 2026. No macro, syntax, notation, axiom, sorry.
-/
import Derived.Test.YtffbmkocmjpmeaaChecked
import GoSem.Claim
import GoSem.ClaimJoined
import GoSem.ClaimMapViews
import Derived.JoinedTies
import Derived.KernelRfl
namespace Go.Proofs.Ytffbmkocmjpmeaa
/- THE CELL 'sum', in the pinned program and in every row, IS THE sha256 OF THE DUMP (.gsa) THAT YtffbmkocmjpmeaaProg.lean LOADS. Nothing in Lean hashes anything: it is a label: what it is worth is what the hold of that sum in a sandbox is worth. -/
noncomputable def Try.pinned : Pinned := { name := "ytffbmkocmjpmeaa", sum := "c2d000dedd1e3f49f8da4526fed25ceb09da88dad2a46ce304c9ef868c10f617", checked := Try.checked }
namespace Rows
def none {H : Type} : Left H := { results := [], args := [] }

/-- 'gatepostlaw07.MatchTerms': WHATEVER THE INPUT: true; the input reads as it did. -/
def matchTermsSpec : ChangeSpec := { name := "matchTerms", fn := fun _ => fun
  | [d1, d2, d3] => { results := [.lit (.bool true)], args := [d1, d2, d3] }
  | _ => none }
def matchTermsRow : OpenClaim := { program := "ytffbmkocmjpmeaa", sum := "c2d000dedd1e3f49f8da4526fed25ceb09da88dad2a46ce304c9ef868c10f617", func := "gatepost/gatepostlaw07.MatchTerms", spec := "matchTerms", inPlace := ["internal/bytealg.IndexByteString"], unfollowed := true, recurses := true, apart := false }
def MatchTermsSaid : Prop := matchTermsRow.holds Try.pinned (OpenSpec.ofChange matchTermsSpec)

/-- ITS FALSE NEIGHBOUR: 'it returns false'. Refute it at one input. -/
def matchTermsWrong : ChangeSpec := { name := "matchTerms", fn := fun _ => fun
  | [d1, d2, d3] => { results := [.lit (.bool false)], args := [d1, d2, d3] }
  | _ => none }
def MatchTermsWrongFalsely : Prop := matchTermsRow.holds Try.pinned (OpenSpec.ofChange matchTermsWrong)

/-- 'gatepostlaw07.MatchImplies': WHATEVER THE INPUT: true; the input reads as it did. -/
def matchImpliesSpec : ChangeSpec := { name := "matchImplies", fn := fun _ => fun
  | [d1, d2] => { results := [.lit (.bool true)], args := [d1, d2] }
  | _ => none }
def matchImpliesRow : OpenClaim := { program := "ytffbmkocmjpmeaa", sum := "c2d000dedd1e3f49f8da4526fed25ceb09da88dad2a46ce304c9ef868c10f617", func := "gatepost/gatepostlaw07.MatchImplies", spec := "matchImplies", inPlace := ["internal/bytealg.IndexByteString"], unfollowed := true, recurses := true, apart := false }
def MatchImpliesSaid : Prop := matchImpliesRow.holds Try.pinned (OpenSpec.ofChange matchImpliesSpec)

/-- ITS FALSE NEIGHBOUR: 'it returns false'. Refute it at one input. -/
def matchImpliesWrong : ChangeSpec := { name := "matchImplies", fn := fun _ => fun
  | [d1, d2] => { results := [.lit (.bool false)], args := [d1, d2] }
  | _ => none }
def MatchImpliesWrongFalsely : Prop := matchImpliesRow.holds Try.pinned (OpenSpec.ofChange matchImpliesWrong)

/-- 'gatepostlaw07.MatchGoesOn': WHATEVER THE INPUT: true; the input reads as it did. -/
def matchGoesOnSpec : ChangeSpec := { name := "matchGoesOn", fn := fun _ => fun
  | [d1, d2, d3, d4] => { results := [.lit (.bool true)], args := [d1, d2, d3, d4] }
  | _ => none }
def matchGoesOnRow : OpenClaim := { program := "ytffbmkocmjpmeaa", sum := "c2d000dedd1e3f49f8da4526fed25ceb09da88dad2a46ce304c9ef868c10f617", func := "gatepost/gatepostlaw07.MatchGoesOn", spec := "matchGoesOn", inPlace := ["internal/bytealg.IndexByteString"], unfollowed := true, recurses := true, apart := false }
def MatchGoesOnSaid : Prop := matchGoesOnRow.holds Try.pinned (OpenSpec.ofChange matchGoesOnSpec)

/-- ITS FALSE NEIGHBOUR: 'it returns false'. Refute it at one input. -/
def matchGoesOnWrong : ChangeSpec := { name := "matchGoesOn", fn := fun _ => fun
  | [d1, d2, d3, d4] => { results := [.lit (.bool false)], args := [d1, d2, d3, d4] }
  | _ => none }
def MatchGoesOnWrongFalsely : Prop := matchGoesOnRow.holds Try.pinned (OpenSpec.ofChange matchGoesOnWrong)

/-- 'gatepostlaw07.MatchRows': WHATEVER THE INPUT: true; the input reads as it did. -/
def matchRowsSpec : ChangeSpec := { name := "matchRows", fn := fun _ => fun
  | [d1, d2, d3] => { results := [.lit (.bool true)], args := [d1, d2, d3] }
  | _ => none }
def matchRowsRow : OpenClaim := { program := "ytffbmkocmjpmeaa", sum := "c2d000dedd1e3f49f8da4526fed25ceb09da88dad2a46ce304c9ef868c10f617", func := "gatepost/gatepostlaw07.MatchRows", spec := "matchRows", inPlace := ["internal/bytealg.IndexByteString"], unfollowed := true, recurses := true, apart := false }
def MatchRowsSaid : Prop := matchRowsRow.holds Try.pinned (OpenSpec.ofChange matchRowsSpec)

/-- ITS FALSE NEIGHBOUR: 'it returns false'. Refute it at one input. -/
def matchRowsWrong : ChangeSpec := { name := "matchRows", fn := fun _ => fun
  | [d1, d2, d3] => { results := [.lit (.bool false)], args := [d1, d2, d3] }
  | _ => none }
def MatchRowsWrongFalsely : Prop := matchRowsRow.holds Try.pinned (OpenSpec.ofChange matchRowsWrong)

/-- 'gatepostlaw07.MatchBack': WHATEVER THE INPUT: true; the input reads as it did. -/
def matchBackSpec : ChangeSpec := { name := "matchBack", fn := fun _ => fun
  | [d1, d2, d3] => { results := [.lit (.bool true)], args := [d1, d2, d3] }
  | _ => none }
def matchBackRow : OpenClaim := { program := "ytffbmkocmjpmeaa", sum := "c2d000dedd1e3f49f8da4526fed25ceb09da88dad2a46ce304c9ef868c10f617", func := "gatepost/gatepostlaw07.MatchBack", spec := "matchBack", inPlace := ["internal/bytealg.IndexByteString"], unfollowed := true, recurses := true, apart := false }
def MatchBackSaid : Prop := matchBackRow.holds Try.pinned (OpenSpec.ofChange matchBackSpec)

/-- ITS FALSE NEIGHBOUR: 'it returns false'. Refute it at one input. -/
def matchBackWrong : ChangeSpec := { name := "matchBack", fn := fun _ => fun
  | [d1, d2, d3] => { results := [.lit (.bool false)], args := [d1, d2, d3] }
  | _ => none }
def MatchBackWrongFalsely : Prop := matchBackRow.holds Try.pinned (OpenSpec.ofChange matchBackWrong)

/- THE SECOND FORM. 'bulk': how many values and letters a reading holds, each counted each time it is reached (what is shared counts as often as it is met; a slice's spare places count too). A statement '..UptoSaid' is the law's where the arguments, and the package variables that the reading takes, are together of bulk at most 1048576: NARROWER than '..Said'. Prove '..Said' where nothing that the law and all that it calls make is longer than what came in: it says more and counts as full. Else prove '..UptoSaid'. A law counts once. -/
mutual
def uptoBulk {H : Type} : DataW H → Nat
  | .lit (.string bytes) => bytes.length + 1
  | .lit _ => 1
  | .nil => 1
  | .ptr d => uptoBulk d + 1
  | .slice elems spare => uptoBulkAll elems + uptoBulkAll spare + 1
  | .agg parts => uptoBulkAll parts + 1
  | .iface _ d => uptoBulk d + 1
  | .map entries => uptoBulkEntries entries + 1
  | .held _ => 1
def uptoBulkAll {H : Type} : List (DataW H) → Nat
  | [] => 0
  | d :: r => uptoBulk d + uptoBulkAll r
def uptoBulkEntries {H : Type} : List (Lit × DataW H) → Nat
  | [] => 0
  | x :: r => uptoBulkEntry x + uptoBulkEntries r
def uptoBulkEntry {H : Type} : Lit × DataW H → Nat
  | (.string bytes, d) => bytes.length + uptoBulk d + 1
  | (_, d) => uptoBulk d + 1
 end
def uptoSmall : (H : Type) → List (DataW H) → Bool := fun _ ds => decide (uptoBulkAll ds ≤ 1048576)
def OpenSpec.upto (s : _root_.Go.ChangeSpec) : _root_.Go.OpenSpec := { _root_.Go.OpenSpec.ofChange s with cond := some uptoSmall }

/-- 'gatepostlaw07.MatchTerms', WHERE WHAT IT READS IS OF BULK AT MOST 1048576: true; the input reads as it did. -/
def matchTermsUptoRow : OpenClaim := { program := "ytffbmkocmjpmeaa", sum := "c2d000dedd1e3f49f8da4526fed25ceb09da88dad2a46ce304c9ef868c10f617", func := "gatepost/gatepostlaw07.MatchTerms", spec := "matchTerms", inPlace := ["internal/bytealg.IndexByteString"], unfollowed := true, recurses := true, apart := false, narrowed := true }
def MatchTermsUptoSaid : Prop := matchTermsUptoRow.holds Try.pinned (OpenSpec.upto matchTermsSpec)

/-- 'gatepostlaw07.MatchImplies', WHERE WHAT IT READS IS OF BULK AT MOST 1048576: true; the input reads as it did. -/
def matchImpliesUptoRow : OpenClaim := { program := "ytffbmkocmjpmeaa", sum := "c2d000dedd1e3f49f8da4526fed25ceb09da88dad2a46ce304c9ef868c10f617", func := "gatepost/gatepostlaw07.MatchImplies", spec := "matchImplies", inPlace := ["internal/bytealg.IndexByteString"], unfollowed := true, recurses := true, apart := false, narrowed := true }
def MatchImpliesUptoSaid : Prop := matchImpliesUptoRow.holds Try.pinned (OpenSpec.upto matchImpliesSpec)

/-- 'gatepostlaw07.MatchGoesOn', WHERE WHAT IT READS IS OF BULK AT MOST 1048576: true; the input reads as it did. -/
def matchGoesOnUptoRow : OpenClaim := { program := "ytffbmkocmjpmeaa", sum := "c2d000dedd1e3f49f8da4526fed25ceb09da88dad2a46ce304c9ef868c10f617", func := "gatepost/gatepostlaw07.MatchGoesOn", spec := "matchGoesOn", inPlace := ["internal/bytealg.IndexByteString"], unfollowed := true, recurses := true, apart := false, narrowed := true }
def MatchGoesOnUptoSaid : Prop := matchGoesOnUptoRow.holds Try.pinned (OpenSpec.upto matchGoesOnSpec)

/-- 'gatepostlaw07.MatchRows', WHERE WHAT IT READS IS OF BULK AT MOST 1048576: true; the input reads as it did. -/
def matchRowsUptoRow : OpenClaim := { program := "ytffbmkocmjpmeaa", sum := "c2d000dedd1e3f49f8da4526fed25ceb09da88dad2a46ce304c9ef868c10f617", func := "gatepost/gatepostlaw07.MatchRows", spec := "matchRows", inPlace := ["internal/bytealg.IndexByteString"], unfollowed := true, recurses := true, apart := false, narrowed := true }
def MatchRowsUptoSaid : Prop := matchRowsUptoRow.holds Try.pinned (OpenSpec.upto matchRowsSpec)

/-- 'gatepostlaw07.MatchBack', WHERE WHAT IT READS IS OF BULK AT MOST 1048576: true; the input reads as it did. -/
def matchBackUptoRow : OpenClaim := { program := "ytffbmkocmjpmeaa", sum := "c2d000dedd1e3f49f8da4526fed25ceb09da88dad2a46ce304c9ef868c10f617", func := "gatepost/gatepostlaw07.MatchBack", spec := "matchBack", inPlace := ["internal/bytealg.IndexByteString"], unfollowed := true, recurses := true, apart := false, narrowed := true }
def MatchBackUptoSaid : Prop := matchBackUptoRow.holds Try.pinned (OpenSpec.upto matchBackSpec)

end Rows
end Go.Proofs.Ytffbmkocmjpmeaa
