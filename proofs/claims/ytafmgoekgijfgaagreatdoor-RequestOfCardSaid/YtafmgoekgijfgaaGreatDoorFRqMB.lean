/- How great a request's texts are, as they come in; the wrap that hands that on. How great a request's five texts are, as they come in. What the condition gives of math/bits' table. -/
import Derived.Test.YtafmgoekgijfgaaGreatDoorFRqM6
import Derived.SizedLaws
import Derived.Test.YtafmgoekgijfgaaGreatDoorFRqHex
import Derived.Lib.LaidTab
import Derived.Lib.TrailingZeros
namespace Go.Proofs.YtafmgoekgijfgaaGreatDoor
open Go.ChangeShapes Go.WideShapes Go.ChangeAt Go.RowKit

section
variable {H : Type} {enc : TypeId × Value → H}
end
end Go.Proofs.YtafmgoekgijfgaaGreatDoor
namespace Go.Proofs.YtafmgoekgijfgaaGreatDoor
open Go.ChangeShapes Go.WideShapes Go.ChangeAt Go.RowKit

end Go.Proofs.YtafmgoekgijfgaaGreatDoor
namespace Go.Proofs.YtafmgoekgijfgaaGreatDoor
open Go.ChangeShapes Go.WideShapes Go.ChangeAt Go.RowKit

def zs64 : List Int := Lib.deBruijn64tab.map fun n : Nat => (n : Int)
theorem laid64 : (Rows.laid_math_bits_deBruijn64tab : DataW Unit) = Lib.tabData .u8 zs64 := by kernel_rfl
theorem gT64 : Tryz.prog.globalNamed "math/bits.deBruijn64tab" = some 8 := by kernel_rfl
theorem tT64 : (Tryz.prog.globals[8]?).map (·.type) = some 241 := by kernel_rfl
theorem envT_of_laid {W : World} (h : laidMetH Tryz.prog laidL W) : EnvT W := by
 rw [MakeChecks.laidMetH_plain _ _ _ (by kernel_rfl)] at h
 obtain ⟨ps, ⟨g0, t0, cs0, f0, p0, q0, hg0, ht0, hv0, hd0, ⟨g1, t1, cs1, f1, p1, q1, hg1, ht1, hv1, hd1, _⟩, _⟩, _⟩ := h
 obtain rfl := Option.some.inj (gT64.symm.trans hg1)
 obtain rfl := Option.some.inj (tT64.symm.trans ht1)
 rw [laid64] at hd1
 have e := Lib.cells_of_tab Tryz.underlying241 Tryz.underlying5 (by kernel_rfl) (by kernel_rfl) hd1
 refine ⟨?_⟩
 obtain rfl : cs1 = (zs64.map fun z => Value.int .u8 z).toArray := Array.toList_inj.1 e
 rw [World.var?_cell gT64 hv1 15]
 rfl
theorem env_of_laid3 {W : World} (h : laidMetH Tryz.prog laidL W) : (Env W ∧ EnvS W) ∧ EnvT W := ⟨env_of_laid h, envT_of_laid h⟩
end Go.Proofs.YtafmgoekgijfgaaGreatDoor
