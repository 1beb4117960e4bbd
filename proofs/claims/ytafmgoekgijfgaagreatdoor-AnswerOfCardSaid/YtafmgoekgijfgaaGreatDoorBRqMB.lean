/- How great a request's texts are, as they come in; the wrap that hands that on. How great a request's five texts are, as they come in. What the condition gives of math/bits' table. -/
import Derived.Test.YtafmgoekgijfgaaGreatDoorBRqM6
import Derived.SizedLaws
import Derived.Test.YtafmgoekgijfgaaGreatDoorBRqHex
import Derived.Lib.LaidTab
import Derived.Lib.TrailingZeros
namespace Go.Proofs.YtafmgoekgijfgaaGreatDoor
open Go.ChangeShapes Go.WideShapes Go.ChangeAt Go.RowKit

section
variable {H : Type} {enc : TypeId × Value → H}
end
end Go.Proofs.YtafmgoekgijfgaaGreatDoor
namespace Go.Proofs.YtafmgoekgijfgaaGreatDoor
open Go.ChangeShapes Go.WideShapes Go.ChangeAt Go.RowKit

end Go.Proofs.YtafmgoekgijfgaaGreatDoor
namespace Go.Proofs.YtafmgoekgijfgaaGreatDoor
open Go.ChangeShapes Go.WideShapes Go.ChangeAt Go.RowKit

def zs64 : List Int := Lib.deBruijn64tab.map fun n : Nat => (n : Int)
theorem laid64 : (Rows.laid_math_bits_deBruijn64tab : DataW Unit) = Lib.tabData .u8 zs64 := by kernel_rfl
theorem gT64 : Tryz.prog.globalNamed "math/bits.deBruijn64tab" = some 8 := by kernel_rfl
theorem tT64 : (Tryz.prog.globals[8]?).map (·.type) = some 241 := by kernel_rfl
end Go.Proofs.YtafmgoekgijfgaaGreatDoor
