/- The document's Read. -/
import Derived.Test.YtafmgoekgijfgaaGreatDoorYRqM2
import Derived.Test.YtafmgoekgijfgaaGreatDoorYHdRef
import Derived.Test.YtafmgoekgijfgaaGreatDoorYRqM3
import Derived.Deep.RegionWith
import Derived.Deep.RegionHeld3
import Derived.Deep.CutBlock
import Derived.Deep.DeepCutAuto
import Derived.StillTailTactics
namespace Go.Proofs.YtafmgoekgijfgaaGreatDoor
open Go.RowKit Go.Lib

theorem HBox.put {W : World} {g : Nat} {s t : ByteArray} (h : HBox W g s t) (x y : ByteArray) : HBox (W.setRow g #[.string x, .string y]) g x y := setRow_heap _ _ _ _ _ (0, 0) h
end Go.Proofs.YtafmgoekgijfgaaGreatDoor
