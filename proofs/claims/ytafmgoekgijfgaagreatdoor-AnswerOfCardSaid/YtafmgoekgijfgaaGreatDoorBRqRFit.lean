/- The document's fits. -/
import Derived.Test.YtafmgoekgijfgaaGreatDoorBHdRefM
import Derived.Test.YtafmgoekgijfgaaGreatDoorBHdRef
import Derived.Test.YtafmgoekgijfgaaGreatDoorBRqM1
namespace Go.Proofs.YtafmgoekgijfgaaGreatDoor
open Go.RowKit Go.Lib

abbrev bdC (a b c : Int) : Obj := .cells #[.int .i64 a, .int .i64 b, .int .i64 c] 79
theorem bdC_box (w : World) (a b c : Int) : (w.alloc (bdC a b c)).heap[w.heap.size]? = some (.cells #[.int .i64 a, .int .i64 b, .int .i64 c] 79 (0, 0)) := heap_alloc_new w _
theorem fit_of (h : List Hd) (body : List UInt8) {e c k n : Nat} (hf : framP h = (e, ⟨c, k, n⟩)) : fitP h body = (decide (e = 0) && mayH h && decide (body.length ≤ 1024) && (decide (c = 1) || decide (body.length = n))) := by
 unfold fitP
 rw [hf]
end Go.Proofs.YtafmgoekgijfgaaGreatDoor
