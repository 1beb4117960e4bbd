/- One: the one request that bytes are. -/
import Derived.Test.YtafmgoekgijfgaaGreatDoorARqRaws
import Derived.Test.YtafmgoekgijfgaaGreatDoorARqOfP
namespace Go.Proofs.YtafmgoekgijfgaaGreatDoor
open Go.RowKit Go.Lib

theorem row_good (b : List UInt8) : ∀ x ∈ (rowP b).1, goodR x := by
 rw [run_row]
 exact (good_run b live_new good_new).2
theorem row_idle {b : List UInt8} (h : (rowP b).2.1 = true) : (rowP b).2.2 = 0 := by
 rw [run_row] at h ⊢
 unfold idleP at h
 exact (of_decide_eq_true h).1
end Go.Proofs.YtafmgoekgijfgaaGreatDoor
