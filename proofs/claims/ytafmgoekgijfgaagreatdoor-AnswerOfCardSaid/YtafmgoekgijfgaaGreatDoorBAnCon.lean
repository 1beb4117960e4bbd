/- The answers' functions in written-out form, case by case: what the laws of the answers call. -/
import Derived.Test.YtafmgoekgijfgaaGreatDoorBAnOne
import Derived.Test.YtafmgoekgijfgaaGreatDoorBAnSim
import Derived.Test.YtafmgoekgijfgaaGreatDoorBAnBytes
import Derived.Test.YtafmgoekgijfgaaGreatDoorBAnRSame
import Derived.Test.YtafmgoekgijfgaaGreatDoorBHdRefT
import Derived.Test.YtafmgoekgijfgaaGreatDoorBRqM6
import Derived.Test.YtafmgoekgijfgaaGreatDoorBRqFeed
import Derived.Test.YtafmgoekgijfgaaGreatDoorBRqM4
import Derived.Test.YtafmgoekgijfgaaGreatDoorBRqOne
import Derived.Test.YtafmgoekgijfgaaGreatDoorBRqPiece
import Derived.Test.YtafmgoekgijfgaaGreatDoorBRqM1
import Derived.Test.YtafmgoekgijfgaaGreatDoorBRqM8
namespace Go.Proofs.YtafmgoekgijfgaaGreatDoor
open Go.RowKit Go.Lib

theorem mayA_fit {x : An} (h : mayAB x = true) : fitP x.heads x.body = true := by
 unfold mayAB at h
 rw [Bool.and_eq_true] at h
 exact h.2
end Go.Proofs.YtafmgoekgijfgaaGreatDoor
