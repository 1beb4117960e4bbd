/- The answers' functions in written-out form, case by case: what the laws of the answers call. -/
import Derived.Test.YtafmgoekgijfgaaGreatDoorAAnOne
import Derived.Test.YtafmgoekgijfgaaGreatDoorAAnSim
import Derived.Test.YtafmgoekgijfgaaGreatDoorAAnBytes
import Derived.Test.YtafmgoekgijfgaaGreatDoorAAnRSame
import Derived.Test.YtafmgoekgijfgaaGreatDoorARqM9
namespace Go.Proofs.YtafmgoekgijfgaaGreatDoor
open Go.RowKit Go.Lib

theorem mayA_fit {x : An} (h : mayAB x = true) : fitP x.heads x.body = true := by
 unfold mayAB at h
 rw [Bool.and_eq_true] at h
 exact h.2
def ByOk (w : World) (l : List UInt8) (k : Int) (e : Ending) (w' : World) : Prop := (∃ (a : Option Addr) (n c : Nat), e = .returned (.tuple #[.slice a n c, .int .i64 k]) ∧ GAt KB w' (.slice a n c) l) ∧ Below w.heap.size w w'
theorem abyt_okC {x : An} (h : mayAB x = true) (c : Int) (ha : Option Addr) (hn hc : Nat) (ba : Option Addr) (bn bc : Nat) (w : World) (hr : AnsAt w ⟨c, ⟨ha, hn, hc⟩, ⟨ba, bn, bc⟩⟩ x) (hE : Env w) (hT : EnvT w) : Calls Tryz.prog 31 #[.agg #[.int .i64 c, .slice ha hn hc, .slice ba bn bc]] w (ByOk w (wrtP (rawA x)) 0) := by
 have hm := (fit_may (mayA_fit h)).1
 have hl := mayH_len hm
 have k := abytes_any c ha hn hc ba bn bc x w hr (good_fits hm) (by omega) hE hT
 unfold AByPost at k
 rw [h, if_pos rfl, if_pos rfl] at k
 exact k
theorem abyt_noC {x : An} (h : mayAB x = false) (c : Int) (ha : Option Addr) (hn hc : Nat) (ba : Option Addr) (bn bc : Nat) (w : World) (hr : AnsAt w ⟨c, ⟨ha, hn, hc⟩, ⟨ba, bn, bc⟩⟩ x) (hf : Fits x.heads) (hl : x.heads.length ≤ 1000) (hE : Env w) (hT : EnvT w) : Calls Tryz.prog 31 #[.agg #[.int .i64 c, .slice ha hn hc, .slice ba bn bc]] w (ByOk w [] 1) := by
 have k := abytes_any c ha hn hc ba bn bc x w hr hf hl hE hT
 unfold AByPost at k
 rw [h, if_neg Bool.false_ne_true, if_neg Bool.false_ne_true] at k
 exact k
end Go.Proofs.YtafmgoekgijfgaaGreatDoor
