/- The laws' long. -/
import Derived.Test.YtfpdcokdponojaaGreatDoorRqOwn
import Derived.Test.YtfpdcokdponojaaGreatDoorHdLong
namespace Go.Proofs.YtfpdcokdponojaaGreatDoor
open Go.RowKit Go.Lib

/-- Is a message more than is gone through? -/
def lngP (s : Nat) (b : Nat) (h : List Hd) : Bool := decide (2000 < s) || decide (3000 < b) || longP h
theorem lngP_no {s b : Nat} {h : List Hd} (e : lngP s b h = false) : s ≤ 2000 ∧ b ≤ 3000 ∧ longP h = false := by
  unfold lngP at e
  simp only [Bool.or_eq_false_iff, decide_eq_false_iff_not] at e
  exact ⟨by omega, by omega, e.2⟩
set_option maxRecDepth 100000 in
set_option maxHeartbeats 1000000 in
theorem rlong_any (s : ByteArray) (ha : Option Addr) (hn hc : Nat) (ba : Option Addr) (bn bc : Nat) (h : List Hd) (w : World) (gh : GAt KH w (.slice ha hn hc) h) : Calls Tryz.prog 21 #[.agg #[.string s, .slice ha hn hc, .slice ba bn bc]] w (fun e w' => e = .returned (.bool (lngP s.size bn h)) ∧ Below w.heap.size w w') := by
  have hq : QBox (w.alloc (rawC s (.slice ha hn hc) (.slice ba bn bc))) w.heap.size s (.slice ha hn hc) (.slice ba bn bc) := heap_alloc_new w _
  have HB1 := hideL ((Below.refl w.heap.size w).alloc (Nat.le_refl _) (rawC s (.slice ha hn hc) (.slice ba bn bc)))
  have LL := hideL (long_any (.slice ha hn hc) h _ (gh.below HB1.out))
  have y0 := hq.c0
  have y1 := hq.c1
  have y2 := hq.c2
  unfold lngP
  clear hq gh
  by_cases h1 : 2000 < s.size
  · have i1 : (2000 : Int) < (s.size : Int) := by omega
    rw [decide_eq_true h1]
    clear h1
    go_enter Tryz.func21, Tryz.ntmps21
    go_wp2_with fail
    go_ret
    exact ⟨rfl, HB1.out⟩
  have i1 : ¬ (2000 : Int) < (s.size : Int) := by omega
  rw [decide_eq_false h1]
  by_cases h2 : 3000 < bn
  · have i2 : (3000 : Int) < (bn : Int) := by omega
    rw [decide_eq_true h2]
    clear h1 h2
    go_enter Tryz.func21, Tryz.ntmps21
    go_wp2_with fail
    go_ret
    exact ⟨rfl, HB1.out⟩
  have i2 : ¬ (3000 : Int) < (bn : Int) := by omega
  rw [decide_eq_false h2]
  clear h1 h2
  go_enter Tryz.func21, Tryz.ntmps21
  go_wp2_with (go_at_call 37; refine LL.out.mono ?_; rintro e w2 ⟨rfl, hB⟩; have HB2 := hideL (HB1.out.trans (hB.mono HB1.out.size)); clear hB)
  go_ret
  exact ⟨by simp, HB2.out⟩
end Go.Proofs.YtfpdcokdponojaaGreatDoor
