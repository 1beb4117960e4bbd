/- RequestOf: whether any message is a request; its bytes. -/
import Derived.Test.YtafmgoekgijfgaaGreatDoorYRqM7
import Derived.Test.YtafmgoekgijfgaaGreatDoorYRqM9
import Derived.Test.YtafmgoekgijfgaaGreatDoorYRqMA
import Derived.Test.YtafmgoekgijfgaaGreatDoorYRqRWr
namespace Go.Proofs.YtafmgoekgijfgaaGreatDoor
open Go.RowKit Go.Lib

def WrBoth (w : World) (y : List UInt8) (last : Value) (e : Ending) (w' : World) : Prop := (∃ (a : Option Addr) (n c : Nat), e = .returned (.tuple #[.slice a n c, last]) ∧ GAt KB w' (.slice a n c) y) ∧ Below w.heap.size w w'
theorem rwrite_both (s : ByteArray) (ha : Option Addr) (hn hc : Nat) (ba : Option Addr) (bn bc : Nat) (x : Rw) (w : World) (hr : RawAt w ⟨s, ⟨ha, hn, hc⟩, ⟨ba, bn, bc⟩⟩ x) (hf : Fits x.heads) (hs0 : s.size ≤ 900000) (hl : x.heads.length ≤ 1000) {y : List UInt8} (hy : y = if wrtB x = true then wrtP x else []) : Calls Tryz.prog 16 #[.agg #[.string s, .slice ha hn hc, .slice ba bn bc]] w (WrBoth w y (.bool (wrtB x))) := by
 refine (rwrite_any s ha hn hc ba bn bc x w hr hf hs0 hl).mono ?_
 unfold RWrPost WrBoth
 by_cases hw : wrtB x = true
 · rw [if_pos hw] at hy
   subst hy
   rintro e w' ⟨h, hB⟩
   rw [if_pos hw] at h
   obtain ⟨a, n, c, rfl, hr⟩ := h
   rw [hw]
   exact ⟨⟨a, n, c, rfl, hr⟩, hB⟩
 · rw [if_neg hw] at hy
   subst hy
   rintro e w' ⟨h, hB⟩
   rw [if_neg hw] at h
   subst h
   rw [Bool.eq_false_iff.2 hw]
   exact ⟨⟨none, 0, 0, rfl, GAt.nil w'⟩, hB⟩
end Go.Proofs.YtafmgoekgijfgaaGreatDoor
