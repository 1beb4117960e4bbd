/- The document's Message. -/
import Derived.Test.YtafmgoekgijfgaaGreatDoorYRqM2
import Derived.Test.YtafmgoekgijfgaaGreatDoorYRqRChu
import Derived.Test.YtafmgoekgijfgaaGreatDoorYHdRefM
import Derived.Test.YtafmgoekgijfgaaGreatDoorYHdRefR
import Derived.Test.YtafmgoekgijfgaaGreatDoorYRqOwn
namespace Go.Proofs.YtafmgoekgijfgaaGreatDoor
open Go.RowKit Go.Lib

/-- What it answers. -/
def MesPost (w : World) (n : Nat) (R : MR) (e : Ending) (w' : World) : Prop := (match R with
 | .more => ∃ s ha hn hc ba bn bc, e = .returned (msgA s ha hn hc ba bn bc 0 false 0)
 | .bad c => ∃ s ha hn hc ba bn bc, e = .returned (msgA s ha hn hc ba bn bc 0 false c)
 | .msg x q => ∃ ha hc ba bc, e = .returned (msgA (bo x.start) ha x.heads.length hc ba x.body.length bc ((n - q.length : Nat) : Int) true 0) ∧ GRow KH w' w.heap.size (.slice ha x.heads.length hc) x.heads ∧ GRow KB w' w.heap.size (.slice ba x.body.length bc) x.body) ∧ Below w.heap.size w w'
theorem MesPost.stop {w w' : World} {n c : Nat} (s : ByteArray) (ha : Option Addr) (hn hc : Nat) (ba : Option Addr) (bn bc : Nat) (hb : Below w.heap.size w w') : MesPost w n (stopM c) (.returned (msgA s ha hn hc ba bn bc 0 false c)) w' := by
 unfold MesPost stopM
 refine ⟨?_, hb⟩
 by_cases h : c = 0
 · subst h; exact ⟨_, _, _, _, _, _, _, rfl⟩
 · rw [if_neg h]; exact ⟨_, _, _, _, _, _, _, rfl⟩
theorem MesPost.whole {w w' : World} {n : Nat} {t body q : List UInt8} {h : List Hd} (ha : Option Addr) (hc : Nat) (ba : Option Addr) (bc k : Nat) (hk : n - q.length = k) (hh : GRow KH w' w.heap.size (.slice ha h.length hc) h) (hr : GRow KB w' w.heap.size (.slice ba body.length bc) body) (hb : Below w.heap.size w w') : MesPost w n (.msg ⟨t, h, body⟩ q) (.returned (msgA (bo t) ha h.length hc ba body.length bc (k : Int) true 0)) w' := by
 subst hk
 exact ⟨⟨_, _, _, _, rfl, hh, hr⟩, hb⟩
theorem MPost.out {w w' : World} {s : ByteArray} {ha : Option Addr} {hn hc n : Nat} {R : MR} {e : Ending} (h : MPost w s ha hn hc n R e w') : ∃ ba bn bc at_ ok, ∃ c : Nat, e = .returned (.tuple #[.agg #[.string s, .slice ha hn hc, .slice ba bn bc], .int .i64 at_, .bool ok, .int .i64 (c : Int)]) ∧ Below w.heap.size w w' ∧ ((((R = .more ∧ c = 0) ∨ R = .bad c) ∧ at_ = 0 ∧ ok = false) ∨ ∃ x q, R = .msg x q ∧ bn = x.body.length ∧ at_ = ((n - q.length : Nat) : Int) ∧ ok = true ∧ c = 0 ∧ GRow KB w' w.heap.size (.slice ba x.body.length bc) x.body) := by
 obtain ⟨h, hb⟩ := h
 cases R with
 | more => obtain ⟨ba, bn, bc, rfl⟩ := h; exact ⟨_, _, _, _, _, _, rfl, hb, .inl ⟨.inl ⟨rfl, rfl⟩, rfl, rfl⟩⟩
 | bad c => obtain ⟨ba, bn, bc, rfl⟩ := h; exact ⟨_, _, _, _, _, _, rfl, hb, .inl ⟨.inr rfl, rfl, rfl⟩⟩
 | msg x q => obtain ⟨ba, bc, rfl, hr⟩ := h; exact ⟨_, _, _, _, _, _, rfl, hb, .inr ⟨x, q, rfl, rfl, rfl, rfl, rfl, hr⟩⟩
theorem GRow.setH {W : World} {B g i : Nat} {v u : Value} {l : List Hd} (h : GRow KH W B v l) (hg : g < B) : GRow KH (W.setCell ⟨g, i, none⟩ u) B v l := h.keep (Keep.set (F := fun k => k = g) W ⟨g, i, none⟩ u rfl) (fun k hk he => by have := h.ge hk; omega)
end Go.Proofs.YtafmgoekgijfgaaGreatDoor
