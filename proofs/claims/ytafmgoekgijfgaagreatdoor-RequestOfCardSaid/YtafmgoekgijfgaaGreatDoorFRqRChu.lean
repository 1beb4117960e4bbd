/- The document's chunks. -/
import Derived.Test.YtafmgoekgijfgaaGreatDoorFRqM2
import Derived.Test.YtafmgoekgijfgaaGreatDoorFRqFeed
import Derived.Test.YtafmgoekgijfgaaGreatDoorFRqM1
import Derived.Test.YtafmgoekgijfgaaGreatDoorFRqPiece
import Derived.Test.YtafmgoekgijfgaaGreatDoorFPhRef
import Derived.Test.YtafmgoekgijfgaaGreatDoorFRqBrow
namespace Go.Proofs.YtafmgoekgijfgaaGreatDoor
open Go.RowKit Go.Lib

def stopM (e : Nat) : MR := if e = 0 then .more else .bad e
def msgA (s : ByteArray) (ha : Option Addr) (hn hc : Nat) (ba : Option Addr) (bn bc : Nat) (at_ : Int) (ok : Bool) (c : Nat) : Value := .tuple #[.agg #[.string s, .slice ha hn hc, .slice ba bn bc], .int .i64 at_, .bool ok, .int .i64 (c : Int)]
/-- What it answers: the message so far, where the next one begins, whether it is whole, the fault. -/
def MPost (w : World) (s : ByteArray) (ha : Option Addr) (hn hc n : Nat) (R : MR) (e : Ending) (w' : World) : Prop := (match R with
 | .more => ∃ ba bn bc, e = .returned (msgA s ha hn hc ba bn bc 0 false 0)
 | .bad c => ∃ ba bn bc, e = .returned (msgA s ha hn hc ba bn bc 0 false c)
 | .msg x q => ∃ ba bc, e = .returned (msgA s ha hn hc ba x.body.length bc ((n - q.length : Nat) : Int) true 0) ∧ GRow KB w' w.heap.size (.slice ba x.body.length bc) x.body) ∧ Below w.heap.size w w'
theorem MPost.stop {w w' : World} {s : ByteArray} {ha : Option Addr} {hn hc n : Nat} {c : Nat} (ba : Option Addr) (bn bc : Nat) (hb : Below w.heap.size w w') : MPost w s ha hn hc n (stopM c) (.returned (msgA s ha hn hc ba bn bc 0 false c)) w' := by
 unfold MPost stopM
 refine ⟨?_, hb⟩
 by_cases h : c = 0
 · subst h; exact ⟨_, _, _, rfl⟩
 · rw [if_neg h]; exact ⟨_, _, _, rfl⟩
theorem MPost.whole {w w' : World} {s : ByteArray} {ha : Option Addr} {hn hc n : Nat} {x : Rw} {q : List UInt8} (ba : Option Addr) (bc k : Nat) (hk : n - q.length = k) (hr : GRow KB w' w.heap.size (.slice ba x.body.length bc) x.body) (hb : Below w.heap.size w w') : MPost w s ha hn hc n (.msg x q) (.returned (msgA s ha hn hc ba x.body.length bc (k : Int) true 0)) w' := by
 subst hk
 exact ⟨⟨_, _, rfl, hr⟩, hb⟩
theorem QBox.put {W : World} {g : Nat} {s s' : ByteArray} {h b h' b' : Value} (q : QBox W g s h b) : QBox (W.setRow g #[.string s', h', b']) g s' h' b' := setRow_heap _ _ _ _ _ (0, 0) q
theorem QBox.new (w : World) (s : ByteArray) (h b : Value) : QBox (w.alloc (rawC s h b)) w.heap.size s h b := heap_alloc_new w _
theorem cat_ch (W : World) (B : Nat) (v : Value) (l : List UInt8) (h : GRow KB W B v l) (sv : Value) (m : List UInt8) (hs : GAt KB W sv m) (hl : l.length + m.length ≤ 1000000) (hB : B ≤ W.heap.size) :
   ∃ a c w', (Builtin.append_ #[22, 22] 22 #[v, sv]).run Tryz.prog W = .ok (.slice a (l ++ m).length c) w' ∧ GRow KB w' B (.slice a (l ++ m).length c) (l ++ m) ∧ Below B W w' := by
 have hm : (1000000 : Nat) ≤ maxLen := by decide
 obtain ⟨v', w', h1, h2, h3, _⟩ := append_g (K := KB) (P := Tryz.prog) 22 (.int .u8 0) 1 Tryz.underlying22 infoB rfl W B v l h sv m hs (by omega) (by omega) hB
 obtain ⟨a, c, e⟩ := h2.gAt.len
 subst e
 exact ⟨a, c, w', h1, h2, h3.below (fun k hk => h.ge hk) hB⟩
end Go.Proofs.YtafmgoekgijfgaaGreatDoor
