/- slices.Equal at headers. The program's Same. One, Of, Feed, Same in written-out form, case by case: what the laws of the requests call. May, and Bytes. -/
import Derived.Test.YtafmgoekgijfgaaGreatDoorFHdRefT
import Derived.Test.YtafmgoekgijfgaaGreatDoorFRqSame
import Derived.Test.YtafmgoekgijfgaaGreatDoorFRqM4
import Derived.Test.YtafmgoekgijfgaaGreatDoorFRqOne
import Derived.Test.YtafmgoekgijfgaaGreatDoorFRqPiece
import Derived.Test.YtafmgoekgijfgaaGreatDoorFRqM1
import Derived.Test.YtafmgoekgijfgaaGreatDoorFRqM8
namespace Go.Proofs.YtafmgoekgijfgaaGreatDoor
open Go.RowKit Go.Lib

end Go.Proofs.YtafmgoekgijfgaaGreatDoor
namespace Go.Proofs.YtafmgoekgijfgaaGreatDoor
open Go.RowKit Go.Lib

end Go.Proofs.YtafmgoekgijfgaaGreatDoor
namespace Go.Proofs.YtafmgoekgijfgaaGreatDoor
open Go.RowKit Go.Lib

def OneOk (w : World) (q : Rq) (e : Ending) (w' : World) : Prop := (∃ (m t p r o : ByteArray) (ha : Option Addr) (hn hc : Nat) (ba : Option Addr) (bn bc : Nat), e = .returned (.tuple #[.agg #[.string m, .string t, .string p, .string r, .string o, .slice ha hn hc, .slice ba bn bc], .int .i64 0]) ∧ ReqAt w' ⟨m, t, p, r, o, ⟨ha, hn, hc⟩, ⟨ba, bn, bc⟩⟩ q ∧ ReqGe w.heap.size ⟨m, t, p, r, o, ⟨ha, hn, hc⟩, ⟨ba, bn, bc⟩⟩) ∧ Below w.heap.size w w'
abbrev rqN (n : Int) : Value := .tuple #[.agg #[.string ⟨#[]⟩, .string ⟨#[]⟩, .string ⟨#[]⟩, .string ⟨#[]⟩, .string ⟨#[]⟩, .slice none 0 0, .slice none 0 0], .int .i64 n]
theorem of_okC {x : Rw} {q : Rq} (h : ofRP x = some q) (s : ByteArray) (ra : Option Addr) (rn rc : Nat) (sa : Option Addr) (sn sc : Nat) (w : World) (hr : RawAt w ⟨s, ⟨ra, rn, rc⟩, ⟨sa, sn, sc⟩⟩ x) (hf : Fits x.heads) (hs0 : s.size ≤ 1000000) (hl : x.heads.length ≤ 1000) (hbl : x.body.length ≤ 1000000) (hE : Env w) (hS : EnvS w) :
   Calls Tryz.prog 13 #[.agg #[.string s, .slice ra rn rc, .slice sa sn sc]] w (OneOk w q) := by
 refine (of_any ⟨s, ⟨ra, rn, rc⟩, ⟨sa, sn, sc⟩⟩ x w hr hf hs0 hl hbl hE hS).mono ?_
 unfold OfPost
 rw [h]
 rintro e w' ⟨⟨⟨m, t, p, r, o, ⟨ha, hn, hc⟩, ⟨ba, bn, bc⟩⟩, rfl, h1, h2⟩, hB⟩
 exact ⟨⟨m, t, p, r, o, ha, hn, hc, ba, bn, bc, rfl, h1, h2⟩, hB⟩
theorem of_badC {x : Rw} (h : ofRP x = none) (s : ByteArray) (ra : Option Addr) (rn rc : Nat) (sa : Option Addr) (sn sc : Nat) (w : World) (hr : RawAt w ⟨s, ⟨ra, rn, rc⟩, ⟨sa, sn, sc⟩⟩ x) (hf : Fits x.heads) (hs0 : s.size ≤ 1000000) (hl : x.heads.length ≤ 1000) (hbl : x.body.length ≤ 1000000) (hE : Env w) (hS : EnvS w) :
   Calls Tryz.prog 13 #[.agg #[.string s, .slice ra rn rc, .slice sa sn sc]] w (fun e w' => e = .returned (rqN 2) ∧ Below w.heap.size w w') := by
 refine (of_any ⟨s, ⟨ra, rn, rc⟩, ⟨sa, sn, sc⟩⟩ x w hr hf hs0 hl hbl hE hS).mono ?_
 unfold OfPost
 rw [h]
 rintro e w' ⟨rfl, hB⟩
 exact ⟨rfl, hB⟩
end Go.Proofs.YtafmgoekgijfgaaGreatDoor
namespace Go.Proofs.YtafmgoekgijfgaaGreatDoor
open Go.RowKit Go.Lib

abbrev rqQ (m t p q o : ByteArray) (h b : Value) : Obj := .cells #[.string m, .string t, .string p, .string q, .string o, h, b] 26
theorem rq_box (w : World) (m t p q o : ByteArray) (h b : Value) : RBox7 26 (w.alloc (rqQ m t p q o h b)) w.heap.size (.string m) (.string t) (.string p) (.string q) (.string o) h b := heap_alloc_new w _
end Go.Proofs.YtafmgoekgijfgaaGreatDoor
