/- slices.Equal at headers. The program's Same. One, Of, Feed, Same in written-out form, case by case: what the laws of the requests call. May, and Bytes. -/
import Derived.Test.YtafmgoekgijfgaaGreatDoorOHdRefT
import Derived.Test.YtafmgoekgijfgaaGreatDoorORqSame
import Derived.Test.YtafmgoekgijfgaaGreatDoorORqM4
import Derived.Test.YtafmgoekgijfgaaGreatDoorORqOne
import Derived.Test.YtafmgoekgijfgaaGreatDoorORqPiece
import Derived.Test.YtafmgoekgijfgaaGreatDoorORqM1
import Derived.Test.YtafmgoekgijfgaaGreatDoorORqBrow
import Derived.Test.YtafmgoekgijfgaaGreatDoorORqM6
import Derived.Test.YtafmgoekgijfgaaGreatDoorORqM3
import Derived.Test.YtafmgoekgijfgaaGreatDoorORqOwn
import Derived.Test.YtafmgoekgijfgaaGreatDoorORqM5
import Derived.StillTailTactics
namespace Go.Proofs.YtafmgoekgijfgaaGreatDoor
open Go.RowKit Go.Lib

end Go.Proofs.YtafmgoekgijfgaaGreatDoor
namespace Go.Proofs.YtafmgoekgijfgaaGreatDoor
open Go.RowKit Go.Lib

end Go.Proofs.YtafmgoekgijfgaaGreatDoor
namespace Go.Proofs.YtafmgoekgijfgaaGreatDoor
open Go.RowKit Go.Lib

def OneOk (w : World) (q : Rq) (e : Ending) (w' : World) : Prop := (∃ (m t p r o : ByteArray) (ha : Option Addr) (hn hc : Nat) (ba : Option Addr) (bn bc : Nat), e = .returned (.tuple #[.agg #[.string m, .string t, .string p, .string r, .string o, .slice ha hn hc, .slice ba bn bc], .int .i64 0]) ∧ ReqAt w' ⟨m, t, p, r, o, ⟨ha, hn, hc⟩, ⟨ba, bn, bc⟩⟩ q ∧ ReqGe w.heap.size ⟨m, t, p, r, o, ⟨ha, hn, hc⟩, ⟨ba, bn, bc⟩⟩) ∧ Below w.heap.size w w'
theorem one_okC {b : List UInt8} {q : Rq} (h : oneP b = (0, some q)) (v : Value) (w : World) (gv : GAt KB w v b) (hbl : b.length ≤ 200000) (hE : Env w) (hS : EnvS w) : Calls Tryz.prog 9 #[v] w (OneOk w q) := by
 refine (one_any v b w gv hbl hE hS).mono ?_
 unfold OnePost
 rw [h]
 rintro e w' ⟨⟨⟨m, t, p, r, o, ⟨ha, hn, hc⟩, ⟨ba, bn, bc⟩⟩, rfl, h1, h2⟩, hB⟩
 exact ⟨⟨m, t, p, r, o, ha, hn, hc, ba, bn, bc, rfl, h1, h2⟩, hB⟩
abbrev rqN (n : Int) : Value := .tuple #[.agg #[.string ⟨#[]⟩, .string ⟨#[]⟩, .string ⟨#[]⟩, .string ⟨#[]⟩, .string ⟨#[]⟩, .slice none 0 0, .slice none 0 0], .int .i64 n]
theorem one_badC {b : List UInt8} {n : Nat} (h : oneP b = (n, none)) (v : Value) (w : World) (gv : GAt KB w v b) (hbl : b.length ≤ 200000) (hE : Env w) (hS : EnvS w) : Calls Tryz.prog 9 #[v] w (fun e w' => e = .returned (rqN n) ∧ Below w.heap.size w w') := by
 refine (one_any v b w gv hbl hE hS).mono ?_
 unfold OnePost
 rw [h]
 rintro e w' ⟨rfl, hB⟩
 exact ⟨rfl, hB⟩
end Go.Proofs.YtafmgoekgijfgaaGreatDoor
namespace Go.Proofs.YtafmgoekgijfgaaGreatDoor
open Go.RowKit Go.Lib

abbrev rqQ (m t p q o : ByteArray) (h b : Value) : Obj := .cells #[.string m, .string t, .string p, .string q, .string o, h, b] 26
theorem rq_box (w : World) (m t p q o : ByteArray) (h b : Value) : RBox7 26 (w.alloc (rqQ m t p q o h b)) w.heap.size (.string m) (.string t) (.string p) (.string q) (.string o) h b := heap_alloc_new w _
end Go.Proofs.YtafmgoekgijfgaaGreatDoor
