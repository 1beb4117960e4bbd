/- One, Of, Feed, Same in written-out form, case by case: what the laws of the requests call. -/
import Derived.Test.YtglnfnlpkhmlnaaGreatDoorRqOne
import Derived.Test.YtglnfnlpkhmlnaaGreatDoorRqSame
import Derived.Test.YtglnfnlpkhmlnaaGreatDoorRqPiece
import Derived.Test.YtglnfnlpkhmlnaaGreatDoorRqM1
namespace Go.Proofs.YtglnfnlpkhmlnaaGreatDoor
open Go.RowKit Go.Lib

def OneOk (w : World) (q : Rq) (e : Ending) (w' : World) : Prop := (∃ (m t p r o : ByteArray) (ha : Option Addr) (hn hc : Nat) (ba : Option Addr) (bn bc : Nat), e = .returned (.tuple #[.agg #[.string m, .string t, .string p, .string r, .string o, .slice ha hn hc, .slice ba bn bc], .int .i64 0]) ∧ ReqAt w' ⟨m, t, p, r, o, ⟨ha, hn, hc⟩, ⟨ba, bn, bc⟩⟩ q ∧ ReqGe w.heap.size ⟨m, t, p, r, o, ⟨ha, hn, hc⟩, ⟨ba, bn, bc⟩⟩) ∧ Below w.heap.size w w'
theorem one_okC {b : List UInt8} {q : Rq} (h : oneP b = (0, some q)) (v : Value) (w : World) (gv : GAt KB w v b) (hbl : b.length ≤ 200000) (hE : Env w) (hS : EnvS w) : Calls Tryz.prog 18 #[v] w (OneOk w q) := by
  refine (one_any v b w gv hbl hE hS).mono ?_
  unfold OnePost
  rw [h]
  rintro e w' ⟨⟨⟨m, t, p, r, o, ⟨ha, hn, hc⟩, ⟨ba, bn, bc⟩⟩, rfl, h1, h2⟩, hB⟩
  exact ⟨⟨m, t, p, r, o, ha, hn, hc, ba, bn, bc, rfl, h1, h2⟩, hB⟩
abbrev rqN (n : Int) : Value := .tuple #[.agg #[.string ⟨#[]⟩, .string ⟨#[]⟩, .string ⟨#[]⟩, .string ⟨#[]⟩, .string ⟨#[]⟩, .slice none 0 0, .slice none 0 0], .int .i64 n]
theorem one_badC {b : List UInt8} {n : Nat} (h : oneP b = (n, none)) (v : Value) (w : World) (gv : GAt KB w v b) (hbl : b.length ≤ 200000) (hE : Env w) (hS : EnvS w) : Calls Tryz.prog 18 #[v] w (fun e w' => e = .returned (rqN n) ∧ Below w.heap.size w w') := by
  refine (one_any v b w gv hbl hE hS).mono ?_
  unfold OnePost
  rw [h]
  rintro e w' ⟨rfl, hB⟩
  exact ⟨rfl, hB⟩
theorem of_okC {x : Rw} {q : Rq} (h : ofRP x = some q) (s : ByteArray) (ra : Option Addr) (rn rc : Nat) (sa : Option Addr) (sn sc : Nat) (w : World) (hr : RawAt w ⟨s, ⟨ra, rn, rc⟩, ⟨sa, sn, sc⟩⟩ x) (hf : Fits x.heads) (hs0 : s.size ≤ 1000000) (hl : x.heads.length ≤ 1000) (hbl : x.body.length ≤ 1000000) (hE : Env w) (hS : EnvS w) :
    Calls Tryz.prog 22 #[.agg #[.string s, .slice ra rn rc, .slice sa sn sc]] w (OneOk w q) := by
  refine (of_any ⟨s, ⟨ra, rn, rc⟩, ⟨sa, sn, sc⟩⟩ x w hr hf hs0 hl hbl hE hS).mono ?_
  unfold OfPost
  rw [h]
  rintro e w' ⟨⟨⟨m, t, p, r, o, ⟨ha, hn, hc⟩, ⟨ba, bn, bc⟩⟩, rfl, h1, h2⟩, hB⟩
  exact ⟨⟨m, t, p, r, o, ha, hn, hc, ba, bn, bc, rfl, h1, h2⟩, hB⟩
theorem of_badC {x : Rw} (h : ofRP x = none) (s : ByteArray) (ra : Option Addr) (rn rc : Nat) (sa : Option Addr) (sn sc : Nat) (w : World) (hr : RawAt w ⟨s, ⟨ra, rn, rc⟩, ⟨sa, sn, sc⟩⟩ x) (hf : Fits x.heads) (hs0 : s.size ≤ 1000000) (hl : x.heads.length ≤ 1000) (hbl : x.body.length ≤ 1000000) (hE : Env w) (hS : EnvS w) :
    Calls Tryz.prog 22 #[.agg #[.string s, .slice ra rn rc, .slice sa sn sc]] w (fun e w' => e = .returned (rqN 2) ∧ Below w.heap.size w w') := by
  refine (of_any ⟨s, ⟨ra, rn, rc⟩, ⟨sa, sn, sc⟩⟩ x w hr hf hs0 hl hbl hE hS).mono ?_
  unfold OfPost
  rw [h]
  rintro e w' ⟨rfl, hB⟩
  exact ⟨rfl, hB⟩
/-- Feed of bytes to a new reading: its messages are those at the front of the bytes. -/
def FeedNew (w : World) (b : List UInt8) (e : Ending) (w' : World) : Prop := (∃ (c0 c5 c6 : Int) (c2 : ByteArray) (la : Option Addr) (ln lc : Nat) (ha : Option Addr) (hn hc : Nat) (ba : Option Addr) (bn bc : Nat) (wa : Option Addr) (wn wc : Nat), e = .returned (.tuple #[.agg #[.int .i64 c0, .slice la ln lc, .string c2, .slice ha hn hc, .slice ba bn bc, .int .i64 c5, .int .i64 c6], .slice wa wn wc]) ∧ RawsNew 27 w' w.heap.size (.slice wa wn wc) (rowP b).1) ∧ Below w.heap.size w w'
theorem feed_newC (b : List UInt8) (v : Value) (w : World) (gv : GAt KB w v b) (hbl : b.length ≤ 200000) (hE : Env w) (hS : EnvS w) :
    Calls Tryz.prog 48 #[.agg #[.int .i64 0, .slice none 0 0, .string ⟨#[]⟩, .slice none 0 0, .slice none 0 0, .int .i64 0, .int .i64 0], v] w (FeedNew w b) := by
  have h := feed_any new0 sl0 sl0 sl0 v b w (GAt.nil _) (GAt.nil _) (GAt.nil _) gv hbl live_new good_new hE hS
  refine h.mono ?_
  rintro e w' ⟨pv, ⟨wa, wn, wc⟩, rfl, ⟨⟨la, ln, lc⟩, ⟨ha, hn, hc⟩, ⟨ba, bn, bc⟩, rfl, _⟩, hr, hB⟩
  refine ⟨⟨_, _, _, _, la, ln, lc, ha, hn, hc, ba, bn, bc, wa, wn, wc, rfl, ?_⟩, hB⟩
  rw [run_row]
  exact hr
theorem new_anyC (w : World) : Calls Tryz.prog 47 #[] w fun e w' => e = .returned (.agg #[.int .i64 0, .slice none 0 0, .string ⟨#[]⟩, .slice none 0 0, .slice none 0 0, .int .i64 0, .int .i64 0]) ∧ Below w.heap.size w w' := new_any w
theorem row_head {w : World} {B : Nat} {wa : Option Addr} {wn wc : Nat} {xs : List Rw} (h : RawsNew 27 w B (.slice wa wn wc) xs) : wn = xs.length := by
  obtain ⟨ao, cap, e⟩ := h.at.len
  injection e
end Go.Proofs.YtglnfnlpkhmlnaaGreatDoor
