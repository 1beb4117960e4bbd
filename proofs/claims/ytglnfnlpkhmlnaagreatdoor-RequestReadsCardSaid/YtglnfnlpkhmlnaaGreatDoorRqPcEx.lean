/- Pieces, Feed behind a fault, Idle, in written-out form. -/
import Derived.Test.YtglnfnlpkhmlnaaGreatDoorRqPieces
namespace Go.Proofs.YtglnfnlpkhmlnaaGreatDoor
open Go.RowKit Go.Lib

theorem idle_err {s : Ps} (h : s.err ≠ 0) : idleP s = false := by
  unfold idleP
  exact decide_eq_false fun e => h e.1
abbrev pO (s : Ps) (a b c : Value) : Obj := .cells #[.int .i64 s.phase, a, .string (bo s.start), b, c, .int .i64 s.left, .int .i64 s.err] 30
theorem pO_box (w : World) (s : Ps) (a b c : Value) : RBox7 30 (w.alloc (pO s a b c)) w.heap.size (.int .i64 s.phase) a (.string (bo s.start)) b c (.int .i64 s.left) (.int .i64 s.err) := heap_alloc_new w _
def PcPost (w : World) (s : Ps) (xs : List Rw) (e : Ending) (w' : World) : Prop := ∃ (la : Option Addr) (ln lc : Nat) (ha : Option Addr) (hn hc : Nat) (ba : Option Addr) (bn bc : Nat) (wa : Option Addr) (wn wc : Nat), e = .returned (.tuple #[.agg #[.int .i64 s.phase, .slice la ln lc, .string (bo s.start), .slice ha hn hc, .slice ba bn bc, .int .i64 s.left, .int .i64 s.err], .slice wa wn wc, .bool true]) ∧ GAt KB w' (.slice la ln lc) s.line ∧ GAt KH w' (.slice ha hn hc) s.heads ∧ GAt KB w' (.slice ba bn bc) s.body ∧ RawsAt 27 w' (.slice wa wn wc) xs ∧ Below w.heap.size w w'
theorem pieces_ex (vo : Option Addr) (vc : Nat) (uo : Option Addr) (uc : Nat) (b : List UInt8) (cs : List Int) (w : World) (gv : GAt KB w (.slice vo b.length vc) b) (gu : GAt KI w (.slice uo cs.length uc) cs) (hbl : b.length ≤ 8000) (hcl : cs.length ≤ 200) (hok : ∀ c ∈ cs, intOk c) (hE : Env w) (hS : EnvS w) {s : Ps} {xs : List Rw} (hr : runP new0 b = (s, xs)) :
    Calls Tryz.prog 13 #[.slice vo b.length vc, .slice uo cs.length uc] w (PcPost w s xs) := by
  refine (pieces_any vo vc uo uc b cs w gv gu hbl hcl hok hE hS).mono ?_
  rintro e w3 ⟨pv, ⟨wa, wn, wc⟩, rfl, ⟨⟨la, ln, lc⟩, ⟨ha, hn, hc⟩, ⟨ba, bn, bc⟩, rfl, g1, g2, g3, _⟩, hrw, hB⟩
  rw [hr] at g1 g2 g3 hrw ⊢
  exact ⟨la, ln, lc, ha, hn, hc, ba, bn, bc, wa, wn, wc, rfl, g1, g2, g3, hrw.at, hB⟩
def FdPost (w : World) (s : Ps) (e : Ending) (w' : World) : Prop := ∃ (la : Option Addr) (ln lc : Nat) (ha : Option Addr) (hn hc : Nat) (ba : Option Addr) (bn bc : Nat) (wa : Option Addr) (wc : Nat), e = .returned (.tuple #[.agg #[.int .i64 s.phase, .slice la ln lc, .string (bo s.start), .slice ha hn hc, .slice ba bn bc, .int .i64 s.left, .int .i64 s.err], .slice wa 0 wc]) ∧ Below w.heap.size w w'
theorem feed_err (s : Ps) (la : Option Addr) (ln lc : Nat) (ha : Option Addr) (hn hc : Nat) (ba : Option Addr) (bn bc : Nat) (v : Value) (b : List UInt8) (w : World) (gl : GAt KB w (.slice la ln lc) s.line) (gh : GAt KH w (.slice ha hn hc) s.heads) (gb : GAt KB w (.slice ba bn bc) s.body) (gv : GAt KB w v b) (hbl : b.length ≤ 200000) (hlive : liveP s) (hg : goodS s) (hE : Env w) (hS : EnvS w) (he : s.err ≠ 0) :
    Calls Tryz.prog 48 #[.agg #[.int .i64 s.phase, .slice la ln lc, .string (bo s.start), .slice ha hn hc, .slice ba bn bc, .int .i64 s.left, .int .i64 s.err], v] w (FdPost w s) := by
  refine (feed_any s ⟨la, ln, lc⟩ ⟨ha, hn, hc⟩ ⟨ba, bn, bc⟩ v b w gl gh gb gv hbl hlive hg hE hS).mono ?_
  rintro e w3 ⟨pv, ⟨wa, wn, wc⟩, rfl, ⟨⟨la, ln, lc⟩, ⟨ha, hn, hc⟩, ⟨ba, bn, bc⟩, rfl, g1, g2, g3, _⟩, ⟨m, hr1, hr2, _⟩, hB⟩
  rw [runP_err he] at hr2 ⊢
  have hm : m = [] := List.eq_nil_of_length_eq_zero hr2.1
  subst hm
  obtain ⟨ao, cap, e1⟩ := hr1.gAt.len
  simp only [Sl.v] at e1
  injection e1 with e1 e2 e3
  subst e1 e2 e3
  exact ⟨la, ln, lc, ha, hn, hc, ba, bn, bc, wa, wc, rfl, hB⟩
theorem idle_ex (s : Ps) (la : Option Addr) (ln lc : Nat) (ha : Option Addr) (hn hc : Nat) (ba : Option Addr) (bn bc : Nat) (w : World) (gl : GAt KB w (.slice la ln lc) s.line) (gh : GAt KH w (.slice ha hn hc) s.heads) (gb : GAt KB w (.slice ba bn bc) s.body) (hl : liveP s) (hg : goodS s) : Calls Tryz.prog 16 #[.agg #[.int .i64 s.phase, .slice la ln lc, .string (bo s.start), .slice ha hn hc, .slice ba bn bc, .int .i64 s.left, .int .i64 s.err]] w fun e w' => e = .returned (.bool (idleP s)) ∧ Below w.heap.size w w' :=
  idle_any s ⟨la, ln, lc⟩ ⟨ha, hn, hc⟩ ⟨ba, bn, bc⟩ w gl gh gb hl hg
end Go.Proofs.YtglnfnlpkhmlnaaGreatDoor
