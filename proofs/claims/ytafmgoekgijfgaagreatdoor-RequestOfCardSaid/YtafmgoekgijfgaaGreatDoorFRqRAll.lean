/- The document's All: the messages that stand whole in bytes. -/
import Derived.Test.YtafmgoekgijfgaaGreatDoorFRqRMes
namespace Go.Proofs.YtafmgoekgijfgaaGreatDoor
open Go.RowKit Go.Lib

/-- What it answers. -/
def AllPost (w : World) (b : List UInt8) (e : Ending) (w' : World) : Prop := ∃ (wa : Option Addr) (wn wc : Nat), e = .returned (.tuple #[.slice wa wn wc, .bool (rowP b).2.1, .int .i64 ((rowP b).2.2 : Nat)]) ∧ RawsAt 33 w' (.slice wa wn wc) (rowP b).1 ∧ Below w.heap.size w w'
theorem AllPost.of {w w' : World} {b : List UInt8} {xs : List Rw} {i : Bool} {c : Nat} {wa : Option Addr} {wn wc : Nat} (h : rowP b = (xs, i, c)) (hr : RawsRow 33 w' w.heap.size (.slice wa wn wc) xs) (hb : Below w.heap.size w w') : AllPost w b (.returned (.tuple #[.slice wa wn wc, .bool i, .int .i64 (c : Int)])) w' := by
 unfold AllPost
 rw [h]
 exact ⟨wa, wn, wc, rfl, hr.at, hb⟩
theorem AllPost.len {k n : Nat} {b : List UInt8} (hn : b.length = n) {xs : List Rw} (h : rowP b = (xs ++ (rowP (b.drop k)).1, (rowP (b.drop k)).2)) : xs.length ≤ n := by
 have := row_len b.length b (Nat.le_refl _)
 rw [h] at this
 simp only [List.length_append] at this
 omega
end Go.Proofs.YtafmgoekgijfgaaGreatDoor
