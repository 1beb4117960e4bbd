/- The program's left, walked. -/
import Derived.Test.YtafmgoekgijfgaaGreatDoorARqM2
import Derived.Laws.ResultCell
namespace Go.Proofs.YtafmgoekgijfgaaGreatDoor
open Go.RowKit Go.Shelf

attribute [local go_sem] Oper.semAt_some

/-- Between two rounds. -/
def LS (w : World) (pre : List (List UInt8)) (W : World) : Prop := (∃ v a, HidL (lefP [] pre = some a ∧ a.length ≤ pre.length) ∧ Boxed W w.heap.size 69 v ∧ LRow W w.heap.size v (a.map bo)) ∧ Boxed W (w.heap.size + 1) 4 (.bool (dirP pre)) ∧ Boxed W (w.heap.size + 2) 4 (.bool false) ∧ Below w.heap.size w W
def LeftPost (w : World) (A : List (List UInt8)) (e : Ending) (W' : World) : Prop := (match lefP [] A with
 | some a => ∃ v, e = .returned (.tuple #[v, .bool (dirP A), .bool true]) ∧ GAt KS W' v (a.map bo)
 | none => e = .returned (.tuple #[.slice none 0 0, .bool false, .bool false])) ∧ Below w.heap.size w W'
theorem LeftPost.yes {w W' : World} {A a : List (List UInt8)} {v : Value} (h : lefP [] A = some a) (hg : GAt KS W' v (a.map bo)) (hb : Below w.heap.size w W') : LeftPost w A (.returned (.tuple #[v, .bool (dirP A), .bool true])) W' := by
 unfold LeftPost
 rw [h]
 exact ⟨⟨v, rfl, hg⟩, hb⟩
theorem LeftPost.no {w W' : World} {A : List (List UInt8)} (h : lefP [] A = none) (hb : Below w.heap.size w W') : LeftPost w A (.returned (.tuple #[.slice none 0 0, .bool false, .bool false])) W' := by
 unfold LeftPost
 rw [h]
 exact ⟨rfl, hb⟩
end Go.Proofs.YtafmgoekgijfgaaGreatDoor
