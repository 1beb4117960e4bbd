/- What the answers' laws' arguments are: an answer, answers. -/
import Derived.Test.YtafmgoekgijfgaaGreatDoorBRqM6
import Derived.Test.YtafmgoekgijfgaaGreatDoorBAnPl
namespace Go.Proofs.YtafmgoekgijfgaaGreatDoor
open Go.ChangeShapes Go.WideShapes Go.ChangeAt Go.RowKit

/-- An answer's cells. -/
structure AV where
 c : Int
 h : Sl
 b : Sl
def AV.cells (r : AV) : List Value := [.int .i64 r.c, r.h.v, r.b.v]
abbrev AV.v (r : AV) : Value := .agg #[.int .i64 r.c, r.h.v, r.b.v]
/-- The cells read as the answer x. -/
def AnsAt (W : World) (r : AV) (x : An) : Prop := r.c = x.code ∧ GAt KH W r.h.v x.heads ∧ GAt KB W r.b.v x.body
theorem AnsAt.below {w w' : World} {r : AV} {x : An} (h : AnsAt w r x) (hb : Below w.heap.size w w') : AnsAt w' r x := ⟨h.1, h.2.1.below hb, h.2.2.below hb⟩
/-- Its headers and its body as a message's. -/
theorem AnsAt.raw {w : World} {r : AV} {x : An} (h : AnsAt w r x) (s : ByteArray) : RawAt w ⟨s, r.h, r.b⟩ ⟨s.data.toList, x.heads, x.body⟩ := ⟨rfl, h.2.1, h.2.2⟩
/-- An answer's box. -/
abbrev anC (c : Int) (h b : Value) : Obj := .cells #[.int .i64 c, h, b] 49
def ABox (W : World) (g : Nat) (c : Int) (h b : Value) : Prop := W.heap[g]? = some (.cells #[.int .i64 c, h, b] 49 (0, 0))
section
variable {W W' : World} {g : Nat} {c : Int} {h b : Value}
theorem ABox.new (W : World) (c : Int) (h b : Value) : ABox (W.alloc (anC c h b)) W.heap.size c h b := heap_alloc_new W _
theorem ABox.c0 (q : ABox W g c h b) : W.cell? ⟨g, 0, none⟩ = some (.int .i64 c) := (cell_of_row W g 0 _ _ _ q).trans rfl
theorem ABox.c1 (q : ABox W g c h b) : W.cell? ⟨g, 1, none⟩ = some h := (cell_of_row W g 1 _ _ _ q).trans rfl
theorem ABox.c2 (q : ABox W g c h b) : W.cell? ⟨g, 2, none⟩ = some b := (cell_of_row W g 2 _ _ _ q).trans rfl
theorem ABox.lt (q : ABox W g c h b) : g < W.heap.size := (Array.getElem?_eq_some_iff.1 q).1
theorem ABox.next (q : ABox W g c h b) (hb : Below W.heap.size W W') : ABox W' g c h b := (hb.block g q.lt).trans q
theorem ABox.drew (q : ABox W g c h b) : ABox W.drew g c h b := q
theorem ABox.fz (q : ABox W g c h b) (i : Nat) : W.frozen? ⟨g, i, none⟩ = false := frozen_of_row W g i _ _ q
end
end Go.Proofs.YtafmgoekgijfgaaGreatDoor
