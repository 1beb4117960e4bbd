/- What the answers' laws' arguments are: an answer, answers. -/
import Derived.Test.YtafmgoekgijfgaaGreatDoorARqM6
import Derived.Test.YtafmgoekgijfgaaGreatDoorAAnPl
namespace Go.Proofs.YtafmgoekgijfgaaGreatDoor
open Go.ChangeShapes Go.WideShapes Go.ChangeAt Go.RowKit

/-- An answer's cells. -/
structure AV where
 c : Int
 h : Sl
 b : Sl
def av0 : AV := ⟨0, ⟨none, 0, 0⟩, ⟨none, 0, 0⟩⟩
def AV.cells (r : AV) : List Value := [.int .i64 r.c, r.h.v, r.b.v]
abbrev AV.v (r : AV) : Value := .agg #[.int .i64 r.c, r.h.v, r.b.v]
def KA : Kd AV where
 t := 49
 s := 3
 dft := av0
 cells := AV.cells
 len := fun _ => rfl
 pos := by decide
 one := by intro a v hv; simp [AV.cells, Sl.v] at hv; rcases hv with rfl | rfl | rfl <;> rfl
/-- The cells read as the answer x. -/
def AnsAt (W : World) (r : AV) (x : An) : Prop := r.c = x.code ∧ GAt KH W r.h.v x.heads ∧ GAt KB W r.b.v x.body
theorem AnsAt.below {w w' : World} {r : AV} {x : An} (h : AnsAt w r x) (hb : Below w.heap.size w w') : AnsAt w' r x := ⟨h.1, h.2.1.below hb, h.2.2.below hb⟩
/-- Its headers and its body as a message's. -/
theorem AnsAt.raw {w : World} {r : AV} {x : An} (h : AnsAt w r x) (s : ByteArray) : RawAt w ⟨s, r.h, r.b⟩ ⟨s.data.toList, x.heads, x.body⟩ := ⟨rfl, h.2.1, h.2.2⟩
def AnsOk (W : World) (r : AV) : Prop := ∃ x : An, AnsAt W r x ∧ (∀ c ∈ x.heads, c.ok) ∧ intOk x.code ∧ x.heads.length ≤ maxLen ∧ x.body.length ≤ maxLen
set_option maxRecDepth 100000 in
theorem ans_of_trod {H : Type} {enc : TypeId × Value → H} {W : World} {base : Nat} {sp : Nat → Bool} {held : Bool} {n : Nat} {cs : List Value} {x : DataW H × List MemPlace} (h : DataW.trod enc Tryz.prog W base sp held n 49 cs = some x) : ∃ r : AV, AnsOk W r ∧ cs = AV.cells r := by
 have hu := Tryz.underlying49
 obtain ⟨xs, k, _, _, hlen, hxl, hf⟩ := DataW.trod_struct hu h
 rw [show Tryz.prog.cellsOf 49 = 3 by kernel_rfl] at hlen
 match cs, hlen with
 | [c0, c1, c2], _ =>
   match xs, hxl with
   | [y0, y1, y2], _ =>
     have g0 := hf 0 _ rfl
     have g1 := hf 1 _ rfl
     have g2 := hf 2 _ rfl
     have ci : Tryz.prog.cellsOf 3 = 1 := by kernel_rfl
     have ch : Tryz.prog.cellsOf 24 = 1 := by kernel_rfl
     have cb : Tryz.prog.cellsOf 22 = 1 := by kernel_rfl
     simp only [List.getElem?_cons_zero, List.getElem?_cons_succ] at g0 g1 g2
     obtain ⟨a0, k0, e0⟩ := int_of_trod g0
     obtain ⟨ao1, cap1, l1, e1, h1, k1, m1⟩ := gat_of_trod (K := KH) (ok := Hd.ok) Tryz.underlying24 (by kernel_rfl) (fun h => head_of_trod h) g1
     obtain ⟨ao2, cap2, l2, e2, h2, _, m2⟩ := gat_of_trod (K := KB) (ok := fun _ => True) Tryz.underlying22 (by kernel_rfl) (fun h => byte_of_trod h) g2
     injection e0 with e0
     injection e1 with e1
     injection e2 with e2
     subst e0 e1 e2
     exact ⟨⟨a0, ⟨ao1, l1.length, cap1⟩, ⟨ao2, l2.length, cap2⟩⟩, ⟨⟨a0, l1, l2⟩, ⟨rfl, h1, h2⟩, k1, k0, m1, m2⟩, rfl⟩
set_option maxRecDepth 100000 in
theorem arg_ans {H : Type} {enc : TypeId × Value → H} {W : World} {r : Reach} {base : Nat} {v : Value} {d : DataW H} {p : List MemPlace} (hval : Value.okWide Tryz.prog W r base 49 v)
   (h0 : DataW.Trod enc Tryz.prog W 0 (fun _ => true) true 49 v d p) : ∃ c : AV, v = AV.v c ∧ AnsOk W c := by
 exact arg_g1 (K := KA) (ok := AnsOk W) Tryz.underlying49 (fun h => ans_of_trod h) hval h0
/-- An answer's box. -/
abbrev anC (c : Int) (h b : Value) : Obj := .cells #[.int .i64 c, h, b] 49
def ABox (W : World) (g : Nat) (c : Int) (h b : Value) : Prop := W.heap[g]? = some (.cells #[.int .i64 c, h, b] 49 (0, 0))
section
variable {W W' : World} {g : Nat} {c : Int} {h b : Value}
theorem ABox.new (W : World) (c : Int) (h b : Value) : ABox (W.alloc (anC c h b)) W.heap.size c h b := heap_alloc_new W _
theorem ABox.c0 (q : ABox W g c h b) : W.cell? ⟨g, 0, none⟩ = some (.int .i64 c) := (cell_of_row W g 0 _ _ _ q).trans rfl
theorem ABox.c1 (q : ABox W g c h b) : W.cell? ⟨g, 1, none⟩ = some h := (cell_of_row W g 1 _ _ _ q).trans rfl
theorem ABox.c2 (q : ABox W g c h b) : W.cell? ⟨g, 2, none⟩ = some b := (cell_of_row W g 2 _ _ _ q).trans rfl
theorem ABox.lt (q : ABox W g c h b) : g < W.heap.size := (Array.getElem?_eq_some_iff.1 q).1
theorem ABox.next (q : ABox W g c h b) (hb : Below W.heap.size W W') : ABox W' g c h b := (hb.block g q.lt).trans q
theorem ABox.drew (q : ABox W g c h b) : ABox W.drew g c h b := q
theorem ABox.fz (q : ABox W g c h b) (i : Nat) : W.frozen? ⟨g, i, none⟩ = false := frozen_of_row W g i _ _ q
end
end Go.Proofs.YtafmgoekgijfgaaGreatDoor
