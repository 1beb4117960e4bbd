/- Headers as things of rows. -/
import Derived.Test.YtilefgmlnmpeoaaDoorHdRow
namespace Go.Proofs.YtilefgmlnmpeoaaDoor
open Go.RowKit

def KH : Kd Hd where
  t := 23
  s := 2
  dft := ⟨ByteArray.empty, ByteArray.empty⟩
  cells := fun n => [.string n.n, .string n.v]
  len := fun _ => rfl
  pos := by decide
  one := by intro a v hv; simp at hv; rcases hv with rfl | rfl <;> rfl
def Hd.ok (n : Hd) : Prop := n.n.size ≤ maxLen ∧ n.v.size ≤ maxLen
/-- A header as a value. -/
abbrev hdV (h : Hd) : Value := .agg #[.string h.n, .string h.v]
theorem infoH : (Tryd.prog.info? 23).map (fun i => (i.zero, i.size, i.bytes)) = some (some (.agg #[.string ByteArray.empty, .string ByteArray.empty]), 2, 32) := by kernel_rfl
/-- Headers of which no part is too great. -/
def Fits (l : List Hd) : Prop := ∀ a ∈ l, a.n.size ≤ 1000000 ∧ a.v.size ≤ 1000000
theorem Fits.get {l : List Hd} (h : Fits l) {k : Nat} (hk : k < l.length) : (l.getD k KH.dft).n.size ≤ 1000000 ∧ (l.getD k KH.dft).v.size ≤ 1000000 :=
  h (l.getD k KH.dft) (by simp [List.getD, hk])
theorem Fits.nil : Fits [] := fun _ h => by cases h
theorem Fits.append {a b : List Hd} (h : Fits a) (k : Fits b) : Fits (a ++ b) := fun x hx => by
  rcases List.mem_append.1 hx with hx | hx
  · exact h x hx
  · exact k x hx
theorem Fits.one {a : Hd} (h : a.n.size ≤ 1000000 ∧ a.v.size ≤ 1000000) : Fits [a] := fun x hx => by
  rw [List.mem_singleton.1 hx]; exact h
theorem Fits.sub {a b : List Hd} (h : Fits b) (hs : ∀ x ∈ a, x ∈ b) : Fits a := fun x hx => h x (hs x hx)
theorem hdrop_at (l : List Hd) (k : Nat) (h : k < l.length) : l.drop k = l.getD k KH.dft :: l.drop (k + 1) := by
  rw [List.drop_eq_getElem_cons h]
  simp [List.getD, h]
/-- One header more. -/
theorem push_h (W : World) (B : Nat) (v : Value) (l : List Hd) (h : GRow KH W B v l) (c : Hd) (hl : l.length ≤ 1000000) (hB : B ≤ W.heap.size) :
    ∃ v' w', (Builtin.append_ #[24, 24] 24 #[v, .slice (some ⟨W.heap.size, 0, none⟩) 1 1]).run Tryd.prog (W.alloc (.cells #[.string c.n, .string c.v] 23)) = .ok v' w' ∧ GRow KH w' B v' (l ++ [c]) ∧ Below B W w' := by
  have hm : (1000001 : Nat) ≤ maxLen := by decide
  have hb := (Below.refl W.heap.size W).alloc (Nat.le_refl _) (.cells #[.string c.n, .string c.v] 23)
  obtain ⟨v', w', h1, h2, h3, _⟩ := append_g (K := KH) (P := Tryd.prog) 24 (.agg #[.string ByteArray.empty, .string ByteArray.empty]) 32 Tryd.underlying24 infoH rfl (W.alloc (.cells #[.string c.n, .string c.v] 23)) B v l (h.below hb) (.slice (some ⟨W.heap.size, 0, none⟩) 1 1) [c] (GAt.box _ _ c (0, 0) (heap_alloc_new W _) 1 (Nat.le_refl _)) (by simp; omega) (by simp; omega) (by simp; omega)
  exact ⟨v', w', h1, h2, (hb.mono hB).trans (h3.below (fun k hk => (h.below hb).ge hk) (by simp; omega))⟩
/-- More headers, whatever row they come from. -/
theorem cat_h (W : World) (B : Nat) (v : Value) (l : List Hd) (h : GRow KH W B v l) (sv : Value) (m : List Hd) (hs : GAt KH W sv m) (hl : l.length + m.length ≤ 1000000) (hB : B ≤ W.heap.size) :
    ∃ v' w', (Builtin.append_ #[24, 24] 24 #[v, sv]).run Tryd.prog W = .ok v' w' ∧ GRow KH w' B v' (l ++ m) ∧ Below B W w' := by
  have hm : (1000000 : Nat) ≤ maxLen := by decide
  obtain ⟨v', w', h1, h2, h3, _⟩ := append_g (K := KH) (P := Tryd.prog) 24 (.agg #[.string ByteArray.empty, .string ByteArray.empty]) 32 Tryd.underlying24 infoH rfl W B v l h sv m hs (by omega) (by omega) hB
  exact ⟨v', w', h1, h2, h3.below (fun k hk => h.ge hk) hB⟩
theorem wpList_append_runP {P : Program} {ops : Array Oper} {rest : List Oper} {o : Oper} {a : Act} {w : World} {Q : Exit → Act → World → Prop} (hg : o.guard = none) (s x : Operand) (t tn ty : TypeId) (hop : o.op = Op.call { callee := Callee.builtin Builtin.append, args := #[s, x], argTypes := #[t, tn] })
    (hty : o.type = ty) (vs vx v : Value) (w' : World) (hs : a.eval s = vs) (hx : a.eval x = vx) (hrun : (Builtin.append_ #[t, tn] ty #[vs, vx]).run P w = .ok v w')
    (h : wpList P ops Q rest (a.put o.dst v) w') : wpList P ops Q (o :: rest) a w := by
  subst hty
  refine wpList_plain hg fun K hK => ?_
  unfold Oper.wp
  simp [execOp, hop, resolve, invoke, builtin, hs, hx, hrun, Result.andThen]
  exact hK _ _ h
/-- A box that holds a text. -/
def SBox (W : World) (g : Nat) (s : ByteArray) : Prop := W.heap[g]? = some (.cells #[.string s] 9 (0, 0))
theorem SBox.c0 {W : World} {g : Nat} {s : ByteArray} (h : SBox W g s) : W.cell? ⟨g, 0, none⟩ = some (.string s) := (cell_of_row W g 0 _ _ _ h).trans rfl
theorem SBox.lt {W : World} {g : Nat} {s : ByteArray} (h : SBox W g s) : g < W.heap.size := (Array.getElem?_eq_some_iff.1 h).1
theorem SBox.new (w : World) (s : ByteArray) : SBox (w.alloc (.cells #[.string s] 9)) w.heap.size s := heap_alloc_new w _
theorem SBox.next {W W' : World} {g : Nat} {s : ByteArray} (h : SBox W g s) (hb : Below W.heap.size W W') : SBox W' g s := (hb.block g h.lt).trans h
/-- A box that holds a header. -/
def HBox (W : World) (g : Nat) (s t : ByteArray) : Prop := W.heap[g]? = some (.cells #[.string s, .string t] 23 (0, 0))
theorem HBox.c0 {W : World} {g : Nat} {s t : ByteArray} (h : HBox W g s t) : W.cell? ⟨g, 0, none⟩ = some (.string s) := (cell_of_row W g 0 _ _ _ h).trans rfl
theorem HBox.c1 {W : World} {g : Nat} {s t : ByteArray} (h : HBox W g s t) : W.cell? ⟨g, 1, none⟩ = some (.string t) := (cell_of_row W g 1 _ _ _ h).trans rfl
theorem HBox.lt {W : World} {g : Nat} {s t : ByteArray} (h : HBox W g s t) : g < W.heap.size := (Array.getElem?_eq_some_iff.1 h).1
theorem HBox.new (w : World) (s t : ByteArray) : HBox (w.alloc (.cells #[.string s, .string t] 23)) w.heap.size s t := heap_alloc_new w _
theorem HBox.next {W W' : World} {g : Nat} {s t : ByteArray} (h : HBox W g s t) (hb : Below W.heap.size W W') : HBox W' g s t := (hb.block g h.lt).trans h
theorem HBox.nextB {W W' : World} {g B : Nat} {s t : ByteArray} (h : HBox W g s t) (hb : Below B W W') (hg : g < B) : HBox W' g s t := (hb.block g hg).trans h
theorem HBox.drew {W : World} {g : Nat} {s t : ByteArray} (h : HBox W g s t) : HBox W.drew g s t := h
theorem HBox.frozen {W : World} {g : Nat} {s t : ByteArray} (h : HBox W g s t) (i : Nat) : W.frozen? ⟨g, i, none⟩ = false := frozen_of_row W g i _ _ h
theorem HBox.st {W : World} {g : Nat} {s t : ByteArray} (h : HBox W g s t) (x y : ByteArray) : HBox ((W.setCell ⟨g, 0, none⟩ (.string x)).setCell ⟨g, 1, none⟩ (.string y)) g x y := by
  have h1 := heap_setCell_same W g 0 _ _ (.string x) h
  exact heap_setCell_same _ g 1 _ _ (.string y) h1
theorem HBox.other {W : World} {g k o : Nat} {s t : ByteArray} {v : Value} (h : HBox W g s t) (hne : g ≠ k) : HBox (W.setCell ⟨k, o, none⟩ v) g s t := (heap_setCell_other W ⟨k, o, none⟩ g v hne).trans h
end Go.Proofs.YtilefgmlnmpeoaaDoor
