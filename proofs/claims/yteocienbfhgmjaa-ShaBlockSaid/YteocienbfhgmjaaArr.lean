/- Arrays of numbers in memory: a block's cells as a list; laws for a new zero array; over any program. -/
import Derived.WalkKit
import Derived.WalkSpells
import Derived.Deep.QuietTactic
namespace Go.Proofs.Yteocienbfhgmjaa
open Go.RowKit

theorem quiet_left {P : Program} {f : FuncId} {args : Array Value} {w : World} {n : Nat} {v : Value}
    (h : Calls P f args (w.drewN n) fun e w' => e = .returned v ∧ w.drewN n = w') : Calls P f args (w.drewN n) fun e w'' => e = .returned v ∧ ∃ m, w'' = w.drewN m :=
  h.mono fun _ _ ⟨he, hm⟩ => ⟨he, n, hm.symm⟩

theorem quiet_add_left {P : Program} {f : FuncId} {args : Array Value} {w : World} {a n : Nat} {v : Value}
    (h : Calls P f args (w.drewN (a + n)) fun e w' => e = .returned v ∧ w.drewN (a + n) = w') :
    Calls P f args (w.drewN (a + n)) fun e w'' => e = .returned v ∧ ∃ m, w'' = w.drewN (a + m) :=
  h.mono fun _ _ ⟨he, hm⟩ => ⟨he, n, hm.symm⟩

theorem hide {p : Prop} (h : p) : Hid p := h

/-- The i-th number of a list, 0 behind its end: a name that the walk does not open. -/
def nth (l : List Int) (i : Nat) : Int := l.getD i 0

/-- The cells of a row of numbers. -/
def cellsOf (k : IntKind) (l : List Int) : Array Value := (l.map (Value.int k)).toArray

theorem size_cellsOf (k : IntKind) (l : List Int) : (cellsOf k l).size = l.length := by simp [cellsOf]

theorem get_cellsOf (k : IntKind) (l : List Int) (i : Nat) (h : i < l.length) : (cellsOf k l)[i]? = some (.int k (nth l i)) := by
  simp [cellsOf, nth, h, List.getD]

theorem set_cellsOf (k : IntKind) (l : List Int) (i : Nat) (v : Int) : (cellsOf k l).setIfInBounds i (.int k v) = cellsOf k (l.set i v) := by
  simp [cellsOf, List.map_set]

theorem oneCell_cellsOf (k : IntKind) (l : List Int) : (cellsOf k l).all (·.oneCell') = true := by
  rw [Array.all_eq_true_iff_forall_mem]
  intro x hx
  simp [cellsOf] at hx
  obtain ⟨a, _, rfl⟩ := hx
  rfl

theorem toArray_cellsOf (k : IntKind) (l : List Int) : (cellsOf k l).toList = l.map (Value.int k) := by simp [cellsOf]

/-- The block g is a row of numbers of kind k. -/
def Blk (w : World) (g : Nat) (t : TypeId) (k : IntKind) (l : List Int) : Prop := w.heap[g]? = some (.cells (cellsOf k l) t (0, 0))

theorem Blk.row {w : World} {g : Nat} {t : TypeId} {k : IntKind} {l : List Int} (h : Blk w g t k l) : w.heap[g]? = some (.cells (cellsOf k l) t (0, 0)) := h

theorem Blk.cell {w : World} {g : Nat} {t : TypeId} {k : IntKind} {l : List Int} (h : Blk w g t k l) (i : Nat) (hi : i < l.length) : w.cell? ⟨g, i, none⟩ = some (.int k (nth l i)) := by
  rw [cell_of_row w g i _ t (0, 0) h, get_cellsOf k l i hi]

theorem Blk.free {w : World} {g : Nat} {t : TypeId} {k : IntKind} {l : List Int} (h : Blk w g t k l) (i : Nat) : w.frozen? ⟨g, i, none⟩ = false := frozen_of_row w g i _ t h

theorem Blk.lt {w : World} {g : Nat} {t : TypeId} {k : IntKind} {l : List Int} (h : Blk w g t k l) : g < w.heap.size := (Array.getElem?_eq_some_iff.1 h).1

theorem Blk.set {w : World} {g : Nat} {t : TypeId} {k : IntKind} {l : List Int} (h : Blk w g t k l) (i : Nat) (v : Int) : Blk (w.setCell ⟨g, i, none⟩ (.int k v)) g t k (l.set i v) := by
  unfold Blk
  rw [heap_setCell_same w g i _ t _ h, set_cellsOf]

theorem Blk.other {w : World} {g : Nat} {t : TypeId} {k : IntKind} {l : List Int} (h : Blk w g t k l) (a : Addr) (v : Value) (hne : g ≠ a.block) : Blk (w.setCell a v) g t k l := by
  unfold Blk
  rw [heap_setCell_other w a g v hne]; exact h

theorem Blk.setRow {w : World} {g : Nat} {t : TypeId} {k : IntKind} {l : List Int} (h : Blk w g t k l) (l' : List Int) : Blk (w.setRow g (cellsOf k l')) g t k l' := setRow_heap w g _ _ t (0, 0) h

theorem Blk.rowOther {w : World} {g : Nat} {t : TypeId} {k : IntKind} {l : List Int} (h : Blk w g t k l) (g' : Nat) (cs : Array Value) (hne : g ≠ g') : Blk (w.setRow g' cs) g t k l := by
  unfold Blk
  rw [setRow_other w g' g cs hne]; exact h

theorem Blk.below {w w' : World} {g B : Nat} {t : TypeId} {k : IntKind} {l : List Int} (h : Blk w g t k l) (hb : Below B w w') (hg : g < B) : Blk w' g t k l := (hb.block g hg).trans h

theorem Blk.alloc {w : World} {g : Nat} {t : TypeId} {k : IntKind} {l : List Int} (h : Blk w g t k l) (o : Obj) : Blk (w.alloc o) g t k l := (Below.heap_alloc w o g h.lt).trans h

theorem Blk.drew {w : World} {g : Nat} {t : TypeId} {k : IntKind} {l : List Int} (h : Blk w g t k l) : Blk w.drew g t k l := h

theorem Blk.new (w : World) (t : TypeId) (k : IntKind) (l : List Int) : Blk (w.alloc (.cells (cellsOf k l) t)) w.heap.size t k l := heap_alloc_new w _

theorem below_setRow {B : Nat} {a w : World} (h : Below B a w) {g : Nat} (hg : B ≤ g) (cs : Array Value) : Below B a (w.setRow g cs) :=
  ⟨h.os, h.tape, h.output, by rw [size_setRow]; exact h.size, fun j hj => (setRow_other w g j cs (by omega)).trans (h.block j hj)⟩

section
variable {P : Program}

/-- 'var x T': a new block of zeros, under a name of its own. -/
theorem wpList_alloc_row {ops : Array Oper} {rest : List Oper} {o : Oper} {a : Act} {w : World} {Q : Exit → Act → World → Prop} (hgd : o.guard = none) (ty : TypeId) (ho : o.op = .alloc ty) (Z : Array Value)
    (hz : ∀ w : World, (zeroValue ty).run P w = .ok (.agg Z) w)
    (h : wpList P ops Q rest (a.put o.dst (.pointer (some ⟨w.heap.size, 0, none⟩))) (w.alloc (.cells Z ty))) : wpList P ops Q (o :: rest) a w := by
  refine wpList_plain hgd fun K hK => ?_
  unfold Oper.wp execOp
  simp [ho, Instr.alloc, hz, newVar, Value.cells]
  exact hK _ _ h

/-- 'var x T': the same, the new world under a name of its own: leave the 'intro' for behind the walk. -/
theorem wpList_alloc_blk {ops : Array Oper} {rest : List Oper} {o : Oper} {a : Act} {w : World} {Q : Exit → Act → World → Prop} (hgd : o.guard = none) (ty : TypeId) (ho : o.op = .alloc ty) (k : IntKind) (l : List Int)
    (hz : ∀ w : World, (zeroValue ty).run P w = .ok (.agg (cellsOf k l)) w)
    (h : ∀ w', Blk w' w.heap.size ty k l → w'.heap.size = w.heap.size + 1 → Below w.heap.size w w' → wpList P ops Q rest (a.put o.dst (.pointer (some ⟨w.heap.size, 0, none⟩))) w') : wpList P ops Q (o :: rest) a w :=
  wpList_alloc_row hgd ty ho (cellsOf k l) hz (h _ (Blk.new w ty k l) (by simp) ((Below.refl _ _).alloc (Nat.le_refl _) _))

/-- A whole array stored: the new world under a name of its own. -/
theorem wpList_store_blk {ops : Array Oper} {rest : List Oper} {o : Oper} {a : Act} {w : World} {Q : Exit → Act → World → Prop} (hgd : o.guard = none) (ty : TypeId) (x y : Operand) (ho : o.op = .store ty x y)
    (g : Nat) (k : IntKind) (new : List Int) (hx : a.eval x = .pointer (some ⟨g, 0, none⟩)) (hy : a.eval y = .agg (cellsOf k new)) (t : TypeId) (old : List Int) (hg : Blk w g t k old)
    (hi : (P.info? ty).map (·.size) = some (cellsOf k new).size) (hl : old.length = new.length)
    (h : ∀ w', Blk w' g t k new → w'.heap.size = w.heap.size → (∀ B, B ≤ g → Below B w w') → (∀ j, j ≠ g → w'.heap[j]? = w.heap[j]?) → wpList P ops Q rest (a.put o.dst undef) w') : wpList P ops Q (o :: rest) a w :=
  wpList_store_row hgd ty x y ho g (cellsOf k new) hx hy t (cellsOf k old) hg hi (by rw [size_cellsOf, size_cellsOf, hl]) (oneCell_cellsOf _ _)
    (h _ (hg.setRow new) (size_setRow _ _ _) (fun _ hB => below_setRow (Below.refl _ _) hB _) (fun j hj => _root_.Go.setRow_other w g j _ hj))

theorem Blk.kept {w w' : World} {g g' : Nat} {t : TypeId} {k : IntKind} {l : List Int} (h : Blk w g t k l) (hk : ∀ j, j ≠ g' → w'.heap[j]? = w.heap[j]?) (hne : g ≠ g') : Blk w' g t k l := (hk g hne).trans h

/-- An array of numbers, indexed within its bounds. -/
theorem run_index_cells (t e : TypeId) (n : Nat) (k k' : IntKind) (hu : P.underlying t = some (.array n e)) (he : P.underlying e = some (.int k')) (hs : (P.info? e).map (·.size) = some 1)
    (l : List Int) (hl : l.length = n) (i : Nat) (hi : i < n) (w : World) : (Instr.index t (.agg (cellsOf k l)) (.int .i64 (i : Int))).run P w = .ok (.int k (nth l i)) w := by
  obtain ⟨ie, hie, hes⟩ := Option.map_eq_some_iff.1 hs
  have hagg : (isAgg e).run P w = .ok false w := by
    unfold isAgg
    rw [Sem.run_bind, run_underlying he w]
    simp
  have hc : (0 : Int) ≤ (i : Int) ∧ (i : Int) < (n : Int) := by omega
  have hg := get_cellsOf k l i (by omega)
  simp [Instr.index, asIntOf, run_underlying hu, sizeOf, typeInfo, hie, hes, part, hagg, hc, hg, hi]
end
end Go.Proofs.Yteocienbfhgmjaa
