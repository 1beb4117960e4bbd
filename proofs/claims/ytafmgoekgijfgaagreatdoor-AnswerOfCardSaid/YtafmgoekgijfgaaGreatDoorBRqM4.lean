/- A reading in memory: its box, its rows, the messages that are whole; what stores and appends make of it. The reading's small methods: isStrange, inBody, fail, first, chunkEnd. The library's small functions of bytes: HasSuffix, TrimSuffix of one byte; Equal; Clone. The reading's methods that end a message: finish, lastEnd, headsEnd. The reading takes a byte of a body; a byte of a line. The reading takes a byte of a line. -/
import Derived.Test.YtafmgoekgijfgaaGreatDoorBRqM2
import Derived.Test.YtafmgoekgijfgaaGreatDoorBRqM1
import Derived.StillTactics
import Derived.Shelf.RegionOpen
import Derived.Test.YtafmgoekgijfgaaGreatDoorShelf
import Derived.Shelf.Bytes.SlClone
import Derived.Shelf.Bytes.SlSmallAll
import Derived.Shelf.Bytes.SlEqualAll
import Derived.Lib.SlBytesRowKit2
import Derived.StillTailTactics
import Derived.Deep.RegionHeld3
namespace Go.Proofs.YtafmgoekgijfgaaGreatDoor
open Go.RowKit

/-- No slice. -/
abbrev sl0 : Sl := ⟨none, 0, 0⟩
theorem sl0_own : sl0.v.ownBlock = none := rfl
/-- The slices of messages. -/
def elsV (m : List RV) : List Value := m.flatMap fun r => [r.h.v, r.b.v]
theorem elsV_append (a b : List RV) : elsV (a ++ b) = elsV a ++ elsV b := by simp [elsV]
theorem elsV_one (r : RV) : elsV [r] = [r.h.v, r.b.v] := rfl
theorem elsV_mem {m : List RV} {r : RV} (h : r ∈ m) : r.h.v ∈ elsV m ∧ r.b.v ∈ elsV m :=
 ⟨List.mem_flatMap.2 ⟨r, h, by simp⟩, List.mem_flatMap.2 ⟨r, h, by simp⟩⟩
/-- The reading's cells. -/
abbrev rdC (s : Ps) (lv hv bv wv : Value) : Array Value := #[.int .i64 s.phase, lv, .string (bo s.start), hv, bv, .int .i64 s.left, .int .i64 s.err, wv]
/-- Blocks that stay as they are: not the reading's box, nor its rows. -/
def Prot (Pr : List (Nat × Obj)) (W : World) (g : Nat) (l : List Value) : Prop := ∀ x ∈ Pr, W.heap[x.1]? = some x.2 ∧ x.1 ≠ g ∧ ∀ v ∈ l, v.ownBlock ≠ some x.1
theorem Prot.next {Pr : List (Nat × Obj)} {W W' : World} {g : Nat} {l l' : List Value} (h : Prot Pr W g l) (hk : ∀ q, q < W.heap.size → q ≠ g → (∀ v ∈ l, v.ownBlock ≠ some q) → W'.heap[q]? = W.heap[q]?)
   (hl : ∀ v ∈ l', ∀ k, v.ownBlock = some k → (∃ u ∈ l, u.ownBlock = some k) ∨ W.heap.size ≤ k) : Prot Pr W' g l' := fun x hx => by
 obtain ⟨h1, h2, h3⟩ := h x hx
 have hlt : x.1 < W.heap.size := (Array.getElem?_eq_some_iff.1 h1).1
 refine ⟨(hk x.1 hlt h2 h3).trans h1, h2, fun v hv e => ?_⟩
 rcases hl v hv x.1 e with ⟨u, hu, e2⟩ | e2
 · exact h3 u hu e2
 · omega
structure RSt (tr t : TypeId) (Pr : List (Nat × Obj)) (W : World) (B g : Nat) (s : Ps) (xs : List Rw) (lv hv bv wv : Sl) (m : List RV) : Prop where
 box : W.heap[g]? = some (.cells (rdC s lv.v hv.v bv.v wv.v) tr (0, 0))
 line : GRow KB W B lv.v s.line
 heads : GRow KH W B hv.v s.heads
 body : GRow KB W B bv.v s.body
 rows : GRow (KR t) W B wv.v m
 raws : RawsOf W m xs
 ap : Ap B W g (lv.v :: bv.v :: wv.v :: hv.v :: elsV m)
 le : B ≤ g
 prot : Prot Pr W g (lv.v :: bv.v :: wv.v :: hv.v :: elsV m)
variable {tr t : TypeId} {Pr : List (Nat × Obj)} {W W' W1 W2 : World} {B g : Nat} {s s' : Ps} {xs : List Rw} {lv hv bv wv lv' hv' bv' wv' : Sl} {m : List RV}
theorem RSt.lt (h : RSt tr t Pr W B g s xs lv hv bv wv m) : g < W.heap.size := (Array.getElem?_eq_some_iff.1 h.box).1
theorem RSt.c0 (h : RSt tr t Pr W B g s xs lv hv bv wv m) : W.cell? ⟨g, 0, none⟩ = some (.int .i64 s.phase) := (cell_of_row W g 0 _ _ _ h.box).trans rfl
theorem RSt.c1 (h : RSt tr t Pr W B g s xs lv hv bv wv m) : W.cell? ⟨g, 1, none⟩ = some lv.v := (cell_of_row W g 1 _ _ _ h.box).trans rfl
theorem RSt.c2 (h : RSt tr t Pr W B g s xs lv hv bv wv m) : W.cell? ⟨g, 2, none⟩ = some (.string (bo s.start)) := (cell_of_row W g 2 _ _ _ h.box).trans rfl
theorem RSt.c3 (h : RSt tr t Pr W B g s xs lv hv bv wv m) : W.cell? ⟨g, 3, none⟩ = some hv.v := (cell_of_row W g 3 _ _ _ h.box).trans rfl
theorem RSt.c4 (h : RSt tr t Pr W B g s xs lv hv bv wv m) : W.cell? ⟨g, 4, none⟩ = some bv.v := (cell_of_row W g 4 _ _ _ h.box).trans rfl
theorem RSt.c5 (h : RSt tr t Pr W B g s xs lv hv bv wv m) : W.cell? ⟨g, 5, none⟩ = some (.int .i64 s.left) := (cell_of_row W g 5 _ _ _ h.box).trans rfl
theorem RSt.c6 (h : RSt tr t Pr W B g s xs lv hv bv wv m) : W.cell? ⟨g, 6, none⟩ = some (.int .i64 s.err) := (cell_of_row W g 6 _ _ _ h.box).trans rfl
theorem RSt.c7 (h : RSt tr t Pr W B g s xs lv hv bv wv m) : W.cell? ⟨g, 7, none⟩ = some wv.v := (cell_of_row W g 7 _ _ _ h.box).trans rfl
theorem RSt.fz (h : RSt tr t Pr W B g s xs lv hv bv wv m) (i : Nat) : W.frozen? ⟨g, i, none⟩ = false := frozen_of_row W g i _ _ h.box
/-- A box of eight cells, one cell stored. -/
def RBox (tr : TypeId) (W : World) (g : Nat) (a0 a1 a2 a3 a4 a5 a6 a7 : Value) : Prop := W.heap[g]? = some (.cells #[a0, a1, a2, a3, a4, a5, a6, a7] tr (0, 0))
theorem RSt.rbox (h : RSt tr t Pr W B g s xs lv hv bv wv m) : RBox tr W g (.int .i64 s.phase) lv.v (.string (bo s.start)) hv.v bv.v (.int .i64 s.left) (.int .i64 s.err) wv.v := h.box
section
variable {a0 a1 a2 a3 a4 a5 a6 a7 : Value}
theorem RBox.lt (h : RBox tr W g a0 a1 a2 a3 a4 a5 a6 a7) : g < W.heap.size := (Array.getElem?_eq_some_iff.1 h).1
theorem RBox.keep {F : Nat → Prop} (h : RBox tr W g a0 a1 a2 a3 a4 a5 a6 a7) (hk : Keep F W W') (hg : ¬ F g) : RBox tr W' g a0 a1 a2 a3 a4 a5 a6 a7 := (hk.block g h.lt hg).trans h
theorem RBox.next (h : RBox tr W g a0 a1 a2 a3 a4 a5 a6 a7) (hb : Below W.heap.size W W') : RBox tr W' g a0 a1 a2 a3 a4 a5 a6 a7 := (hb.block g h.lt).trans h
theorem RBox.drew (h : RBox tr W g a0 a1 a2 a3 a4 a5 a6 a7) : RBox tr W.drew g a0 a1 a2 a3 a4 a5 a6 a7 := h
theorem RBox.fz (h : RBox tr W g a0 a1 a2 a3 a4 a5 a6 a7) (i : Nat) : W.frozen? ⟨g, i, none⟩ = false := frozen_of_row W g i _ _ h
theorem RBox.s0 (h : RBox tr W g a0 a1 a2 a3 a4 a5 a6 a7) (v : Value) : RBox tr (W.setCell ⟨g, 0, none⟩ v) g v a1 a2 a3 a4 a5 a6 a7 := heap_setCell_same W g 0 _ _ v h
theorem RBox.c0 (h : RBox tr W g a0 a1 a2 a3 a4 a5 a6 a7) : W.cell? ⟨g, 0, none⟩ = some a0 := (cell_of_row W g 0 _ _ _ h).trans rfl
theorem RBox.s1 (h : RBox tr W g a0 a1 a2 a3 a4 a5 a6 a7) (v : Value) : RBox tr (W.setCell ⟨g, 1, none⟩ v) g a0 v a2 a3 a4 a5 a6 a7 := heap_setCell_same W g 1 _ _ v h
theorem RBox.c1 (h : RBox tr W g a0 a1 a2 a3 a4 a5 a6 a7) : W.cell? ⟨g, 1, none⟩ = some a1 := (cell_of_row W g 1 _ _ _ h).trans rfl
theorem RBox.s2 (h : RBox tr W g a0 a1 a2 a3 a4 a5 a6 a7) (v : Value) : RBox tr (W.setCell ⟨g, 2, none⟩ v) g a0 a1 v a3 a4 a5 a6 a7 := heap_setCell_same W g 2 _ _ v h
theorem RBox.c2 (h : RBox tr W g a0 a1 a2 a3 a4 a5 a6 a7) : W.cell? ⟨g, 2, none⟩ = some a2 := (cell_of_row W g 2 _ _ _ h).trans rfl
theorem RBox.s3 (h : RBox tr W g a0 a1 a2 a3 a4 a5 a6 a7) (v : Value) : RBox tr (W.setCell ⟨g, 3, none⟩ v) g a0 a1 a2 v a4 a5 a6 a7 := heap_setCell_same W g 3 _ _ v h
theorem RBox.c3 (h : RBox tr W g a0 a1 a2 a3 a4 a5 a6 a7) : W.cell? ⟨g, 3, none⟩ = some a3 := (cell_of_row W g 3 _ _ _ h).trans rfl
theorem RBox.s4 (h : RBox tr W g a0 a1 a2 a3 a4 a5 a6 a7) (v : Value) : RBox tr (W.setCell ⟨g, 4, none⟩ v) g a0 a1 a2 a3 v a5 a6 a7 := heap_setCell_same W g 4 _ _ v h
theorem RBox.c4 (h : RBox tr W g a0 a1 a2 a3 a4 a5 a6 a7) : W.cell? ⟨g, 4, none⟩ = some a4 := (cell_of_row W g 4 _ _ _ h).trans rfl
theorem RBox.s5 (h : RBox tr W g a0 a1 a2 a3 a4 a5 a6 a7) (v : Value) : RBox tr (W.setCell ⟨g, 5, none⟩ v) g a0 a1 a2 a3 a4 v a6 a7 := heap_setCell_same W g 5 _ _ v h
theorem RBox.c5 (h : RBox tr W g a0 a1 a2 a3 a4 a5 a6 a7) : W.cell? ⟨g, 5, none⟩ = some a5 := (cell_of_row W g 5 _ _ _ h).trans rfl
theorem RBox.s6 (h : RBox tr W g a0 a1 a2 a3 a4 a5 a6 a7) (v : Value) : RBox tr (W.setCell ⟨g, 6, none⟩ v) g a0 a1 a2 a3 a4 a5 v a7 := heap_setCell_same W g 6 _ _ v h
theorem RBox.c6 (h : RBox tr W g a0 a1 a2 a3 a4 a5 a6 a7) : W.cell? ⟨g, 6, none⟩ = some a6 := (cell_of_row W g 6 _ _ _ h).trans rfl
theorem RBox.s7 (h : RBox tr W g a0 a1 a2 a3 a4 a5 a6 a7) (v : Value) : RBox tr (W.setCell ⟨g, 7, none⟩ v) g a0 a1 a2 a3 a4 a5 a6 v := heap_setCell_same W g 7 _ _ v h
theorem RBox.c7 (h : RBox tr W g a0 a1 a2 a3 a4 a5 a6 a7) : W.cell? ⟨g, 7, none⟩ = some a7 := (cell_of_row W g 7 _ _ _ h).trans rfl
end
/-- A box of seven cells. -/
def RBox7 (tr : TypeId) (W : World) (g : Nat) (a0 a1 a2 a3 a4 a5 a6 : Value) : Prop := W.heap[g]? = some (.cells #[a0, a1, a2, a3, a4, a5, a6] tr (0, 0))
section
variable {a0 a1 a2 a3 a4 a5 a6 : Value}
theorem RBox7.lt (h : RBox7 tr W g a0 a1 a2 a3 a4 a5 a6) : g < W.heap.size := (Array.getElem?_eq_some_iff.1 h).1
theorem RBox7.next (h : RBox7 tr W g a0 a1 a2 a3 a4 a5 a6) (hb : Below W.heap.size W W') : RBox7 tr W' g a0 a1 a2 a3 a4 a5 a6 := (hb.block g h.lt).trans h
theorem RBox7.keep {F : Nat → Prop} (h : RBox7 tr W g a0 a1 a2 a3 a4 a5 a6) (hk : Keep F W W') (hg : ¬ F g) : RBox7 tr W' g a0 a1 a2 a3 a4 a5 a6 := (hk.block g h.lt hg).trans h
theorem RBox7.fz (h : RBox7 tr W g a0 a1 a2 a3 a4 a5 a6) (i : Nat) : W.frozen? ⟨g, i, none⟩ = false := frozen_of_row W g i _ _ h
theorem RBox7.s0 (h : RBox7 tr W g a0 a1 a2 a3 a4 a5 a6) (v : Value) : RBox7 tr (W.setCell ⟨g, 0, none⟩ v) g v a1 a2 a3 a4 a5 a6 := heap_setCell_same W g 0 _ _ v h
theorem RBox7.c0 (h : RBox7 tr W g a0 a1 a2 a3 a4 a5 a6) : W.cell? ⟨g, 0, none⟩ = some a0 := (cell_of_row W g 0 _ _ _ h).trans rfl
theorem RBox7.s1 (h : RBox7 tr W g a0 a1 a2 a3 a4 a5 a6) (v : Value) : RBox7 tr (W.setCell ⟨g, 1, none⟩ v) g a0 v a2 a3 a4 a5 a6 := heap_setCell_same W g 1 _ _ v h
theorem RBox7.c1 (h : RBox7 tr W g a0 a1 a2 a3 a4 a5 a6) : W.cell? ⟨g, 1, none⟩ = some a1 := (cell_of_row W g 1 _ _ _ h).trans rfl
theorem RBox7.s2 (h : RBox7 tr W g a0 a1 a2 a3 a4 a5 a6) (v : Value) : RBox7 tr (W.setCell ⟨g, 2, none⟩ v) g a0 a1 v a3 a4 a5 a6 := heap_setCell_same W g 2 _ _ v h
theorem RBox7.c2 (h : RBox7 tr W g a0 a1 a2 a3 a4 a5 a6) : W.cell? ⟨g, 2, none⟩ = some a2 := (cell_of_row W g 2 _ _ _ h).trans rfl
theorem RBox7.s3 (h : RBox7 tr W g a0 a1 a2 a3 a4 a5 a6) (v : Value) : RBox7 tr (W.setCell ⟨g, 3, none⟩ v) g a0 a1 a2 v a4 a5 a6 := heap_setCell_same W g 3 _ _ v h
theorem RBox7.c3 (h : RBox7 tr W g a0 a1 a2 a3 a4 a5 a6) : W.cell? ⟨g, 3, none⟩ = some a3 := (cell_of_row W g 3 _ _ _ h).trans rfl
theorem RBox7.s4 (h : RBox7 tr W g a0 a1 a2 a3 a4 a5 a6) (v : Value) : RBox7 tr (W.setCell ⟨g, 4, none⟩ v) g a0 a1 a2 a3 v a5 a6 := heap_setCell_same W g 4 _ _ v h
theorem RBox7.c4 (h : RBox7 tr W g a0 a1 a2 a3 a4 a5 a6) : W.cell? ⟨g, 4, none⟩ = some a4 := (cell_of_row W g 4 _ _ _ h).trans rfl
theorem RBox7.s5 (h : RBox7 tr W g a0 a1 a2 a3 a4 a5 a6) (v : Value) : RBox7 tr (W.setCell ⟨g, 5, none⟩ v) g a0 a1 a2 a3 a4 v a6 := heap_setCell_same W g 5 _ _ v h
theorem RBox7.c5 (h : RBox7 tr W g a0 a1 a2 a3 a4 a5 a6) : W.cell? ⟨g, 5, none⟩ = some a5 := (cell_of_row W g 5 _ _ _ h).trans rfl
theorem RBox7.s6 (h : RBox7 tr W g a0 a1 a2 a3 a4 a5 a6) (v : Value) : RBox7 tr (W.setCell ⟨g, 6, none⟩ v) g a0 a1 a2 a3 a4 a5 v := heap_setCell_same W g 6 _ _ v h
theorem RBox7.c6 (h : RBox7 tr W g a0 a1 a2 a3 a4 a5 a6) : W.cell? ⟨g, 6, none⟩ = some a6 := (cell_of_row W g 6 _ _ _ h).trans rfl
end
theorem keepg_set (W : World) (g i : Nat) (v : Value) : Keep (fun k => k = g) W (W.setCell ⟨g, i, none⟩ v) := Keep.set W ⟨g, i, none⟩ v rfl
theorem keepg_trans (h : Keep (fun k => k = g) W W1) (h2 : Keep (fun k => k = g) W1 W2) : Keep (fun k => k = g) W W2 := h.trans h2 (fun _ hx => .inl hx)
theorem RSt.base (h : RSt tr t Pr W B g s xs lv hv bv wv m) : B ≤ W.heap.size := Nat.le_trans h.le (Nat.le_of_lt h.lt)
theorem RSt.apB (h : RSt tr t Pr W B g s xs lv hv bv wv m) : Ap B W g (bv.v :: lv.v :: wv.v :: hv.v :: elsV m) := Ap.at (a := [lv.v]) h.ap
theorem RSt.apW (h : RSt tr t Pr W B g s xs lv hv bv wv m) : Ap B W g (wv.v :: lv.v :: bv.v :: hv.v :: elsV m) := Ap.at (a := [lv.v, bv.v]) h.ap
theorem RSt.apH (h : RSt tr t Pr W B g s xs lv hv bv wv m) : Ap B W g (hv.v :: lv.v :: bv.v :: wv.v :: elsV m) := Ap.at (a := [lv.v, bv.v, wv.v]) h.ap
/-- What keeps all its blocks. -/
theorem RSt.keep {F : Nat → Prop} (h : RSt tr t Pr W B g s xs lv hv bv wv m) (hk : Keep F W W') (hg : ¬ F g) (hf : ∀ v ∈ lv.v :: bv.v :: wv.v :: hv.v :: elsV m, Off F v) (hp : ∀ x ∈ Pr, ¬ F x.1) : RSt tr t Pr W' B g s xs lv hv bv wv m where
 box := (hk.block g h.lt hg).trans h.box
 line := h.line.keep hk (hf _ (by simp))
 heads := h.heads.keep hk (hf _ (by simp))
 body := h.body.keep hk (hf _ (by simp))
 rows := h.rows.keep hk (hf _ (by simp))
 raws := h.raws.keep hk fun r hr => ⟨hf _ (by have := (elsV_mem hr).1; simp [this]), hf _ (by have := (elsV_mem hr).2; simp [this])⟩
 ap := h.ap.mono hk.size
 le := h.le
 prot := fun x hx => by
   obtain ⟨h1, h2, h3⟩ := h.prot x hx
   exact ⟨(hk.block _ (Array.getElem?_eq_some_iff.1 h1).1 (hp x hx)).trans h1, h2, h3⟩
theorem RSt.below (h : RSt tr t Pr W B g s xs lv hv bv wv m) (hb : Below W.heap.size W W') : RSt tr t Pr W' B g s xs lv hv bv wv m :=
 h.keep (Keep.of_below hb : Keep (fun _ => False) W W') id (fun _ _ _ _ => id) fun _ _ => id
theorem RSt.drew (h : RSt tr t Pr W B g s xs lv hv bv wv m) : RSt tr t Pr W.drew B g s xs lv hv bv wv m := h.below ((Below.refl _ W).drew)
theorem RSt.alloc (h : RSt tr t Pr W B g s xs lv hv bv wv m) (o : Obj) : RSt tr t Pr (W.alloc o) B g s xs lv hv bv wv m := h.below ((Below.refl _ _).alloc (Nat.le_refl _) o)
/-- What a call that keeps all is to it, seen from B. -/
theorem RSt.seen (h : RSt tr t Pr W B g s xs lv hv bv wv m) (hb : Below W.heap.size W W') : Below B W W' := hb.mono h.base
theorem keepg_below (hk : Keep (fun k => k = g) W W') (hB : B ≤ g) (hB2 : B ≤ W.heap.size) : Below B W W' := hk.below (fun k e => by rw [e]; exact hB) hB2
/-- Stores into the box: rows stay, or go. -/
theorem RSt.goes (h : RSt tr t Pr W B g s xs lv hv bv wv m) (hk : Keep (fun k => k = g) W W') (hl : (lv' = lv ∧ s'.line = s.line) ∨ (lv' = sl0 ∧ s'.line = [])) (hh : (hv' = hv ∧ s'.heads = s.heads) ∨ (hv' = sl0 ∧ s'.heads = []))
   (hb : (bv' = bv ∧ s'.body = s.body) ∨ (bv' = sl0 ∧ s'.body = [])) (hx : W'.heap[g]? = some (.cells (rdC s' lv'.v hv'.v bv'.v wv.v) tr (0, 0))) : RSt tr t Pr W' B g s' xs lv' hv' bv' wv m := by
 have ho := h.ap.offg
 refine ⟨hx, ?_, ?_, ?_, h.rows.keep hk (ho _ (by simp)), h.raws.keep hk fun r hr => ⟨ho _ (by have := (elsV_mem hr).1; simp [this]), ho _ (by have := (elsV_mem hr).2; simp [this])⟩, ?_, h.le, ?_⟩
 · rcases hl with ⟨rfl, e⟩ | ⟨rfl, e⟩ <;> rw [e]
   · exact h.line.keep hk (ho _ (by simp))
   · exact GRow.nil _ _
 · rcases hh with ⟨rfl, e⟩ | ⟨rfl, e⟩ <;> rw [e]
   · exact h.heads.keep hk (ho _ (by simp))
   · exact GRow.nil _ _
 · rcases hb with ⟨rfl, e⟩ | ⟨rfl, e⟩ <;> rw [e]
   · exact h.body.keep hk (ho _ (by simp))
   · exact GRow.nil _ _
 · have a1 : Ap B W' g (lv'.v :: bv.v :: wv.v :: hv.v :: elsV m) := by
     rcases hl with ⟨rfl, e⟩ | ⟨rfl, e⟩
     · exact h.ap.mono hk.size
     · exact (h.ap.mono hk.size).without sl0_own
   have a2 : Ap B W' g (lv'.v :: bv'.v :: wv.v :: hv.v :: elsV m) := by
     rcases hb with ⟨rfl, e⟩ | ⟨rfl, e⟩
     · exact a1
     · exact Ap.back (a := [lv'.v]) ((Ap.at (a := [lv'.v]) a1).without sl0_own)
   rcases hh with ⟨rfl, e⟩ | ⟨rfl, e⟩
   · exact a2
   · exact Ap.back (a := [lv'.v, bv'.v, wv.v]) ((Ap.at (a := [lv'.v, bv'.v, wv.v]) a2).without sl0_own)
 · refine h.prot.next (fun q hq hg _ => hk.block q hq hg) fun v hv' k hkk => ?_
   simp only [List.mem_cons] at hv'
   rcases hv' with rfl | rfl | rfl | rfl | hv'
   · rcases hl with ⟨rfl, _⟩ | ⟨rfl, _⟩
     · exact .inl ⟨_, by simp, hkk⟩
     · cases hkk
   · rcases hb with ⟨rfl, _⟩ | ⟨rfl, _⟩
     · exact .inl ⟨_, by simp, hkk⟩
     · cases hkk
   · exact .inl ⟨_, by simp, hkk⟩
   · rcases hh with ⟨rfl, _⟩ | ⟨rfl, _⟩
     · exact .inl ⟨_, by simp, hkk⟩
     · cases hkk
   · exact .inl ⟨v, by simp [hv'], hkk⟩
/-- A row that an append made longer, or that is new: where it lies. -/
def Grew (v v' : Value) (W W1 : World) : Prop := ∀ k, v'.ownBlock = some k → v.ownBlock = some k ∨ (W.heap.size ≤ k ∧ k < W1.heap.size)
theorem Grew.mono {v v' : Value} (h : Grew v v' W W1) (hs : W1.heap.size ≤ W2.heap.size) : Grew v v' W W2 := fun k hk => by
 rcases h k hk with h | ⟨h1, h2⟩
 · exact .inl h
 · exact .inr ⟨h1, Nat.lt_of_lt_of_le h2 hs⟩
/-- A new row stands in the box: not the old one's block, nor the box. -/
theorem grew_ne (h : RSt tr t Pr W B g s xs lv hv bv wv m) {u v' : Value} {l : List Value} (ha : Ap B W g (u :: l)) (hu : Grew u v' W W1) : Off (fun k => k = g) v' := fun k hk e => by
 have e : k = g := e
 subst e
 rcases hu k hk with h1 | ⟨h1, _⟩
 · exact (ha.head k h1).2.2 rfl
 · have := h.lt; omega
/-- The line's row takes its place. -/
theorem RSt.lined (h : RSt tr t Pr W B g s xs lv hv bv wv m) (hk : Keep (fun k => lv.v.ownBlock = some k) W W1) (hr : GRow KB W1 B lv'.v s'.line) (hu : Grew lv.v lv'.v W W1) (hk2 : Keep (fun k => k = g) W1 W2)
   (hh : s'.heads = s.heads) (hb : s'.body = s.body) (hx : W2.heap[g]? = some (.cells (rdC s' lv'.v hv.v bv.v wv.v) tr (0, 0))) : RSt tr t Pr W2 B g s' xs lv' hv bv wv m := by
 have ho := h.ap.off
 have hg := h.ap.offg
 have hs := Nat.le_trans hk.size hk2.size
 refine ⟨hx, hr.keep hk2 (grew_ne h h.ap hu), ?_, ?_, (h.rows.keep hk (ho _ (by simp))).keep hk2 (hg _ (by simp)), ?_, h.ap.put hs h.lt h.base (hu.mono hk2.size), h.le, h.prot.next (fun q hq hqg hqo => (hk2.block q (Nat.lt_of_lt_of_le hq hk.size) hqg).trans (hk.block q hq fun e => hqo lv.v (by simp) e)) fun v hv' k hkk => ?_⟩
 · rw [hh]; exact (h.heads.keep hk (ho _ (by simp))).keep hk2 (hg _ (by simp))
 · rw [hb]; exact (h.body.keep hk (ho _ (by simp))).keep hk2 (hg _ (by simp))
 · exact (h.raws.keep hk fun r hr => ⟨ho _ (by have := (elsV_mem hr).1; simp [this]), ho _ (by have := (elsV_mem hr).2; simp [this])⟩).keep hk2 fun r hr => ⟨hg _ (by have := (elsV_mem hr).1; simp [this]), hg _ (by have := (elsV_mem hr).2; simp [this])⟩
 · simp only [List.mem_cons] at hv'
   rcases hv' with rfl | rfl | rfl | rfl | hv'
   · rcases hu k hkk with e | ⟨e, _⟩
     · exact .inl ⟨_, by simp, e⟩
     · exact .inr e
   · exact .inl ⟨_, by simp, hkk⟩
   · exact .inl ⟨_, by simp, hkk⟩
   · exact .inl ⟨_, by simp, hkk⟩
   · exact .inl ⟨v, by simp [hv'], hkk⟩
/-- So does the body's. -/
theorem RSt.bodied (h : RSt tr t Pr W B g s xs lv hv bv wv m) (hk : Keep (fun k => bv.v.ownBlock = some k) W W1) (hr : GRow KB W1 B bv'.v s'.body) (hu : Grew bv.v bv'.v W W1) (hk2 : Keep (fun k => k = g) W1 W2)
   (hh : s'.heads = s.heads) (hb : s'.line = s.line) (hx : W2.heap[g]? = some (.cells (rdC s' lv.v hv.v bv'.v wv.v) tr (0, 0))) : RSt tr t Pr W2 B g s' xs lv hv bv' wv m := by
 have ho := h.apB.off
 have hg := h.ap.offg
 have hs := Nat.le_trans hk.size hk2.size
 refine ⟨hx, ?_, ?_, hr.keep hk2 (grew_ne h h.apB hu), (h.rows.keep hk (ho _ (by simp))).keep hk2 (hg _ (by simp)), ?_, Ap.back (a := [lv.v]) (h.apB.put hs h.lt h.base (hu.mono hk2.size)), h.le, h.prot.next (fun q hq hqg hqo => (hk2.block q (Nat.lt_of_lt_of_le hq hk.size) hqg).trans (hk.block q hq fun e => hqo bv.v (by simp) e)) fun v hv' k hkk => ?_⟩
 · rw [hb]; exact (h.line.keep hk (ho _ (by simp))).keep hk2 (hg _ (by simp))
 · rw [hh]; exact (h.heads.keep hk (ho _ (by simp))).keep hk2 (hg _ (by simp))
 · exact (h.raws.keep hk fun r hr => ⟨ho _ (by have := (elsV_mem hr).1; simp [this]), ho _ (by have := (elsV_mem hr).2; simp [this])⟩).keep hk2 fun r hr => ⟨hg _ (by have := (elsV_mem hr).1; simp [this]), hg _ (by have := (elsV_mem hr).2; simp [this])⟩
 · simp only [List.mem_cons] at hv'
   rcases hv' with rfl | rfl | rfl | rfl | hv'
   · exact .inl ⟨_, by simp, hkk⟩
   · rcases hu k hkk with e | ⟨e, _⟩
     · exact .inl ⟨_, by simp, e⟩
     · exact .inr e
   · exact .inl ⟨_, by simp, hkk⟩
   · exact .inl ⟨_, by simp, hkk⟩
   · exact .inl ⟨v, by simp [hv'], hkk⟩
/-- New headers take their place. -/
theorem RSt.headed (h : RSt tr t Pr W B g s xs lv hv bv wv m) (hb : Below W.heap.size W W1) (hr : GRow KH W1 W.heap.size hv'.v s'.heads) (hk2 : Keep (fun k => k = g) W1 W2)
   (hh : s'.line = s.line) (hbo : s'.body = s.body) (hx : W2.heap[g]? = some (.cells (rdC s' lv.v hv'.v bv.v wv.v) tr (0, 0))) : RSt tr t Pr W2 B g s' xs lv hv' bv wv m := by
 have hg := h.ap.offg
 have hs := Nat.le_trans hb.size hk2.size
 have hu : Grew hv.v hv'.v W W1 := fun k hk => .inr ⟨hr.ge hk, hr.lt hk⟩
 refine ⟨hx, ?_, (hr.keep hk2 (grew_ne h h.apH hu)).base h.base, ?_, (h.rows.below hb).keep hk2 (hg _ (by simp)), ?_, Ap.back (a := [lv.v, bv.v, wv.v]) (h.apH.put hs h.lt h.base (hu.mono hk2.size)), h.le, h.prot.next (fun q hq hqg hqo => (hk2.block q (Nat.lt_of_lt_of_le hq hb.size) hqg).trans (hb.block q hq)) fun v hv' k hkk => ?_⟩
 · rw [hh]; exact (h.line.below hb).keep hk2 (hg _ (by simp))
 · rw [hbo]; exact (h.body.below hb).keep hk2 (hg _ (by simp))
 · exact (h.raws.below hb).keep hk2 fun r hr => ⟨hg _ (by have := (elsV_mem hr).1; simp [this]), hg _ (by have := (elsV_mem hr).2; simp [this])⟩
 · simp only [List.mem_cons] at hv'
   rcases hv' with rfl | rfl | rfl | rfl | hv'
   · exact .inl ⟨_, by simp, hkk⟩
   · exact .inl ⟨_, by simp, hkk⟩
   · exact .inl ⟨_, by simp, hkk⟩
   · rcases hu k hkk with e | ⟨e, _⟩
     · exact .inl ⟨_, by simp, e⟩
     · exact .inr e
   · exact .inl ⟨v, by simp [hv'], hkk⟩
/-- The message is put to the whole ones, and the reading begins anew. -/
theorem RSt.out (h : RSt tr t Pr W B g s xs lv hv bv wv m) (hk : Keep (fun k => wv.v.ownBlock = some k) W W1) (hr : GRow (KR t) W1 B wv'.v (m ++ [⟨bo s.start, hv, bv⟩])) (hu : Grew wv.v wv'.v W W1) (hk2 : Keep (fun k => k = g) W1 W2)
   (hx : W2.heap[g]? = some (.cells (rdC new0 sl0.v sl0.v sl0.v wv'.v) tr (0, 0))) : RSt tr t Pr W2 B g new0 (xs ++ [⟨s.start, s.heads, s.body⟩]) sl0 sl0 sl0 wv' (m ++ [⟨bo s.start, hv, bv⟩]) := by
 have ho := h.apW.off
 have hg := h.ap.offg
 have hs := Nat.le_trans hk.size hk2.size
 have hraw : RawAt W ⟨bo s.start, hv, bv⟩ ⟨s.start, s.heads, s.body⟩ := ⟨rfl, h.heads.gAt, h.body.gAt⟩
 refine ⟨hx, GRow.nil _ _, GRow.nil _ _, GRow.nil _ _, hr.keep hk2 (grew_ne h h.apW hu), ?_, ?_, h.le, h.prot.next (fun q hq hqg hqo => (hk2.block q (Nat.lt_of_lt_of_le hq hk.size) hqg).trans (hk.block q hq fun e => hqo wv.v (by simp) e)) fun v hv' k hkk => ?_⟩
 · have h1 : RawsOf W (m ++ [⟨bo s.start, hv, bv⟩]) (xs ++ [⟨s.start, s.heads, s.body⟩]) := h.raws.append (RawsOf.one hraw)
   have hm : ∀ r ∈ m ++ [(⟨bo s.start, hv, bv⟩ : RV)], r.h.v ∈ lv.v :: bv.v :: hv.v :: elsV m ∧ r.b.v ∈ lv.v :: bv.v :: hv.v :: elsV m := fun r hr => by
     rcases List.mem_append.1 hr with hr | hr
     · have := elsV_mem hr
       exact ⟨by simp [this.1], by simp [this.2]⟩
     · rw [List.mem_singleton.1 hr]
       exact ⟨by simp, by simp⟩
   have hsub : ∀ v, v ∈ lv.v :: bv.v :: hv.v :: elsV m → v ∈ lv.v :: bv.v :: wv.v :: hv.v :: elsV m := fun v hv => by
     simp only [List.mem_cons] at hv ⊢
     rcases hv with hv | hv | hv | hv <;> simp [hv]
   exact (h1.keep hk fun r hr => ⟨ho _ (hm r hr).1, ho _ (hm r hr).2⟩).keep hk2 fun r hr => ⟨hg _ (hsub _ (hm r hr).1), hg _ (hsub _ (hm r hr).2)⟩
 · have a1 : Ap B W g (wv.v :: (elsV m ++ [hv.v, bv.v])) := by
     refine h.ap.tail.perm ?_
     refine (List.Perm.swap _ _ _).trans (List.Perm.cons _ ?_)
     exact ((List.Perm.swap _ _ _).trans (List.perm_append_comm (l₁ := [hv.v, bv.v])))
   have a2 := a1.put hs h.lt h.base (hu.mono hk2.size)
   have a3 : Ap B W2 g (wv'.v :: elsV (m ++ [⟨bo s.start, hv, bv⟩])) := by
     rw [elsV_append, elsV_one]
     exact a2
   have a4 : Ap B W2 g (wv'.v :: sl0.v :: elsV (m ++ [⟨bo s.start, hv, bv⟩])) := Ap.back (a := [wv'.v]) (a3.more sl0_own)
   exact (a4.more sl0_own).more sl0_own
 · simp only [List.mem_cons, elsV_append, elsV_one, List.mem_append, List.not_mem_nil, or_false] at hv'
   rcases hv' with rfl | rfl | rfl | rfl | hv' | rfl | rfl
   · cases hkk
   · cases hkk
   · rcases hu k hkk with e | ⟨e, _⟩
     · exact .inl ⟨_, by simp, e⟩
     · exact .inr e
   · cases hkk
   · exact .inl ⟨v, by simp [hv'], hkk⟩
   · exact .inl ⟨_, by simp, hkk⟩
   · exact .inl ⟨_, by simp, hkk⟩
/-- Seven cells stored one behind the other. -/
abbrev st7 (W : World) (g : Nat) (a0 a1 a2 a3 a4 a5 a6 : Value) : World := ((((((W.setCell ⟨g, 0, none⟩ a0).setCell ⟨g, 1, none⟩ a1).setCell ⟨g, 2, none⟩ a2).setCell ⟨g, 3, none⟩ a3).setCell ⟨g, 4, none⟩ a4).setCell ⟨g, 5, none⟩ a5).setCell ⟨g, 6, none⟩ a6
theorem keepg_st7 (W : World) (g : Nat) (a0 a1 a2 a3 a4 a5 a6 : Value) : Keep (fun k => k = g) W (st7 W g a0 a1 a2 a3 a4 a5 a6) :=
 keepg_trans (keepg_trans (keepg_trans (keepg_trans (keepg_trans (keepg_trans (keepg_set _ g 0 a0) (keepg_set _ g 1 a1)) (keepg_set _ g 2 a2)) (keepg_set _ g 3 a3)) (keepg_set _ g 4 a4)) (keepg_set _ g 5 a5)) (keepg_set _ g 6 a6)
theorem RBox.st7 {a0 a1 a2 a3 a4 a5 a6 a7 : Value} (h : RBox tr W g a0 a1 a2 a3 a4 a5 a6 a7) (b0 b1 b2 b3 b4 b5 b6 : Value) : RBox tr (st7 W g b0 b1 b2 b3 b4 b5 b6) g b0 b1 b2 b3 b4 b5 b6 a7 :=
 ((((((h.s0 b0).s1 b1).s2 b2).s3 b3).s4 b4).s5 b5).s6 b6
theorem RBox7.st7 {a0 a1 a2 a3 a4 a5 a6 : Value} (h : RBox7 tr W g a0 a1 a2 a3 a4 a5 a6) (b0 b1 b2 b3 b4 b5 b6 : Value) : RBox7 tr (Proofs.YtafmgoekgijfgaaGreatDoor.st7 W g b0 b1 b2 b3 b4 b5 b6) g b0 b1 b2 b3 b4 b5 b6 :=
 ((((((h.s0 b0).s1 b1).s2 b2).s3 b3).s4 b4).s5 b5).s6 b6
/-- A fault. -/
theorem RSt.failed (h : RSt tr t Pr W B g s xs lv hv bv wv m) (n : Nat) :
   RSt tr t Pr (st7 W g (.int .i64 0) (.slice none 0 0) (.string ⟨#[]⟩) (.slice none 0 0) (.slice none 0 0) (.int .i64 0) (.int .i64 n)) B g (s.bad n) xs sl0 sl0 sl0 wv m ∧ Below B W (st7 W g (.int .i64 0) (.slice none 0 0) (.string ⟨#[]⟩) (.slice none 0 0) (.slice none 0 0) (.int .i64 0) (.int .i64 n)) :=
 ⟨h.goes (keepg_st7 _ _ _ _ _ _ _ _ _) (.inr ⟨rfl, rfl⟩) (.inr ⟨rfl, rfl⟩) (.inr ⟨rfl, rfl⟩) (h.rbox.st7 _ _ _ _ _ _ _), keepg_below (keepg_st7 _ _ _ _ _ _ _ _ _) h.le h.base⟩
/-- A reading as a value. -/
abbrev PsV (s : Ps) (lv hv bv : Sl) : Value := .agg #[.int .i64 s.phase, lv.v, .string (bo s.start), hv.v, bv.v, .int .i64 s.left, .int .i64 s.err]
def PsAt (W : World) (v : Value) (s : Ps) : Prop := ∃ lv hv bv : Sl, v = PsV s lv hv bv ∧ GAt KB W lv.v s.line ∧ GAt KH W hv.v s.heads ∧ GAt KB W bv.v s.body
theorem PsAt.below {v : Value} (h : PsAt W v s) (hb : Below W.heap.size W W') : PsAt W' v s := by
 obtain ⟨lv, hv, bv, h1, h2, h3, h4⟩ := h
 exact ⟨lv, hv, bv, h1, h2.below hb, h3.below hb, h4.below hb⟩
theorem PsAt.new (W : World) : PsAt W (PsV new0 sl0 sl0 sl0) new0 := ⟨sl0, sl0, sl0, rfl, GAt.nil W, GAt.nil W, GAt.nil W⟩
/-- So, in memory that is new since B. -/
def PsNew (W : World) (B : Nat) (v : Value) (s : Ps) : Prop := ∃ lv hv bv : Sl, v = PsV s lv hv bv ∧ GAt KB W lv.v s.line ∧ GAt KH W hv.v s.heads ∧ GAt KB W bv.v s.body ∧ ∀ u ∈ [lv.v, hv.v, bv.v], ∀ k, u.ownBlock = some k → B ≤ k ∧ k < W.heap.size
theorem PsNew.at {v : Value} (h : PsNew W B v s) : PsAt W v s := by
 obtain ⟨lv, hv, bv, h1, h2, h3, h4, _⟩ := h
 exact ⟨lv, hv, bv, h1, h2, h3, h4⟩
theorem RSt.ps (h : RSt tr t Pr W B g s xs lv hv bv wv m) : PsAt W (PsV s lv hv bv) s := ⟨lv, hv, bv, rfl, h.line.gAt, h.heads.gAt, h.body.gAt⟩
/-- Messages in memory that is new since B. -/
def RawsNew (t : TypeId) (W : World) (B : Nat) (v : Value) (xs : List Rw) : Prop := ∃ m, GRow (KR t) W B v m ∧ RawsOf W m xs ∧ ∀ u ∈ elsV m, ∀ k, u.ownBlock = some k → B ≤ k ∧ k < W.heap.size
theorem RSt.new (h : RSt tr t Pr W B g s xs lv hv bv wv m) : RawsNew t W B wv.v xs :=
 ⟨m, h.rows, h.raws, fun u hu k hk => by
   obtain ⟨h1, h2, _⟩ := h.ap.2 u (by simp [hu]) k hk
   exact ⟨h1, h2⟩⟩
/-- What is left of it behind a store beside it. -/
theorem RSt.fin (h : RSt tr t Pr W B g s xs lv hv bv wv m) {p : Nat} {o : Obj} (hp : (p, o) ∈ Pr) (hk : Keep (fun k => k = p) W W') : PsNew W' B (PsV s lv hv bv) s ∧ RawsNew t W' B wv.v xs := by
 have ho : ∀ v ∈ lv.v :: bv.v :: wv.v :: hv.v :: elsV m, Off (fun k => k = p) v := fun v hv k hk e => (h.prot _ hp).2.2 v hv (by rw [hk, e])
 refine ⟨⟨lv, hv, bv, rfl, h.line.gAt.keep hk (ho _ (by simp)), h.heads.gAt.keep hk (ho _ (by simp)), h.body.gAt.keep hk (ho _ (by simp)), fun u hu k hk2 => ?_⟩, m, h.rows.keep hk (ho _ (by simp)), h.raws.keep hk fun r hr => ⟨ho _ (by have := (elsV_mem hr).1; simp [this]), ho _ (by have := (elsV_mem hr).2; simp [this])⟩, fun u hu k hk2 => ?_⟩
 · obtain ⟨h1, h2, _⟩ := h.ap.2 u (by simp only [List.mem_cons, List.not_mem_nil, or_false] at hu; rcases hu with rfl | rfl | rfl <;> simp) k hk2
   exact ⟨h1, Nat.lt_of_lt_of_le h2 hk.size⟩
 obtain ⟨h1, h2, _⟩ := h.ap.2 u (by simp [hu]) k hk2
 exact ⟨h1, Nat.lt_of_lt_of_le h2 hk.size⟩
theorem RawsNew.nil (t : TypeId) (W : World) (B : Nat) : RawsNew t W B (.slice none 0 0) [] := ⟨[], GRow.nil W B, RawsOf.nil W, fun u hu => by cases hu⟩
theorem RawsNew.below {v : Value} (h : RawsNew t W B v xs) (hb : Below W.heap.size W W') : RawsNew t W' B v xs := by
 obtain ⟨m, h1, h2, h3⟩ := h
 exact ⟨m, h1.below hb, h2.below hb, fun u hu k hk => ⟨(h3 u hu k hk).1, Nat.lt_of_lt_of_le (h3 u hu k hk).2 hb.size⟩⟩
theorem RawsNew.at {v : Value} (h : RawsNew t W B v xs) : RawsAt t W v xs := by
 obtain ⟨m, h1, h2, _⟩ := h
 exact ⟨m, h1.gAt, h2⟩
theorem RawsNew.base {B' : Nat} {v : Value} (h : RawsNew t W B v xs) (hb : B' ≤ B) : RawsNew t W B' v xs := by
 obtain ⟨m, h1, h2, h3⟩ := h
 exact ⟨m, h1.base hb, h2, fun u hu k hk => ⟨Nat.le_trans hb (h3 u hu k hk).1, (h3 u hu k hk).2⟩⟩
end Go.Proofs.YtafmgoekgijfgaaGreatDoor
namespace Go.Proofs.YtafmgoekgijfgaaGreatDoor
open Go.RowKit Go.Lib

theorem wp_append_runR {P : Program} {o : Oper} {a : Act} {w : World} {K : Act → World → Prop} {Q : Exit → Act → World → Prop} (s x : Operand) (t tn ty : TypeId) (hop : o.op = Op.call { callee := Callee.builtin Builtin.append, args := #[s, x], argTypes := #[t, tn] })
   (hty : o.type = ty) (vs vx v : Value) (w' : World) (hs : a.eval s = vs) (hx : a.eval x = vx) (hrun : (Builtin.append_ #[t, tn] ty #[vs, vx]).run P w = .ok v w')
   (h : K (a.put o.dst v) w') : o.wp P a w K Q := by
 subst hty
 unfold Oper.wp
 simp [execOp, hop, resolve, invoke, builtin, hs, hx, hrun, Result.andThen]
 exact h
/-- A reading at g. -/
abbrev RS (Pr : List (Nat × Obj)) (W : World) (B g : Nat) (s : Ps) (xs : List Rw) (lv hv bv wv : Sl) (m : List RV) : Prop := RSt 140 33 Pr W B g s xs lv hv bv wv m
/-- What a method makes of it. -/
def GoP (Pr : List (Nat × Obj)) (W : World) (B g : Nat) (s' : Ps) (xs' : List Rw) (r : Value) (e : Ending) (w' : World) : Prop := e = .returned r ∧ Below B W w' ∧ ∃ lv hv bv wv m, RS Pr w' B g s' xs' lv hv bv wv m
theorem GoP.after {Pr : List (Nat × Obj)} {W W1 : World} {B g : Nat} {s' : Ps} {xs' : List Rw} {r : Value} {e : Ending} {w' : World} (hb : Below B W W1) (h : GoP Pr W1 B g s' xs' r e w') : GoP Pr W B g s' xs' r e w' := ⟨h.1, hb.trans h.2.1, h.2.2⟩
variable {Pr : List (Nat × Obj)} {W : World} {B g : Nat} {s : Ps} {xs : List Rw} {lv hv bv wv : Sl} {m : List RV}

set_option maxRecDepth 100000 in
theorem inBody_any (h : RS Pr W B g s xs lv hv bv wv m) : Calls Tryz.prog 110 #[.pointer (some ⟨g, 0, none⟩)] W fun e w' => e = .returned (.bool (decide (s.phase = 2 ∨ s.phase = 4))) ∧ w' = W := by
 have c0 := h.c0
 obtain ⟨p, hp⟩ : ∃ p, s.phase = p := ⟨_, rfl⟩
 rw [hp] at c0 ⊢
 clear hp h
 by_cases h2 : p = 2
 · subst h2
   go_enter Tryz.func110, Tryz.ntmps110
   go_wp2
   go_ret
   exact ⟨rfl, rfl⟩
 · have i2 : ((p : Int) == 2) = false := beq_eq_false_iff_ne.2 (by omega)
   by_cases h4 : p = 4
   · subst h4
     go_enter Tryz.func110, Tryz.ntmps110
     go_wp2
     go_ret
     exact ⟨rfl, rfl⟩
   · have i4 : ((p : Int) == 4) = false := beq_eq_false_iff_ne.2 (by omega)
     rw [decide_eq_false (show ¬ (p = 2 ∨ p = 4) by omega)]
     go_enter Tryz.func110, Tryz.ntmps110
     go_wp2
     go_ret
     exact ⟨rfl, rfl⟩
set_option maxRecDepth 100000 in
theorem fail_any (h : RS Pr W B g s xs lv hv bv wv m) (n : Nat) : Calls Tryz.prog 109 #[.pointer (some ⟨g, 0, none⟩), .int .i64 n] W (GoP Pr W B g (s.bad n) xs (.tuple #[])) := by
 have HF := hideL (h.failed n)
 have c0 := h.c0
 have c1 := h.c1
 have c2 := h.c2
 have c3 := h.c3
 have c4 := h.c4
 have c5 := h.c5
 have c6 := h.c6
 have f0 := h.fz 0
 have f1 := h.fz 1
 have f2 := h.fz 2
 have f3 := h.fz 3
 have f4 := h.fz 4
 have f5 := h.fz 5
 have f6 := h.fz 6
 clear h
 go_enter Tryz.func109, Tryz.ntmps109
 go_wp2
 first | go_end0 | refine bodyPost_ret (results_none rfl _ _ _) rfl ?_
 exact ⟨rfl, HF.out.2, _, _, _, _, _, HF.out.1⟩
set_option maxRecDepth 100000 in
theorem first_any (h : RS Pr W B g s xs lv hv bv wv m) (t : ByteArray) : Calls Tryz.prog 153 #[.pointer (some ⟨g, 0, none⟩), .string t] W (GoP Pr W B g { s with phase := 1, start := t.data.toList } xs (.tuple #[])) := by
 have k := keepg_trans (keepg_set W g 2 (.string t)) (keepg_set _ g 0 (.int .i64 1))
 have hx := (h.rbox.s2 (.string t)).s0 (.int .i64 1)
 have HG := hideL (h.goes (s' := { s with phase := 1, start := t.data.toList }) (lv' := lv) (hv' := hv) (bv' := bv) k (.inl ⟨rfl, rfl⟩) (.inl ⟨rfl, rfl⟩) (.inl ⟨rfl, rfl⟩) (by dsimp only [rdC]; rw [bo_of]; exact hx))
 have HB := hideL (keepg_below k h.le h.base)
 have c0 := h.c0
 have c2 := h.c2
 have f0 := h.fz 0
 have f2 := h.fz 2
 clear h k hx
 go_enter Tryz.func153, Tryz.ntmps153
 go_wp2
 first | go_end0 | refine bodyPost_ret (results_none rfl _ _ _) rfl ?_
 exact ⟨rfl, HB.out, _, _, _, _, _, HG.out⟩
/-- The phase alone. -/
theorem phased (h : RS Pr W B g s xs lv hv bv wv m) (p : Nat) : RS Pr (W.setCell ⟨g, 0, none⟩ (.int .i64 p)) B g { s with phase := p } xs lv hv bv wv m ∧ Below B W (W.setCell ⟨g, 0, none⟩ (.int .i64 p)) :=
 ⟨h.goes (s' := { s with phase := p }) (keepg_set _ g 0 _) (.inl ⟨rfl, rfl⟩) (.inl ⟨rfl, rfl⟩) (.inl ⟨rfl, rfl⟩) (h.rbox.s0 _), keepg_below (keepg_set _ g 0 _) h.le h.base⟩
/-- The phase, and how many bytes are to come. -/
theorem lefted (h : RS Pr W B g s xs lv hv bv wv m) (p n : Nat) : RS Pr ((W.setCell ⟨g, 0, none⟩ (.int .i64 p)).setCell ⟨g, 5, none⟩ (.int .i64 n)) B g { s with phase := p, left := n } xs lv hv bv wv m ∧ Below B W ((W.setCell ⟨g, 0, none⟩ (.int .i64 p)).setCell ⟨g, 5, none⟩ (.int .i64 n)) :=
 ⟨h.goes (s' := { s with phase := p, left := n }) (keepg_trans (keepg_set _ g 0 _) (keepg_set _ g 5 _)) (.inl ⟨rfl, rfl⟩) (.inl ⟨rfl, rfl⟩) (.inl ⟨rfl, rfl⟩) ((h.rbox.s0 _).s5 _), keepg_below (keepg_trans (keepg_set _ g 0 _) (keepg_set _ g 5 _)) h.le h.base⟩
set_option maxRecDepth 100000 in
theorem chunkEnd_any (h : RS Pr W B g s xs lv hv bv wv m) (t : ByteArray) : Calls Tryz.prog 156 #[.pointer (some ⟨g, 0, none⟩), .string t] W (GoP Pr W B g (if t.data.toList ≠ [] then s.bad 2 else { s with phase := 3 }) xs (.tuple #[])) := by
 have LF := hideL (fail_any h 2)
 have HP := hideL (phased h 3)
 have c0 := h.c0
 have f0 := h.fz 0
 clear h
 by_cases ht : t = ⟨#[]⟩
 · subst ht
   rw [if_neg (by decide)]
   go_enter Tryz.func156, Tryz.ntmps156
   go_wp2
   first | go_end0 | refine bodyPost_ret (results_none rfl _ _ _) rfl ?_
   exact ⟨rfl, HP.out.2, _, _, _, _, _, HP.out.1⟩
 · have hn := eqs_false ht
   rw [ByteArray.toList_eq ⟨#[]⟩] at hn
   rw [if_pos (fun e => ht (bytes_ext e))]
   clear ht HP
   go_enter Tryz.func156, Tryz.ntmps156
   go_wp2_with (go_at_call 109; refine LF.out.mono ?_; rintro e w2 ⟨rfl, hB, hR⟩)
   first | go_end0 | refine bodyPost_ret (results_none rfl _ _ _) rfl ?_
   exact ⟨rfl, hB, hR⟩
end Go.Proofs.YtafmgoekgijfgaaGreatDoor
namespace Go.Proofs.YtafmgoekgijfgaaGreatDoor
open Go.RowKit Go.Lib

def numsOf (l : List UInt8) : List Int := l.map fun c => (c.toNat : Int)
theorem nums_len (l : List UInt8) : (numsOf l).length = l.length := List.length_map _
theorem nums_get (l : List UInt8) (i : Nat) (h : i < l.length) : (numsOf l).getD i 0 = ((l.getD i 0).toNat : Int) := by
 simp [numsOf, List.getD, h]
theorem nums_bytes (l : List UInt8) : Lib.bytesOf (numsOf l) = l := by
 unfold Lib.bytesOf numsOf
 rw [List.map_map]
 conv => rhs; rw [← List.map_id l]
 refine List.map_congr_left fun c _ => ?_
 simp
theorem bytes_in {w : World} {ao : Option Addr} {n c : Nat} {l : List UInt8} (h : GAt KB w (.slice ao n c) l) : Lib.BytesIn w ao n (numsOf l) := fun hn => by
 obtain ⟨b, o, e, _, _⟩ := gat_byte h hn
 refine ⟨b, o, e, fun i hi => ?_⟩
 obtain ⟨b', o', e', _, hc⟩ := gat_byte h hi
 rw [e] at e'
 injection e' with e'
 injection e' with e1 e2
 subst e1 e2
 rw [hc, nums_get l i (by have := h.le.1; omega)]
theorem hasSuf_any (u v : Value) (a b : List UInt8) (w : World) (ha : GAt KB w u a) (hb : GAt KB w v b) (hl : a.length ≤ 1000000) : Calls Tryz.prog 159 #[u, v] w (fun e w' => e = .returned (.bool (b.isSuffixOf a)) ∧ w' = w) := by
 obtain ⟨ao, ac, rfl⟩ := ha.len
 obtain ⟨bo', bc, rfl⟩ := hb.len
 have h := Any.bytes_HasSuffix_all Tryz.laysnb117 ao bo' a.length ac b.length bc (numsOf a) (numsOf b) w (nums_len a) (nums_len b) ha.le.2 (by omega) (bytes_in ha) (bytes_in hb)
 rw [nums_bytes, nums_bytes] at h
 exact h
theorem suf_one (a : List UInt8) (c : UInt8) : [c].isSuffixOf a = decide (a.getLast? = some c) := by
 by_cases h : a.getLast? = some c
 · rw [decide_eq_true h]
   obtain ⟨l, rfl⟩ : ∃ l, a = l ++ [c] := by
     have hn : a ≠ [] := fun e => by rw [e] at h; cases h
     refine ⟨a.dropLast, ?_⟩
     rw [List.getLast?_eq_some_getLast hn] at h
     injection h with h
     rw [← h, List.dropLast_concat_getLast]
   simp
 · rw [decide_eq_false h]
   cases hb : [c].isSuffixOf a with
   | false => rfl
   | true =>
     rw [List.isSuffixOf_iff_suffix] at hb
     obtain ⟨l, rfl⟩ := hb
     simp at h
theorem trimSuf_any (v u : Value) (ao : Option Addr) (n c : Nat) (l : List UInt8) (d : UInt8) (w : World) (hv : v = .slice ao n c) (ha : GAt KB w (.slice ao n c) l) (hb : GAt KB w u [d]) (hl : l.length ≤ 1000000) : Calls Tryz.prog 160 #[v, u] w (fun e w' => e = .returned (.slice ao (if l.getLast? = some d then n - 1 else n) c) ∧ w' = w) := by
 subst hv
 obtain ⟨bo', bc, rfl⟩ := hb.len
 obtain ⟨hn, hc⟩ := ha.le
 subst hn
 refine (Any.bytes_TrimSuffix_all Tryz.laysnb140 ao bo' l.length c [d].length bc (numsOf l) (numsOf [d]) w (nums_len l) rfl hc (by omega) (bytes_in ha) (bytes_in hb)).mono ?_
 rintro e w' ⟨rfl, rfl⟩
 refine ⟨?_, rfl⟩
 rw [trimSuffixV_eq (nums_len l) (bytes_in ha), nums_bytes, nums_bytes]
 unfold Lib.hasSuffix
 rw [suf_one]
 by_cases h : l.getLast? = some d
 · rw [if_pos h, decide_eq_true h, if_pos rfl]
   rfl
 · rw [if_neg h, decide_eq_false h, if_neg Bool.false_ne_true]
/-- The bytes' clone: memory of its own. -/
theorem bclone_any (v : Value) (l : List UInt8) (w : World) (h : GAt KB w v l) (hl : l.length ≤ 1000000) : Calls Tryz.prog 81 #[v] w (fun e w' => ∃ r : Sl, e = .returned r.v ∧ GRow KB w' w.heap.size r.v l ∧ Below w.heap.size w w') := by
 obtain ⟨ao, ac, rfl⟩ := h.len
 cases ao with
 | none =>
   have hl0 : l = [] := by
     obtain ⟨_, _, hv, _, hn, _⟩ := h
     injection hv with e1 _ _
     exact (hn e1.symm).1
   subst hl0
   refine (Any.bytes_Clone_nil Tryz.laysSlK4 _ _ w).mono ?_
   rintro e w' ⟨rfl, rfl⟩
   exact ⟨⟨none, 0, 0⟩, rfl, GRow.nil _ _, Below.refl _ _⟩
 | some a =>
   refine (Any.bytes_Clone_at Tryz.laysSlK4 a l.length ac (numsOf l) w (nums_len l) (by omega) (fun i hi => ?_)).mono ?_
   · obtain ⟨b, o, e, _, hc⟩ := gat_byte h hi
     injection e with e
     subst e
     rw [addr_plain', hc, nums_get l i hi]
   · rintro e w' ⟨v', rfl, h1, _, h2⟩
     have hr : GRow KB w' w.heap.size v' l := by
       unfold GRow
       have e : KB.all l = (numsOf l).map (Value.int .u8) := by
         unfold Kd.all numsOf
         rw [List.map_map, List.map_eq_flatMap]
         rfl
       rw [e]
       exact h1
     obtain ⟨a', c', e⟩ := hr.gAt.len
     subst e
     exact ⟨⟨a', l.length, c'⟩, rfl, hr, h2⟩
end Go.Proofs.YtafmgoekgijfgaaGreatDoor
namespace Go.Proofs.YtafmgoekgijfgaaGreatDoor
open Go.RowKit Go.Lib
variable {Pr : List (Nat × Obj)} {W : World} {B g : Nat} {s : Ps} {xs : List Rw} {lv hv bv wv : Sl} {m : List RV}

theorem infoR : (Tryz.prog.info? 33).map (fun i => (i.zero, i.size, i.bytes)) = some (some (.agg #[.string ByteArray.empty, .slice none 0 0, .slice none 0 0]), 3, 64) := by kernel_rfl
/-- One message more in the row. -/
theorem push_raw (W : World) (B : Nat) (v : Value) (m : List RV) (h : GRow (KR 33) W B v m) (st : ByteArray) (hv bv : Sl) (hl : m.length ≤ 1000000) (hB : B ≤ W.heap.size) :
   ∃ v' w', (Builtin.append_ #[60, 60] 60 #[v, .slice (some ⟨W.heap.size, 0, none⟩) 1 1]).run Tryz.prog (W.alloc (.cells #[.string st, hv.v, bv.v] 33)) = .ok v' w' ∧ GRow (KR 33) w' B v' (m ++ [⟨st, hv, bv⟩]) ∧ Keep (fun k => v.ownBlock = some k) W w' ∧ Grew v v' W w' := by
 have hm : (1000001 : Nat) ≤ maxLen := by decide
 have hb := (Below.refl W.heap.size W).alloc (Nat.le_refl _) (.cells #[.string st, hv.v, bv.v] 33)
 obtain ⟨v', w', h1, h2, h3, h4⟩ := append_g (K := KR 33) (P := Tryz.prog) 60 (.agg #[.string ByteArray.empty, .slice none 0 0, .slice none 0 0]) 64 Tryz.underlying60 infoR rfl (W.alloc (.cells #[.string st, hv.v, bv.v] 33)) B v m (h.below hb) (.slice (some ⟨W.heap.size, 0, none⟩) 1 1) [⟨st, hv, bv⟩] (GAt.box _ _ (⟨st, hv, bv⟩ : RV) (0, 0) (heap_alloc_new W _) 1 (Nat.le_refl _)) (by simp; omega) (by simp; omega) (by simp; omega)
 refine ⟨v', w', h1, h2, (Keep.alloc _ W _).trans h3 (fun _ hx => .inl hx), fun k hk => ?_⟩
 rcases h4 with h4 | h4
 · exact .inl (h4 ▸ hk)
 · refine .inr ⟨?_, h2.lt hk⟩
   rw [h4] at hk
   injection hk with hk
   rw [← hk, World.size_alloc]
   omega
abbrev psA (p : Nat) (st : ByteArray) (lf e : Nat) : Value := .agg #[.int .i64 p, .slice none 0 0, .string st, .slice none 0 0, .slice none 0 0, .int .i64 lf, .int .i64 e]
set_option maxRecDepth 100000 in
theorem new_any (w : World) : Calls Tryz.prog 69 #[] w fun e w' => e = .returned (psA 0 ⟨#[]⟩ 0 0) ∧ Below w.heap.size w w' := by
 have hx : RBox7 101 (w.alloc (.cells #[.int .i64 0, .slice none 0 0, .string ⟨#[]⟩, .slice none 0 0, .slice none 0 0, .int .i64 0, .int .i64 0] 101)) w.heap.size (.int .i64 0) (.slice none 0 0) (.string ⟨#[]⟩) (.slice none 0 0) (.slice none 0 0) (.int .i64 0) (.int .i64 0) := heap_alloc_new w _
 have r0 := hx.c0
 have r1 := hx.c1
 have r2 := hx.c2
 have r3 := hx.c3
 have r4 := hx.c4
 have r5 := hx.c5
 have r6 := hx.c6
 have HB := hideL ((Below.refl w.heap.size w).alloc (Nat.le_refl _) (.cells #[.int .i64 0, .slice none 0 0, .string ⟨#[]⟩, .slice none 0 0, .slice none 0 0, .int .i64 0, .int .i64 0] 101))
 have f0 := hx.fz 0
 clear hx
 go_enter Tryz.func69, Tryz.ntmps69
 go_wp2
 exact bodyPost_ret (v := psA 0 ⟨#[]⟩ 0 0) (by simp [results, Tryz.results69, go_sem, r0, r1, r2, r3, r4, r5, r6]) rfl ⟨rfl, HB.out⟩
set_option maxRecDepth 100000 in
set_option maxHeartbeats 1000000 in
theorem finish_any (h : RS Pr W B g s xs lv hv bv wv m) (hm : m.length ≤ 1000000) : Calls Tryz.prog 158 #[.pointer (some ⟨g, 0, none⟩)] W (GoP Pr W B g new0 (xs ++ [⟨s.start, s.heads, s.body⟩]) (.tuple #[])) := by
 have c2 := h.c2
 have c3 := h.c3
 have c4 := h.c4
 have c7 := h.c7
 obtain ⟨v', w', hrun, hr, hk, hu⟩ := push_raw W.drew B wv.v m h.drew.rows (bo s.start) hv bv hm h.drew.base
 obtain ⟨wa, wn, wc⟩ := wv
 obtain ⟨ha, hn, hc⟩ := hv
 obtain ⟨ba, bn, bc⟩ := bv
 simp only [Sl.v] at c3 c4 c7 hrun
 have HRUN : HidL ((Builtin.append_ #[60, 60] 60 #[.slice wa wn wc, .slice (some ⟨W.heap.size, 0, none⟩) 1 1]).run Tryz.prog (W.alloc (.cells #[.string (bo s.start), .slice ha hn hc, .slice ba bn bc] 33)).drew = .ok v' w') := ⟨hrun⟩
 have hk2 : Keep (fun k => (Sl.v ⟨wa, wn, wc⟩).ownBlock = some k) W w' := (Keep.drew _ W).trans hk (fun _ hx => .inl hx)
 have hu2 : Grew (Sl.v ⟨wa, wn, wc⟩) v' W w' := hu
 obtain ⟨wa', wn', wc', rfl⟩ : ∃ a n c, v' = .slice a n c := by
   obtain ⟨a, c, e⟩ := hr.gAt.len
   exact ⟨a, _, c, e⟩
 have hb1 : RBox 140 w' g _ _ _ _ _ _ _ _ := h.rbox.keep hk2 (fun e => (h.apW.head _ e).2.2 rfl)
 have hb2 := hb1.s7 (.slice wa' wn' wc')
 have k1 := keepg_set w' g 7 (.slice wa' wn' wc')
 have d0 := hb2.c0
 have d1 := hb2.c1
 have d2 := hb2.c2
 have d3 := hb2.c3
 have d4 := hb2.c4
 have d5 := hb2.c5
 have d6 := hb2.c6
 have d7 := hb1.c7
 have f7 := hb1.fz 7
 have HS : HidL (∀ W2, Below (w'.setCell ⟨g, 7, none⟩ (.slice wa' wn' wc')).heap.size (w'.setCell ⟨g, 7, none⟩ (.slice wa' wn' wc')) W2 → RBox 140 W2 g _ _ _ _ _ _ _ _) := ⟨fun W2 hb => hb2.next hb⟩
 have HO : HidL (∀ W2, Below (w'.setCell ⟨g, 7, none⟩ (.slice wa' wn' wc')).heap.size (w'.setCell ⟨g, 7, none⟩ (.slice wa' wn' wc')) W2 → GoP Pr W B g new0 (xs ++ [⟨s.start, s.heads, s.body⟩]) (.tuple #[]) (.returned (.tuple #[])) (st7 W2 g (.int .i64 0) (.slice none 0 0) (.string ⟨#[]⟩) (.slice none 0 0) (.slice none 0 0) (.int .i64 0) (.int .i64 0))) := ⟨fun W2 hb => by
   have kx : Keep (fun k => k = g) w' (st7 W2 g (.int .i64 0) (.slice none 0 0) (.string ⟨#[]⟩) (.slice none 0 0) (.slice none 0 0) (.int .i64 0) (.int .i64 0)) :=
     keepg_trans (k1.trans (Keep.of_below hb : Keep (fun _ => False) _ _) (fun _ hx => hx.elim)) (keepg_st7 _ _ _ _ _ _ _ _ _)
   have hx := (hb2.next hb).st7 (.int .i64 0) (.slice none 0 0) (.string ⟨#[]⟩) (.slice none 0 0) (.slice none 0 0) (.int .i64 0) (.int .i64 0)
   have ho := h.out (wv' := ⟨wa', wn', wc'⟩) hk2 hr hu2 kx hx
   refine ⟨rfl, ?_, _, _, _, _, _, ho⟩
   exact (hk2.below (fun k e => (h.apW.head _ e).1) h.base).trans (kx.below (fun k e => by rw [e]; exact h.le) (Nat.le_trans h.base hk2.size))⟩
 have LN := hideL (fun W => new_any W)
 have A := h.alloc (.cells #[.string (bo s.start), .slice ha hn hc, .slice ba bn bc] 33)
 have a2 := hideL A.c2
 have a3 := hideL A.c3
 have a4 := hideL A.c4
 have a7 := A.c7
 have b2 := hideL hb1.c2
 have b3 := hideL hb1.c3
 have b4 := hideL hb1.c4
 have F7 := hideL f7
 have D7 := hideL d7
 have D2 := hideL d2
 have D3 := hideL d3
 have D4 := hideL d4
 simp only [Sl.v] at a2 a3 a4 a7 b2 b3 b4
 clear d0 d1 d2 d3 d4 d5 d6 d7 f7 A
 clear hrun h hk hu hr hk2 hu2 hb1 hb2 k1
 go_enter Tryz.func158, Tryz.ntmps158
 go_wp2_with fail
 refine wp_region_held_drew (S := fun w' => w'.cell? ⟨g, 2, none⟩ = some (.string (bo s.start)) ∧ w'.cell? ⟨g, 3, none⟩ = some (.slice ha hn hc) ∧ w'.cell? ⟨g, 4, none⟩ = some (.slice ba bn bc)) (by kernel_rfl) ⟨c2, c3, c4⟩ (fun hHeld => ?_)
 refine tl 0 rfl hHeld ?_
 try simp only [pA, pB, pC, pD]
 refine tl 1 rfl hHeld ?_
 try simp only [pA, pB, pC, pD]
 refine tl 2 rfl hHeld ?_
 try simp only [pA, pB, pC, pD]
 refine tl 3 rfl hHeld ?_
 try simp only [pA, pB, pC, pD]
 refine tl 5 rfl hHeld ?_
 try simp only [pA, pB, pC, pD]
 refine tl 6 rfl hHeld ?_
 try simp only [pA, pB, pC, pD]
 refine tl 7 rfl hHeld ?_
 try simp only [pA, pB, pC, pD]
 refine tl 8 rfl hHeld ?_
 try simp only [pA, pB, pC, pD]
 refine tm 9 (v := ?_) rfl hHeld ?_ ?_
 rotate_left
 · intro w hSw; (try dsimp only at hSw); (obtain ⟨e2, e3, e4⟩ := hSw); go_simp; first | done | with_reducible rfl
 try simp only [pA, pB, pC, pD]
 refine wpAnyH_ready (rs := [4, 10]) (by kernel_rfl) (by simp) ?_
 refine AllReadyH.cons (o := ⟨_, _, _, _, _, _⟩) rfl (fun K hK => ?_) (AllReadyH.cons (o := ⟨_, _, _, _, _, _⟩) rfl (fun K hK => ?_) AllReadyH.nil)
 · clear hHeld
   go_simp
   refine hK.out _ _ (⟨c2, c3, c4⟩) (fun hHeld => ?_)
   clear hK K
   try simp only [pA, pB, pC, pD]
   refine wpAnyH_ready (rs := [10]) (by kernel_rfl) (by simp) ?_
   refine aC rfl (fun K hK => ?_)
   clear hHeld
   go_simp
   refine hK.out _ _ (⟨a2.out, a3.out, a4.out⟩) (fun hHeld => ?_)
   clear hK K
   try simp only [pA, pB, pC, pD]
   refine wpAnyH_ready (rs := [11]) (by kernel_rfl) (by simp) ?_
   refine aC rfl (fun K hK => ?_)
   clear hHeld
   rw [if_pos (by rfl)]
   refine wp_append_runR _ _ _ _ _ rfl rfl _ _ (.slice wa' wn' wc') w' rfl rfl HRUN.out ?_
   refine hK.out _ _ (⟨b2.out, b3.out, b4.out⟩) (fun hHeld => ?_)
   clear hK K
   try simp only [pA, pB, pC, pD]
   refine tl 12 rfl hHeld ?_
   try simp only [pA, pB, pC, pD]
   refine tl 13 rfl hHeld ?_
   try simp only [pA, pB, pC, pD]
   refine wpAnyH_ready (rs := [14]) (by kernel_rfl) (by simp) ?_
   refine aC rfl (fun K hK => ?_)
   clear hHeld
   have f7 := F7.out
   have d7 := D7.out
   go_simp
   refine hK.out _ _ (⟨D2.out, D3.out, D4.out⟩) (fun hHeld => ?_)
   clear hK K
   try simp only [Act.put]
   refine wpAnyH_done (by kernel_rfl) ?_ _
   clear hHeld
   clear c2 c3 c4 c7 a7
   go_wp2_with (go_at_call 69; refine (LN.out _).mono ?_; rintro e w2 ⟨rfl, hB⟩
                have e0 := (HS.out _ hB).c0
                have e1 := (HS.out _ hB).c1
                have e2 := (HS.out _ hB).c2
                have e3 := (HS.out _ hB).c3
                have e4 := (HS.out _ hB).c4
                have e5 := (HS.out _ hB).c5
                have e6 := (HS.out _ hB).c6
                have f0 := (HS.out _ hB).fz 0
                have f1 := (HS.out _ hB).fz 1
                have f2 := (HS.out _ hB).fz 2
                have f3 := (HS.out _ hB).fz 3
                have f4 := (HS.out _ hB).fz 4
                have f5 := (HS.out _ hB).fz 5
                have f6 := (HS.out _ hB).fz 6
                have HO2 := hideL (HO.out _ hB)
                clear hB)
   first | go_end0 | refine bodyPost_ret (results_none rfl _ _ _) rfl ?_
   exact HO2.out
 · clear hHeld
   go_simp
   refine hK.out _ _ (⟨a2.out, a3.out, a4.out⟩) (fun hHeld => ?_)
   clear hK K
   try simp only [pA, pB, pC, pD]
   refine wpAnyH_ready (rs := [4]) (by kernel_rfl) (by simp) ?_
   refine aC rfl (fun K hK => ?_)
   clear hHeld
   go_simp
   refine hK.out _ _ (⟨a2.out, a3.out, a4.out⟩) (fun hHeld => ?_)
   clear hK K
   try simp only [pA, pB, pC, pD]
   refine wpAnyH_ready (rs := [11]) (by kernel_rfl) (by simp) ?_
   refine aC rfl (fun K hK => ?_)
   clear hHeld
   rw [if_pos (by rfl)]
   refine wp_append_runR _ _ _ _ _ rfl rfl _ _ (.slice wa' wn' wc') w' rfl rfl HRUN.out ?_
   refine hK.out _ _ (⟨b2.out, b3.out, b4.out⟩) (fun hHeld => ?_)
   clear hK K
   try simp only [pA, pB, pC, pD]
   refine tl 12 rfl hHeld ?_
   try simp only [pA, pB, pC, pD]
   refine tl 13 rfl hHeld ?_
   try simp only [pA, pB, pC, pD]
   refine wpAnyH_ready (rs := [14]) (by kernel_rfl) (by simp) ?_
   refine aC rfl (fun K hK => ?_)
   clear hHeld
   have f7 := F7.out
   have d7 := D7.out
   go_simp
   refine hK.out _ _ (⟨D2.out, D3.out, D4.out⟩) (fun hHeld => ?_)
   clear hK K
   try simp only [Act.put]
   refine wpAnyH_done (by kernel_rfl) ?_ _
   clear hHeld
   clear c2 c3 c4 c7 a7
   go_wp2_with (go_at_call 69; refine (LN.out _).mono ?_; rintro e w2 ⟨rfl, hB⟩
                have e0 := (HS.out _ hB).c0
                have e1 := (HS.out _ hB).c1
                have e2 := (HS.out _ hB).c2
                have e3 := (HS.out _ hB).c3
                have e4 := (HS.out _ hB).c4
                have e5 := (HS.out _ hB).c5
                have e6 := (HS.out _ hB).c6
                have f0 := (HS.out _ hB).fz 0
                have f1 := (HS.out _ hB).fz 1
                have f2 := (HS.out _ hB).fz 2
                have f3 := (HS.out _ hB).fz 3
                have f4 := (HS.out _ hB).fz 4
                have f5 := (HS.out _ hB).fz 5
                have f6 := (HS.out _ hB).fz 6
                have HO2 := hideL (HO.out _ hB)
                clear hB)
   first | go_end0 | refine bodyPost_ret (results_none rfl _ _ _) rfl ?_
   exact HO2.out
end Go.Proofs.YtafmgoekgijfgaaGreatDoor
namespace Go.Proofs.YtafmgoekgijfgaaGreatDoor
open Go.RowKit Go.Lib
variable {Pr : List (Nat × Obj)} {W : World} {B g : Nat} {s : Ps} {xs : List Rw} {lv hv bv wv : Sl} {m : List RV}

/-- One byte more; what else stays. -/
theorem push_bK (W : World) (B : Nat) (v : Value) (l : List UInt8) (h : GRow KB W B v l) (c : UInt8) (hl : l.length ≤ 1000000000) (hB : B ≤ W.heap.size) :
   ∃ v' : Sl, ∃ w', (Builtin.append_ #[22, 22] 22 #[v, .slice (some ⟨W.heap.size, 0, none⟩) 1 1]).run Tryz.prog (W.alloc (.cells #[.int .u8 c.toNat] 5)) = .ok v'.v w' ∧ GRow KB w' B v'.v (l ++ [c]) ∧ Keep (fun k => v.ownBlock = some k) W w' ∧ Grew v v'.v W w' := by
 have hm : (1000000001 : Nat) ≤ maxLen := by decide
 have hb := (Below.refl W.heap.size W).alloc (Nat.le_refl _) (.cells #[.int .u8 c.toNat] 5)
 obtain ⟨v', w', h1, h2, h3, h4⟩ := append_g (K := KB) (P := Tryz.prog) 22 (.int .u8 0) 1 Tryz.underlying22 infoB rfl (W.alloc (.cells #[.int .u8 c.toNat] 5)) B v l (h.below hb) (.slice (some ⟨W.heap.size, 0, none⟩) 1 1) [c] (GAt.box _ _ c (0, 0) (heap_alloc_new W _) 1 (Nat.le_refl _)) (by simp; omega) (by simp; omega) (by simp; omega)
 obtain ⟨a, n, e⟩ := h2.gAt.len
 subst e
 refine ⟨⟨a, _, n⟩, w', h1, h2, (Keep.alloc _ W _).trans h3 (fun _ hx => .inl hx), fun k hk => ?_⟩
 rcases h4 with h4 | h4
 · exact .inl (h4 ▸ hk)
 · refine .inr ⟨?_, h2.lt hk⟩
   have hk2 : Value.ownBlock (.slice a (l ++ [c]).length n) = some k := hk
   rw [h4] at hk2
   injection hk2 with hk2
   rw [← hk2, World.size_alloc]
   omega
/-- A byte of a body is put. -/
theorem bodyput (h : RS Pr W B g s xs lv hv bv wv m) (c : UInt8) (hn : s.body.length ≤ 1000000) : ∃ bv' : Sl, ∃ w',
   (Builtin.append_ #[22, 22] 22 #[bv.v, .slice (some ⟨W.heap.size, 0, none⟩) 1 1]).run Tryz.prog (W.alloc (.cells #[.int .u8 c.toNat] 5)) = .ok bv'.v w' ∧
   RBox 140 w' g (.int .i64 s.phase) lv.v (.string (bo s.start)) hv.v bv.v (.int .i64 s.left) (.int .i64 s.err) wv.v ∧ RS Pr (w'.setCell ⟨g, 4, none⟩ bv'.v) B g { s with body := s.body ++ [c] } xs lv hv bv' wv m ∧ Below B W (w'.setCell ⟨g, 4, none⟩ bv'.v) := by
 obtain ⟨bv', w', h1, h2, h3, h4⟩ := push_bK W B bv.v s.body h.body c (by omega) h.base
 have hx := h.rbox.keep (tr := 140) h3 (fun e => (h.apB.head _ e).2.2 rfl)
 refine ⟨bv', w', h1, hx, h.bodied (s' := { s with body := s.body ++ [c] }) h3 h2 h4 (keepg_set w' g 4 bv'.v) rfl rfl (hx.s4 _), ?_⟩
 exact (h3.below (fun k e => (h.apB.head _ e).1) h.base).trans (keepg_below (keepg_set w' g 4 bv'.v) h.le (Nat.le_trans h.base h3.size))
/-- A byte of a line is put. -/
theorem lineput (h : RS Pr W B g s xs lv hv bv wv m) (c : UInt8) (hn : s.line.length ≤ 1000000) : ∃ lv' : Sl, ∃ w',
   (Builtin.append_ #[22, 22] 22 #[lv.v, .slice (some ⟨W.heap.size, 0, none⟩) 1 1]).run Tryz.prog (W.alloc (.cells #[.int .u8 c.toNat] 5)) = .ok lv'.v w' ∧
   RBox 140 w' g (.int .i64 s.phase) lv.v (.string (bo s.start)) hv.v bv.v (.int .i64 s.left) (.int .i64 s.err) wv.v ∧ RS Pr (w'.setCell ⟨g, 1, none⟩ lv'.v) B g { s with line := s.line ++ [c] } xs lv' hv bv wv m ∧ Below B W (w'.setCell ⟨g, 1, none⟩ lv'.v) := by
 obtain ⟨lv', w', h1, h2, h3, h4⟩ := push_bK W B lv.v s.line h.line c (by omega) h.base
 have hx := h.rbox.keep (tr := 140) h3 (fun e => (h.ap.head _ e).2.2 rfl)
 refine ⟨lv', w', h1, hx, h.lined (s' := { s with line := s.line ++ [c] }) h3 h2 h4 (keepg_set w' g 1 lv'.v) rfl rfl (hx.s1 _), ?_⟩
 exact (h3.below (fun k e => (h.ap.head _ e).1) h.base).trans (keepg_below (keepg_set w' g 1 lv'.v) h.le (Nat.le_trans h.base h3.size))
/-- How many are to come. -/
theorem onleft (h : RS Pr W B g s xs lv hv bv wv m) (n : Nat) : RS Pr (W.setCell ⟨g, 5, none⟩ (.int .i64 n)) B g { s with left := n } xs lv hv bv wv m ∧ Below B W (W.setCell ⟨g, 5, none⟩ (.int .i64 n)) :=
 ⟨h.goes (s' := { s with left := n }) (keepg_set _ g 5 _) (.inl ⟨rfl, rfl⟩) (.inl ⟨rfl, rfl⟩) (.inl ⟨rfl, rfl⟩) (h.rbox.s5 _), keepg_below (keepg_set _ g 5 _) h.le h.base⟩
set_option maxRecDepth 100000 in
set_option maxHeartbeats 1000000 in
theorem body_any (h : RS Pr W B g s xs lv hv bv wv m) (hg : goodS s) (h1 : 0 < s.left) (hm : m.length ≤ 1000000) (c : UInt8) :
   Calls Tryz.prog 111 #[.pointer (some ⟨g, 0, none⟩), .int .u8 c.toNat] W (GoP Pr W B g (s.byte c).1 (xs ++ (s.byte c).2) (.tuple #[])) := by
 have hbn := hg.body
 obtain ⟨bv', w', hrun, hx, hR, hBW⟩ := bodyput h c (by omega)
 have c4 := h.c4
 obtain ⟨k, hk⟩ : ∃ k, s.left = k + 1 := ⟨s.left - 1, by omega⟩
 have L1 := onleft hR k
 have LN := hideL L1
 have LF := hideL (finish_any L1.1 hm)
 have LP := hideL (phased L1.1 5)
 have d0 := hx.c0
 have d5 := hx.c5
 have d4 := hx.c4
 have F4 := hx.fz 4
 have F5 := hx.fz 5
 have F0 := hx.fz 0
 have hko : ((k + 1 : Nat) : Int) = (k : Int) + 1 := by omega
 have wk2 : IntKind.i64.wrap ((k : Int) + 1 - 1) = (k : Int) := by rw [IntWalk.i64_in _ (by omega)]; omega
 rw [hk, hko] at d5
 obtain ⟨ba, bn, bc⟩ := bv
 obtain ⟨ba', bn', bc'⟩ := bv'
 simp only [Sl.v] at c4 hrun d4
 have HRUN := hideL hrun
 have HBW := hideL hBW
 unfold Ps.byte
 rw [hk]
 clear hrun hR hBW h L1 hg hx hko
 by_cases hk0 : k = 0
 · subst hk0
   rw [if_neg (by decide)]
   clear wk2
   by_cases hp : s.phase = 2
   · rw [if_pos hp]
     rw [hp] at d0
     clear LP
     go_enter Tryz.func111, Tryz.ntmps111
     go_wp2_with (first
       | (at_builtin; refine wpList_append_runP rfl (.tmp 10) (.tmp 12) 22 22 22 rfl rfl _ _ (.slice ba' bn' bc') w' rfl rfl HRUN.out ?_)
       | (go_at_call 158; refine LF.out.mono ?_; intro e w3 hG; obtain ⟨rfl, hB, hR⟩ := (GoP.after (HBW.out.trans LN.out.2) hG)))
     first | go_end0 | refine bodyPost_ret (results_none rfl _ _ _) rfl ?_
     exact ⟨rfl, hB, hR⟩
   · rw [if_neg hp, List.append_nil]
     have i2 : ((s.phase : Int) == 2) = false := beq_eq_false_iff_ne.2 (by omega)
     clear hp LF
     go_enter Tryz.func111, Tryz.ntmps111
     go_wp2_with (at_builtin; refine wpList_append_runP rfl (.tmp 10) (.tmp 12) 22 22 22 rfl rfl _ _ (.slice ba' bn' bc') w' rfl rfl HRUN.out ?_)
     first | go_end0 | refine bodyPost_ret (results_none rfl _ _ _) rfl ?_
     exact ⟨rfl, (HBW.out.trans LN.out.2).trans LP.out.2, _, _, _, _, _, LP.out.1⟩
 · rw [if_pos (by omega), List.append_nil]
   have i0 : ((k : Int) == 0) = false := beq_eq_false_iff_ne.2 (by omega)
   clear LF LP hk0
   go_enter Tryz.func111, Tryz.ntmps111
   go_wp2_with (at_builtin; refine wpList_append_runP rfl (.tmp 10) (.tmp 12) 22 22 22 rfl rfl _ _ (.slice ba' bn' bc') w' rfl rfl HRUN.out ?_)
   first | go_end0 | refine bodyPost_ret (results_none rfl _ _ _) rfl ?_
   exact ⟨rfl, HBW.out.trans LN.out.2, _, _, _, _, _, LN.out.1⟩
end Go.Proofs.YtafmgoekgijfgaaGreatDoor
namespace Go.Proofs.YtafmgoekgijfgaaGreatDoor
open Go.RowKit Go.Lib
variable {Pr : List (Nat × Obj)} {W : World} {B g : Nat} {s : Ps} {xs : List Rw} {lv hv bv wv : Sl} {m : List RV}

/-- What a line's byte makes of the reading; whether the line is whole. -/
def enP (s : Ps) (c : UInt8) : Ps × Bool := match takL s.line c with
 | .more l => ({ s with line := l }, false)
 | .bad e => (s.bad e, false)
 | .line _ => (s, true)
/-- A row of one byte that is built. -/
theorem one_gat (w : World) (c : UInt8) : GAt KB (w.alloc (.cells #[.int .u8 c.toNat] 5)) (.slice (some ⟨w.heap.size, 0, none⟩) 1 1) [c] := GAt.box _ _ c (0, 0) (heap_alloc_new w _) 1 (Nat.le_refl _)
set_option maxRecDepth 100000 in
set_option maxHeartbeats 2000000 in
theorem ends_any (h : RS Pr W B g s xs lv hv bv wv m) (hp : partL s.line) (c : UInt8) :
   Calls Tryz.prog 112 #[.pointer (some ⟨g, 0, none⟩), .int .u8 c.toNat] W (GoP Pr W B g (enP s c).1 xs (.bool (enP s c).2)) := by
 have hlen := part_len hp
 have HS1 := hideL (h.alloc (.cells #[.int .u8 13] 5))
 have HB1 := hideL ((Below.refl W.heap.size W).alloc (Nat.le_refl _) (.cells #[.int .u8 13] 5))
 have LH := hideL (hasSuf_any lv.v _ s.line [13] (W.alloc (.cells #[.int .u8 13] 5)) HS1.out.line.gAt (one_gat W 13) (by omega))
 rw [suf_one] at LH
 have c1 := h.c1
 have hBase := h.base
 unfold enP takL
 by_cases hl : s.line.getLast? = some 13
 · rw [decide_eq_true hl] at LH
   rw [if_pos hl]
   by_cases h10 : c = 10
   · subst h10
     rw [if_pos rfl]
     simp only
     obtain ⟨la, ln, lc⟩ := lv
     simp only [Sl.v] at c1 LH
     clear hl hp h
     go_enter Tryz.func112, Tryz.ntmps112
     go_wp2_with (go_at_call 159; refine LH.out.mono ?_; rintro e w2 ⟨rfl, rfl⟩)
     go_ret
     exact ⟨rfl, HB1.out.mono hBase, _, _, _, _, _, HS1.out⟩
   · rw [if_neg h10]
     simp only
     have i10 : ((c.toNat : Int) == 10) = false := beq_eq_false_iff_ne.2 (fun e => h10 (UInt8.toNat_inj.1 (by show c.toNat = 10; omega)))
     have LF := hideL (fail_any HS1.out 2)
     obtain ⟨la, ln, lc⟩ := lv
     simp only [Sl.v] at c1 LH
     generalize c.toNat = cn at *
     clear hl hp h h10
     go_enter Tryz.func112, Tryz.ntmps112
     go_wp2_with (first
       | (go_at_call 159; refine LH.out.mono ?_; rintro e w2 ⟨rfl, rfl⟩)
       | (go_at_call 109; refine LF.out.mono ?_; intro e w3 hG; obtain ⟨rfl, hB, hR⟩ := (GoP.after (HB1.out.mono hBase) hG)))
     go_ret
     exact ⟨rfl, hB, hR⟩
 · rw [decide_eq_false hl] at LH
   rw [if_neg hl]
   by_cases h10 : c = 10
   · subst h10
     rw [if_pos rfl]
     simp only
     have LF := hideL (fail_any HS1.out 2)
     obtain ⟨la, ln, lc⟩ := lv
     simp only [Sl.v] at c1 LH
     clear hl hp h
     go_enter Tryz.func112, Tryz.ntmps112
     go_wp2_with (first
       | (go_at_call 159; refine LH.out.mono ?_; rintro e w2 ⟨rfl, rfl⟩)
       | (go_at_call 109; refine LF.out.mono ?_; intro e w3 hG; obtain ⟨rfl, hB, hR⟩ := (GoP.after (HB1.out.mono hBase) hG)))
     go_ret
     exact ⟨rfl, hB, hR⟩
   · rw [if_neg h10]
     have i10 : ((c.toNat : Int) == 10) = false := beq_eq_false_iff_ne.2 (fun e => h10 (UInt8.toNat_inj.1 (by show c.toNat = 10; omega)))
     obtain ⟨lv', w', hrun, hx, hR, hBW⟩ := lineput HS1.out c (by omega)
     have hsz : (w'.setCell ⟨g, 1, none⟩ lv'.v).heap.size = w'.heap.size := by simp
     have a1 := HS1.out.c1
     have x1 := hx.c1
     have r1 := hR.c1
     have F1 := hx.fz 1
     have hr3 := hR.alloc (.cells #[.int .u8 13] 5)
     have hb3 := (Below.refl (w'.setCell ⟨g, 1, none⟩ lv'.v).heap.size (w'.setCell ⟨g, 1, none⟩ lv'.v)).alloc (Nat.le_refl _) (.cells #[.int .u8 13] 5)
     have hb3' := (HB1.out.mono hBase).trans (hBW.trans (hb3.mono hR.base))
     have HB3 := hideL hb3'
     have HR3 := hideL hr3
     have q1 := hr3.c1
     obtain ⟨la', ln', lc'⟩ := lv'
     have hg13 := one_gat (w'.setCell ⟨g, 1, none⟩ (Sl.v ⟨la', ln', lc'⟩)) 13
     rw [hsz] at hg13
     have lt := trimSuf_any _ _ la' ln' lc' (s.line ++ [c]) 13 _ rfl hr3.line.gAt hg13 (by simp; omega)
     have hln : ln' = s.line.length + 1 := by
       have := hr3.line.gAt.le.1
       simpa using this
     rw [World.size_alloc] at hrun
     obtain ⟨la, ln, lc⟩ := lv
     simp only [Sl.v] at c1 LH a1 x1 r1 F1 hrun q1 lt
     have HRUN := hideL hrun
     by_cases h13 : c = 13
     · subst h13
       rw [if_pos rfl]
       simp only
       rw [if_pos (by simp)] at lt
       have LT := hideL lt
       have hle : ¬ ((578 : Int) < ((ln' - 1 : Nat) : Int)) := by
         obtain ⟨a, ha1, ha2, ha⟩ := hp
         rcases ha with ha | ha
         · rw [ha] at hln; omega
         · exact absurd (by rw [ha]; simp) hl
       clear hl hp h h10 hx hR hBW hr3 hb3 hb3' hg13 lt hrun hln hlen hsz
       go_enter Tryz.func112, Tryz.ntmps112
       go_wp2_with (first
         | (go_at_call 159; refine LH.out.mono ?_; rintro e w2 ⟨rfl, rfl⟩)
         | (at_builtin; refine wpList_append_runP rfl (.tmp 32) (.tmp 34) 22 22 22 rfl rfl _ _ (.slice la' ln' lc') w' rfl rfl HRUN.out ?_)
         | (go_at_call 160; refine LT.out.mono ?_; rintro e w2 ⟨rfl, rfl⟩))
       go_ret
       exact ⟨rfl, HB3.out, _, _, _, _, _, HR3.out⟩
     · rw [if_neg h13]
       rw [if_neg (by simp; exact h13)] at lt
       have LT := hideL lt
       by_cases h578 : 578 ≤ s.line.length
       · rw [if_pos h578]
         simp only
         have hle : ((578 : Int) < ((ln' : Nat) : Int)) := by omega
         have LF := hideL (fail_any HR3.out 6)
         generalize c.toNat = cn at *
         clear hl hp h h10 h13 hx hR hBW hr3 hb3 hb3' hg13 lt hrun hln hlen hsz h578
         go_enter Tryz.func112, Tryz.ntmps112
         go_wp2_with (first
           | (go_at_call 159; refine LH.out.mono ?_; rintro e w2 ⟨rfl, rfl⟩)
           | (at_builtin; refine wpList_append_runP rfl (.tmp 32) (.tmp 34) 22 22 22 rfl rfl _ _ (.slice la' ln' lc') w' rfl rfl HRUN.out ?_)
           | (go_at_call 160; refine LT.out.mono ?_; rintro e w2 ⟨rfl, rfl⟩)
           | (go_at_call 109; refine LF.out.mono ?_; intro e w3 hG; obtain ⟨rfl, hB, hR⟩ := (GoP.after HB3.out hG)))
         go_ret
         exact ⟨rfl, hB, hR⟩
       · rw [if_neg h578]
         simp only
         have hle : ¬ ((578 : Int) < ((ln' : Nat) : Int)) := by omega
         generalize c.toNat = cn at *
         clear hl hp h h10 h13 hx hR hBW hr3 hb3 hb3' hg13 lt hrun hln hlen hsz h578
         go_enter Tryz.func112, Tryz.ntmps112
         go_wp2_with (first
           | (go_at_call 159; refine LH.out.mono ?_; rintro e w2 ⟨rfl, rfl⟩)
           | (at_builtin; refine wpList_append_runP rfl (.tmp 32) (.tmp 34) 22 22 22 rfl rfl _ _ (.slice la' ln' lc') w' rfl rfl HRUN.out ?_)
           | (go_at_call 160; refine LT.out.mono ?_; rintro e w2 ⟨rfl, rfl⟩))
         go_ret
         exact ⟨rfl, HB3.out, _, _, _, _, _, HR3.out⟩
end Go.Proofs.YtafmgoekgijfgaaGreatDoor
