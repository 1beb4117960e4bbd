/- A number of at most 1024 by digits 0-9, a-f: strconv.FormatInt at base 16. -/
import Derived.Test.YtafmgoekgijfgaaGreatDoorORqM1
import Derived.Test.YtafmgoekgijfgaaGreatDoorORqFeed
import Derived.Test.YtafmgoekgijfgaaGreatDoorORqM2
import Derived.LoopN
namespace Go.Proofs.YtafmgoekgijfgaaGreatDoor
open Go.RowKit Go.Lib

/-- What math/bits.TrailingZeros64 asks of its table, at 16. -/
structure EnvT (W : World) : Prop where
 tab : W.cell? ⟨8, 15, none⟩ = some (.int .u8 4)
theorem EnvT.next {W W' : World} (h : EnvT W) (hb : Below W.heap.size W W') : EnvT W' :=
 ⟨(hb.cell (p := ⟨8, 15, none⟩) (Lib.lt_of_cell h.tab)).trans h.tab⟩
def hexZ : Array Value := (List.replicate 65 (.int .u8 0)).toArray
theorem hx_lt {W : World} {k : Nat} {o : Obj} (h : W.heap[k]? = some o) : k < W.heap.size := by
 rcases Nat.lt_or_ge k W.heap.size with h1 | h1
 · exact h1
 · rw [Array.getElem?_eq_none h1] at h; cases h
/-- The buffer: its last three cells. -/
def HexB (W : World) (g : Nat) (a b c : Value) : Prop := ∃ cs : Array Value, W.heap[g]? = some (.cells cs 220 (0, 0)) ∧ cs.size = 65 ∧ cs[62]? = some a ∧ cs[63]? = some b ∧ cs[64]? = some c
theorem HexB.new (w : World) : HexB (w.alloc (.cells hexZ 220)) w.heap.size (.int .u8 0) (.int .u8 0) (.int .u8 0) := ⟨hexZ, heap_alloc_new w _, rfl, rfl, rfl, rfl⟩
theorem HexB.next {W W' : World} {g : Nat} {a b c : Value} (h : HexB W g a b c) (hb : Below W.heap.size W W') : HexB W' g a b c := by
 obtain ⟨cs, h0, h1⟩ := h
 exact ⟨cs, (hb.block g (hx_lt h0)).trans h0, h1⟩
theorem HexB.lt {W : World} {g : Nat} {a b c : Value} (h : HexB W g a b c) : g < W.heap.size := by
 obtain ⟨cs, h0, _⟩ := h
 exact hx_lt h0
theorem HexB.fz {W : World} {g : Nat} {a b c : Value} (h : HexB W g a b c) (i : Nat) : W.frozen? ⟨g, i, none⟩ = false := by
 obtain ⟨cs, h0, _⟩ := h
 exact frozen_of_row W g i _ _ h0
theorem HexB.c2 {W : World} {g : Nat} {a b c : Value} (h : HexB W g a b c) : W.cell? ⟨g, 62, none⟩ = some a := by
 obtain ⟨cs, h0, _, h1, _⟩ := h
 exact (cell_of_row W g 62 _ _ _ h0).trans h1
theorem HexB.c3 {W : World} {g : Nat} {a b c : Value} (h : HexB W g a b c) : W.cell? ⟨g, 63, none⟩ = some b := by
 obtain ⟨cs, h0, _, _, h1, _⟩ := h
 exact (cell_of_row W g 63 _ _ _ h0).trans h1
theorem HexB.c4 {W : World} {g : Nat} {a b c : Value} (h : HexB W g a b c) : W.cell? ⟨g, 64, none⟩ = some c := by
 obtain ⟨cs, h0, _, _, _, h1⟩ := h
 exact (cell_of_row W g 64 _ _ _ h0).trans h1
theorem HexB.s4 {W : World} {g : Nat} {a b c : Value} (h : HexB W g a b c) (v : Value) : HexB (W.setCell ⟨g, 64, none⟩ v) g a b v := by
 obtain ⟨cs, h0, h1, h2, h3, h4⟩ := h
 refine ⟨_, heap_setCell_same W g 64 _ _ v h0, ?_, ?_, ?_, ?_⟩
 all_goals first
   | (rw [Array.getElem?_setIfInBounds, if_neg (by decide)]; assumption)
   | (simp [h1]; done)
theorem HexB.s3 {W : World} {g : Nat} {a b c : Value} (h : HexB W g a b c) (v : Value) : HexB (W.setCell ⟨g, 63, none⟩ v) g a v c := by
 obtain ⟨cs, h0, h1, h2, h3, h4⟩ := h
 refine ⟨_, heap_setCell_same W g 63 _ _ v h0, ?_, ?_, ?_, ?_⟩
 all_goals first
   | (rw [Array.getElem?_setIfInBounds, if_neg (by decide)]; assumption)
   | (simp [h1]; done)
theorem HexB.s2 {W : World} {g : Nat} {a b c : Value} (h : HexB W g a b c) (v : Value) : HexB (W.setCell ⟨g, 62, none⟩ v) g v b c := by
 obtain ⟨cs, h0, h1, h2, h3, h4⟩ := h
 refine ⟨_, heap_setCell_same W g 62 _ _ v h0, ?_, ?_, ?_, ?_⟩
 all_goals first
   | (rw [Array.getElem?_setIfInBounds, if_neg (by decide)]; assumption)
   | (simp [h1]; done)
end Go.Proofs.YtafmgoekgijfgaaGreatDoor
