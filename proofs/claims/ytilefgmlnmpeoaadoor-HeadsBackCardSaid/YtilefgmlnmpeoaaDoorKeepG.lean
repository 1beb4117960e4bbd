/- What a call leaves of the memory that is not its own; no program is named here. -/
import Derived.WalkKit
import Derived.Below
namespace Go.Proofs.YtilefgmlnmpeoaaDoor
open Go.RowKit

/-- All blocks that were there stay as they are, but those of F. -/
structure Keep (F : Nat → Prop) (w w' : World) : Prop where
  os : w'.os = w.os
  tape : w'.tape = w.tape
  output : w'.output = w.output
  size : w.heap.size ≤ w'.heap.size
  block : ∀ k, k < w.heap.size → ¬ F k → w'.heap[k]? = w.heap[k]?

theorem Keep.refl (F : Nat → Prop) (w : World) : Keep F w w := ⟨rfl, rfl, rfl, Nat.le_refl _, fun _ _ _ => rfl⟩
theorem Keep.trans {F G : Nat → Prop} {a b c : World} (h : Keep F a b) (k : Keep G b c) (hg : ∀ x, G x → F x ∨ a.heap.size ≤ x) : Keep F a c :=
  ⟨k.os.trans h.os, k.tape.trans h.tape, k.output.trans h.output, Nat.le_trans h.size k.size, fun i hi hf =>
    (k.block i (Nat.lt_of_lt_of_le hi h.size) (fun hgi => by rcases hg i hgi with h1 | h1; exact hf h1; omega)).trans (h.block i hi hf)⟩
theorem Keep.mono {F G : Nat → Prop} {a b : World} (h : Keep F a b) (hg : ∀ x, F x → G x ∨ a.heap.size ≤ x) : Keep G a b :=
  ⟨h.os, h.tape, h.output, h.size, fun i hi hf => h.block i hi (fun hfi => by rcases hg i hfi with h1 | h1; exact hf h1; omega)⟩
theorem Keep.of_below {F : Nat → Prop} {w w' : World} (h : Below w.heap.size w w') : Keep F w w' := ⟨h.os, h.tape, h.output, h.size, fun k hk _ => h.block k hk⟩
theorem Keep.below {F : Nat → Prop} {w w' : World} {B : Nat} (h : Keep F w w') (hF : ∀ k, F k → B ≤ k) (hB : B ≤ w.heap.size) : Below B w w' :=
  ⟨h.os, h.tape, h.output, h.size, fun k hk => h.block k (Nat.lt_of_lt_of_le hk hB) (fun hf => by have := hF k hf; omega)⟩
/-- What was so below B is so still. -/
theorem Keep.through {F : Nat → Prop} {w0 w w' : World} {B : Nat} (h : Keep F w w') (hb : Below B w0 w) (hF : ∀ k, F k → B ≤ k) (hB : B ≤ w.heap.size) : Below B w0 w' := hb.trans (h.below hF hB)
theorem Keep.alloc (F : Nat → Prop) (w : World) (o : Obj) : Keep F w (w.alloc o) := Keep.of_below ((Below.refl _ _).alloc (Nat.le_refl _) o)
theorem Keep.drew (F : Nat → Prop) (w : World) : Keep F w w.drew := Keep.of_below ((Below.refl _ w).drew)
theorem Keep.drewR {F : Nat → Prop} {w w' : World} (h : Keep F w w') : Keep F w w'.drew := h.trans (Keep.drew F w') (fun _ hx => .inl hx)
theorem Keep.set {F : Nat → Prop} (w : World) (p : Addr) (v : Value) (hp : F p.block) : Keep F w (w.setCell p v) := by
  refine ⟨?_, ?_, ?_, by simp, fun k hk hf => ?_⟩
  · exact (Below.setCell (Below.refl 0 w) (Nat.zero_le _) v).os
  · exact (Below.setCell (Below.refl 0 w) (Nat.zero_le _) v).tape
  · exact (Below.setCell (Below.refl 0 w) (Nat.zero_le _) v).output
  · exact Below.heap_setCell _ _ _ _ (fun e => hf (e ▸ hp))

theorem addr_block (a : Addr) (i : Nat) : (a.add i).block = a.block := by unfold Addr.add; split <;> rfl

/-- The block of a slice is not of F. -/
def Off (F : Nat → Prop) (v : Value) : Prop := ∀ k, v.ownBlock = some k → ¬ F k
end Go.Proofs.YtilefgmlnmpeoaaDoor
