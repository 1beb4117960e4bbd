/- What a call leaves of the memory that is not its own. -/
import Derived.Test.YtgikkjjnoakhdaaDoorRowL
import Derived.Test.YtgikkjjnoakhdaaDoorStrL
namespace Go.Proofs.YtgikkjjnoakhdaaDoor
open Go.RowKit

/-- All blocks that were there stay as they are, but those of F. -/
structure Keep (F : Nat → Prop) (w w' : World) : Prop where
  os : w'.os = w.os
  tape : w'.tape = w.tape
  output : w'.output = w.output
  size : w.heap.size ≤ w'.heap.size
  block : ∀ k, k < w.heap.size → ¬ F k → w'.heap[k]? = w.heap[k]?

theorem Keep.refl (F : Nat → Prop) (w : World) : Keep F w w := ⟨rfl, rfl, rfl, Nat.le_refl _, fun _ _ _ => rfl⟩
theorem Keep.trans {F G : Nat → Prop} {a b c : World} (h : Keep F a b) (k : Keep G b c) (hg : ∀ x, G x → F x ∨ a.heap.size ≤ x) : Keep F a c :=
  ⟨k.os.trans h.os, k.tape.trans h.tape, k.output.trans h.output, Nat.le_trans h.size k.size, fun i hi hf =>
    (k.block i (Nat.lt_of_lt_of_le hi h.size) (fun hgi => by rcases hg i hgi with h1 | h1; exact hf h1; omega)).trans (h.block i hi hf)⟩
theorem Keep.mono {F G : Nat → Prop} {a b : World} (h : Keep F a b) (hg : ∀ x, F x → G x ∨ a.heap.size ≤ x) : Keep G a b :=
  ⟨h.os, h.tape, h.output, h.size, fun i hi hf => h.block i hi (fun hfi => by rcases hg i hfi with h1 | h1; exact hf h1; omega)⟩
theorem Keep.of_below {F : Nat → Prop} {w w' : World} (h : Below w.heap.size w w') : Keep F w w' := ⟨h.os, h.tape, h.output, h.size, fun k hk _ => h.block k hk⟩
theorem Keep.below {F : Nat → Prop} {w w' : World} {B : Nat} (h : Keep F w w') (hF : ∀ k, F k → B ≤ k) (hB : B ≤ w.heap.size) : Below B w w' :=
  ⟨h.os, h.tape, h.output, h.size, fun k hk => h.block k (Nat.lt_of_lt_of_le hk hB) (fun hf => by have := hF k hf; omega)⟩
/-- What was so below B is so still. -/
theorem Keep.through {F : Nat → Prop} {w0 w w' : World} {B : Nat} (h : Keep F w w') (hb : Below B w0 w) (hF : ∀ k, F k → B ≤ k) (hB : B ≤ w.heap.size) : Below B w0 w' := hb.trans (h.below hF hB)
theorem Keep.alloc (F : Nat → Prop) (w : World) (o : Obj) : Keep F w (w.alloc o) := Keep.of_below ((Below.refl _ _).alloc (Nat.le_refl _) o)
theorem Keep.drew (F : Nat → Prop) (w : World) : Keep F w w.drew := Keep.of_below ((Below.refl _ w).drew)
theorem Keep.drewR {F : Nat → Prop} {w w' : World} (h : Keep F w w') : Keep F w w'.drew := h.trans (Keep.drew F w') (fun _ hx => .inl hx)
theorem Keep.set {F : Nat → Prop} (w : World) (p : Addr) (v : Value) (hp : F p.block) : Keep F w (w.setCell p v) := by
  refine ⟨?_, ?_, ?_, by simp, fun k hk hf => ?_⟩
  · exact (Below.setCell (Below.refl 0 w) (Nat.zero_le _) v).os
  · exact (Below.setCell (Below.refl 0 w) (Nat.zero_le _) v).tape
  · exact (Below.setCell (Below.refl 0 w) (Nat.zero_le _) v).output
  · exact Below.heap_setCell _ _ _ _ (fun e => hf (e ▸ hp))

theorem addr_block (a : Addr) (i : Nat) : (a.add i).block = a.block := by unfold Addr.add; split <;> rfl

/-- The block of a slice is not of F. -/
def Off (F : Nat → Prop) (v : Value) : Prop := ∀ k, v.ownBlock = some k → ¬ F k

theorem SlAt.keep {F : Nat → Prop} {w w' : World} {v : Value} {xs : List Int} (h : SlAt w v xs) (hk : Keep F w w') (hf : Off F v) : SlAt w' v xs := by
  obtain ⟨ao, cap, rfl, hn, hc, ha⟩ := h
  refine ⟨ao, cap, rfl, hn, hc, fun ad had i hi => ?_⟩
  subst had
  obtain ⟨h0, h1, h2⟩ := ha ad rfl i hi
  refine ⟨h0, Nat.lt_of_lt_of_le h1 hk.size, ?_⟩
  rw [← h2]
  have hb := hk.block ad.block h1 (hf _ rfl)
  simp only [World.cell?, addr_block, hb]

/-- A row of the call's own that an append makes longer: what it leaves of all else. -/
theorem append_keep (W : World) (B : Nat) (v : Value) (xs : List Int) (h : Row W B v xs) (sv : Value) (ys : List Int) (hs : SlAt W sv ys) (hb : xs.length + ys.length ≤ 140737488355328) (hB : B ≤ W.heap.size) :
    ∃ v' w', (Builtin.append_ #[62, 62] 62 #[v, sv]).run Tryd.prog W = .ok v' w' ∧ Row w' B v' (xs ++ ys) ∧ Keep (fun k => v.ownBlock = some k) W w' ∧ (v'.ownBlock = v.ownBlock ∨ v'.ownBlock = some W.heap.size) := by
  obtain ⟨i0, hi, hz0, hz1, hz2⟩ := info_parts Tryd.info5
  obtain ⟨v', w', hrun, hown, hgr, hat⟩ := append_sl (P := Tryd.prog) (w := W) (t := 62) (e := 5) Tryd.underlying62 hi hz0 hz1 hz2 B v xs.length xs h sv ys hs hb hB 62
  refine ⟨v', w', hrun, by unfold Row; rw [List.length_append]; exact hown, ⟨hgr.os, hgr.tape, hgr.output, hgr.size, fun k hk hf => hgr.block k hk (fun e => hf e.symm)⟩, hat⟩

theorem Row.keep {F : Nat → Prop} {W W' : World} {B : Nat} {v : Value} {xs : List Int} (h : Row W B v xs) (hk : Keep F W W') (hf : Off F v) : Row W' B v xs := by
  obtain ⟨h1, h2 | ⟨g, cap, cur, e1, e2, e3, r⟩⟩ := h
  · exact ⟨h1, .inl h2⟩
  · refine ⟨h1, .inr ⟨g, cap, cur, e1, e2, ?_, r⟩⟩
    rw [hk.block g (Array.getElem?_eq_some_iff.1 e3).1 (hf g (by rw [e1]; rfl))]
    exact e3

theorem nil_slAt (W : World) : SlAt W (.slice none 0 0) [] := ⟨none, 0, rfl, fun _ => ⟨rfl, rfl⟩, Nat.le_refl _, fun ad h => by cases h⟩
end Go.Proofs.YtgikkjjnoakhdaaDoor
