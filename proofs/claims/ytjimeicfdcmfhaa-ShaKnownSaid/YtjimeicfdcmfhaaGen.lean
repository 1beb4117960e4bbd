/- What the laws over parts share: rows of numbers that came in, cuts, arrays of 32 bytes that are compared. -/
import Derived.Test.YtjimeicfdcmfhaaPl
import Derived.Test.YtjimeicfdcmfhaaOf
import Derived.IntWalk
import Derived.StillTailTactics
import Derived.Deep.RegionHeld3
import Derived.Deep.MidRow
namespace Go.Proofs.Ytjimeicfdcmfhaa
open Go.RowKit

/-- The slice value v reads as the ints xs. -/
def IsAt (w : World) (v : Value) (xs : List Int) : Prop := ∃ (ao : Option Addr) (cap : Nat), v = .slice ao xs.length cap ∧ (ao = none → xs = []) ∧
  ∀ ad, ao = some ad → ∀ i, i < xs.length → ad.spot = none ∧ ad.block < w.heap.size ∧ w.cell? (ad.add i) = some (.int .i64 (nth xs i))

theorem IsAt.below {w w' : World} {v : Value} {xs : List Int} (h : IsAt w v xs) (hb : Below w.heap.size w w') : IsAt w' v xs := by
  obtain ⟨ao, cap, hv, hn, ha⟩ := h
  refine ⟨ao, cap, hv, hn, fun ad had i hi => ?_⟩
  obtain ⟨h0, h1, h2⟩ := ha ad had i hi
  refine ⟨h0, Nat.lt_of_lt_of_le h1 hb.size, (hb.cell (p := ad.add i) ?_).trans h2⟩
  unfold Addr.add
  split <;> exact h1

theorem IsAt.cell {w : World} {ao : Option Addr} {n c : Nat} {xs : List Int} (h : IsAt w (.slice ao n c) xs) {i : Nat} (hi : i < n) : ∃ ad, ao = some ad ∧ ad.spot = none ∧ w.cell? (ad.add i) = some (.int .i64 (nth xs i)) := by
  obtain ⟨ao', cap, hv, hn, ha⟩ := h
  simp at hv
  obtain ⟨rfl, rfl, rfl⟩ := hv
  cases hao : ao with
  | none => rw [hn hao] at hi; simp at hi
  | some ad => obtain ⟨h0, _, h2⟩ := ha ad hao i hi; exact ⟨ad, rfl, h0, h2⟩

theorem IsAt.len {w : World} {v : Value} {xs : List Int} (h : IsAt w v xs) : ∃ ao cap, v = .slice ao xs.length cap := by
  obtain ⟨ao, cap, hv, _⟩ := h
  exact ⟨ao, cap, hv⟩

theorem slAt_own {w : World} {base : Nat} {e : TypeId} {ap : Option Addr} {n cap : Nat} {xs : List Int} (h : w.ownsRow base e 1 (.slice ap n cap) n (xs.map (.int .u8))) : SlAt w (.slice ap n cap) xs := by
  have hl := h.1
  simp at hl
  rcases h.2 with ⟨hv, hn⟩ | ⟨g, c, cur, hv, _, _, hc, _⟩
  · simp at hv
    obtain ⟨rfl, rfl, rfl⟩ := hv
    have hx : xs = [] := List.length_eq_zero_iff.1 hl
    subst hx
    exact ⟨none, 0, rfl, fun _ => ⟨rfl, rfl⟩, Nat.le_refl _, fun ad h => by cases h⟩
  · simp at hv
    obtain ⟨rfl, rfl⟩ := hv
    exact slAt_owned h hl hc

theorem parts_four {w : World} {t : TypeId} {s0 s1 s2 s3 : Value} {x0 x1 x2 x3 : List Int} (a0 : SlAt w s0 x0) (a1 : SlAt w s1 x1) (a2 : SlAt w s2 x2) (a3 : SlAt w s3 x3) : PartsAt (w.alloc (.cells #[s0, s1, s2, s3] t)) w.heap.size 0 [x0, x1, x2, x3] := by
  have hB : Below w.heap.size w (w.alloc (.cells #[s0, s1, s2, s3] t)) := (Below.refl _ _).alloc (Nat.le_refl _) _
  refine ⟨by simp, fun i hi => ?_⟩
  have hc : ∀ j v, (#[s0, s1, s2, s3] : Array Value)[j]? = some v → (w.alloc (.cells #[s0, s1, s2, s3] t)).cell? ⟨w.heap.size, 0 + j, none⟩ = some v := fun j v hv => by
    rw [Nat.zero_add]; exact (cell_of_row _ _ j _ _ _ (heap_alloc_new _ _)).trans hv
  have h : i = 0 ∨ i = 1 ∨ i = 2 ∨ i = 3 := by simp at hi; omega
  rcases h with rfl | rfl | rfl | rfl
  · exact ⟨s0, hc 0 _ rfl, a0.below hB⟩
  · exact ⟨s1, hc 1 _ rfl, a1.below hB⟩
  · exact ⟨s2, hc 2 _ rfl, a2.below hB⟩
  · exact ⟨s3, hc 3 _ rfl, a3.below hB⟩

theorem four_flat (xs : List Int) (k a : Nat) (h : k ≤ a) : [xs.take k, [], (xs.drop k).take (a - k), xs.drop a].flatten = xs := by
  simp only [List.flatten_cons, List.flatten_nil, List.append_nil, List.nil_append]
  rw [← List.append_assoc, ← List.take_add, show k + (a - k) = a by omega, List.take_append_drop]

theorem blk_range {w : World} {g : Nat} {t : TypeId} {k : IntKind} {l : List Int} (h : Blk w g t k l) : w.rangeAt g 0 (l.map (Value.int k)) := fun j v hv => by
  have hj : j < l.length := by
    rcases Nat.lt_or_ge j l.length with h | h
    · exact h
    · simp [h] at hv
  rw [Nat.zero_add, h.cell j hj]
  simp [hj] at hv
  simp [nth, List.getD, hj, hv]

theorem eq36 (C : List Value) (T : List Int) (hC : C = T.map (Value.int .u8)) (hT : T.length = 32) (w : World) : (Op.equalIn 10000 31 (.agg C.toArray) (.agg C.toArray)).run Try.prog w = .ok true w := by
  have h := run_equalIn_cells (P := Try.prog) 9998 31 5 32 .u8 Try.underlying31 Try.underlying5 size5 T T hT hT w
  rw [beq_self_eq_true] at h
  rw [hC]
  exact h

theorem clamp (c : Int) (n a : Nat) (h : a ≤ n) : ∃ m : Nat, a + m ≤ n ∧ (if (if 0 < c then c else 0) < (n : Int) - (a : Int) then (if 0 < c then c else 0) else (n : Int) - (a : Int)) = (m : Int) := by
  refine ⟨(if (if 0 < c then c else 0) < (n : Int) - (a : Int) then (if 0 < c then c else 0) else (n : Int) - (a : Int)).toNat, ?_, ?_⟩ <;> (repeat' split) <;> omega

theorem under36 : Try.prog.underlying 31 = some (.array 32 5) := Try.underlying31

theorem slAt_lit {W : World} {g : Nat} {t : TypeId} {fr : Nat × Nat} {xs : List Int} {cap : Nat} (h : W.heap[g]? = some (.cells (cellsOf .u8 xs) t fr)) (hc : xs.length ≤ cap) : SlAt W (.slice (some ⟨g, 0, none⟩) xs.length cap) xs := by
  refine ⟨_, cap, rfl, (fun h => by cases h), hc, fun ad had i hi => ?_⟩
  cases had
  refine ⟨rfl, (Array.getElem?_eq_some_iff.1 h).1, ?_⟩
  rw [addr_plain, Nat.zero_add, cell_of_row _ _ _ _ _ _ h, get_cellsOf _ _ _ hi]


/-- The bytes of a sum are bytes. -/
theorem bytesTo_range (sv : List Int) : ∀ m, ∀ x ∈ bytesTo sv m, 0 ≤ x ∧ x < 256
  | 0, x, h => by
    rw [bytesTo, zeros32] at h
    have := (List.mem_replicate.1 h).2
    omega
  | m + 1, x, h => by
    rw [bytesTo] at h
    rcases List.mem_or_eq_of_mem_set h with h | h
    · exact bytesTo_range sv m x h
    · rw [h, byteOf]; omega
theorem sumS_range (X : List Int) : ∀ x ∈ sumS X, 0 ≤ x ∧ x < 256 := by rw [sumS, outS]; exact bytesTo_range _ _
theorem nth_range {l : List Int} (h : ∀ x ∈ l, 0 ≤ x ∧ x < 256) (i : Nat) : 0 ≤ nth l i ∧ nth l i < 256 := by
  rw [nth, List.getD]
  rcases Nat.lt_or_ge i l.length with hi | hi
  · rw [List.getElem?_eq_getElem hi]; exact h _ (List.getElem_mem hi)
  · rw [List.getElem?_eq_none hi]; simp

/-- A load of a row, guarded or not. -/
theorem wpList_load_row_w {P : Program} {ops : Array Oper} {rest : List Oper} {o : Oper} {a : Act} {w : World} {Q : Exit → Act → World → Prop} (hw : Region.wanted o (yielded ops a.tmps) = true) (ty : TypeId) (x : Operand) (ho : o.op = .load ty x)
    (g : Nat) (hx : a.eval x = .pointer (some ⟨g, 0, none⟩)) (t : TypeId) (cs : Array Value) (fr : Nat × Nat) (d : TypeDesc) (hg : w.heap[g]? = some (.cells cs t fr))
    (hu : P.underlying ty = some d) (hd : (match d with | .struct _ | .array _ _ => true | _ => false) = true) (hi : (P.info? ty).map (·.size) = some cs.size)
    (h : wpList P ops Q rest (a.put o.dst (.agg cs)) w) : wpList P ops Q (o :: rest) a w :=
  wpList_step fun _ hK => by rw [if_pos hw]; exact wp_load_row ty x ho g hx t cs fr d hg hu hd hi (hK _ _ h)

theorem slAt_ownV {w : World} {base : Nat} {e : TypeId} {v : Value} {n : Nat} {xs : List Int} (h : w.ownsRow base e 1 v n (xs.map (.int .u8))) : SlAt w v xs := by
  rcases h.2 with ⟨rfl, rfl⟩ | ⟨g, c, cur, rfl, _⟩
  · exact slAt_own h
  · exact slAt_own h
theorem zl32 {X : List Int} (h : X.length = 32) : zeros32.length = X.length := h.symm
end Go.Proofs.Ytjimeicfdcmfhaa
