/- A string's bytes: '[]byte(s)', and an append to it. -/
import Derived.Test.YtgikkjjnoakhdaaDoorPl
import Derived.Test.YtgikkjjnoakhdaaDoorLow
import Derived.Test.YtgikkjjnoakhdaaDoorRowL
import Derived.Lib.ConvBytes
import Derived.Lib.FrozenHead2
namespace Go.Proofs.YtgikkjjnoakhdaaDoor
open Go.RowKit

/-- A string's bytes as numbers. -/
def bytesOf (s : ByteArray) : List Int := s.data.toList.map (fun b => (b.toNat : Int))
theorem length_bytesOf (s : ByteArray) : (bytesOf s).length = s.size := by rw [bytesOf, List.length_map]; rfl
theorem bytesOf_range (s : ByteArray) : ∀ x ∈ bytesOf s, 0 ≤ x ∧ x < 256 := by
  intro x hx
  obtain ⟨b, _, rfl⟩ := List.mem_map.1 hx
  have := b.toNat_lt
  omega
theorem bytesOf_str (xs : List Int) (h : ∀ x ∈ xs, 0 ≤ x ∧ x < 256) : bytesOf (strOfNums xs) = xs := by
  rw [bytesOf, strOfNums_data, List.map_map]
  conv => rhs; rw [← List.map_id xs]
  refine List.map_congr_left fun x hx => ?_
  obtain ⟨h0, h1⟩ := h x hx
  simp
  omega

/-- The row that '[]byte(s)' makes. -/
def StrRow (W : World) (g : Nat) (c : Nat) (xs : List Int) : Prop := ∃ cur : Array Value, W.heap[g]? = some (.cells cur 5 (cur.size, cur.size + 1)) ∧ cur.size = c ∧ xs.length ≤ c ∧ c ≤ maxLen ∧ cur.toList.take xs.length = xs.map (.int .u8)

theorem StrRow.lt {W : World} {g c : Nat} {xs : List Int} (h : StrRow W g c xs) : g < W.heap.size := by obtain ⟨cur, hg, _⟩ := h; exact (Array.getElem?_eq_some_iff.1 hg).1
theorem StrRow.alloc {W : World} {g c : Nat} {xs : List Int} (h : StrRow W g c xs) (o : Obj) : StrRow (W.alloc o) g c xs := by
  have hl := h.lt
  obtain ⟨cur, hg, hr⟩ := h
  exact ⟨cur, (Below.heap_alloc W o g hl).trans hg, hr⟩
theorem StrRow.below {W W' : World} {g c : Nat} {xs : List Int} (h : StrRow W g c xs) (hb : Below W.heap.size W W') : StrRow W' g c xs := by
  have hl := h.lt
  obtain ⟨cur, hg, hr⟩ := h
  exact ⟨cur, (hb.block g hl).trans hg, hr⟩
theorem StrRow.slAt {W : World} {g c : Nat} {xs : List Int} (h : StrRow W g c xs) : SlAt W (.slice (some ⟨g, 0, none⟩) xs.length c) xs := by
  have hl := h.lt
  obtain ⟨cur, hg, hc, hn, _, ht⟩ := h
  refine ⟨_, c, rfl, (fun h => by cases h), hn, fun ad had i hi => ?_⟩
  cases had
  refine ⟨rfl, hl, ?_⟩
  rw [addr_plain', Nat.zero_add, cell_of_row W g i cur 5 _ hg]
  have h1 : (cur.toList.take xs.length)[i]? = some (.int .u8 (nth xs i)) := by
    rw [ht, List.getElem?_map, List.getElem?_eq_getElem hi]
    simp [nth, List.getD, hi]
  rw [List.getElem?_take, if_pos hi] at h1
  simpa using h1

theorem str_bytes (W : World) (s : ByteArray) (hs : s.size ≤ maxLen) : ∃ c W', (convert 9 62 (.string s)).run Tryd.prog W = .ok (.slice (some ⟨W.heap.size, 0, none⟩) s.size c) W' ∧ StrRow W' W.heap.size c (bytesOf s) ∧ Below W.heap.size W W' ∧ W'.heap.size = W.heap.size + 1 := by
  have hcap := grownCap_ge W s.size 0 5
  have hcm := grownCap_le_maxLen W s.size 0 5 hs
  have hsz : (Lib.bytesCells W 5 s).size = grownCap W s.size 0 5 := by
    simp [Lib.bytesCells]
    have : s.data.size = s.size := rfl
    omega
  refine ⟨_, Lib.bytesWorld W 5 s, Lib.run_convert_string_bytes W 9 62 5 s (u := .string) Tryd.underlying9 Tryd.underlying62 Tryd.underlying5, ⟨Lib.bytesCells W 5 s, Lib.bytesWorld_at_new W 5 s, hsz, by rw [length_bytesOf]; exact hcap, hcm, ?_⟩, ?_, Lib.bytesWorld_size W 5 s⟩
  · rw [length_bytesOf, Lib.bytesCells, Array.toList_append, List.take_append_of_le_length (by simp), bytesOf, List.map_map]
    rw [Array.toList_map, List.take_of_length_le (by simp)]
    rfl
  · refine ⟨?_, ?_, ?_, by rw [Lib.bytesWorld_size]; omega, fun j hj => Lib.bytesWorld_at_old W 5 s j hj⟩ <;> simp [Lib.bytesWorld, World.freeze, World.alloc, World.drew, -World.alloc_eq, -World.drew_eq]

/-- Cells that are stored ahead of a row's mark. -/
theorem run_storeCells_ahead (P : Program) (g o : Nat) (t : TypeId) (fz : Nat × Nat) : ∀ (vs : List Value) (i : Nat) (cur : Array Value) (w : World), w.heap[g]? = some (.cells cur t fz) → o + i + vs.length ≤ fz.1 → o + i + vs.length ≤ cur.size → (∀ v ∈ vs, v.oneCell' = true) →
    (storeCells ⟨g, o, none⟩ vs i).run P w = .ok () (w.setRow g (cur.toList.take (o + i) ++ vs ++ cur.toList.drop (o + i + vs.length)).toArray)
  | [], i, cur, w, hg, _, _, _ => by
    simp only [storeCells, List.append_nil, List.length_nil, Nat.add_zero, List.take_append_drop, Array.toArray_toList]
    rw [setRow_self w g cur t fz hg]
    rfl
  | v :: rest, i, cur, w, hg, hfz, hl, h1 => by
    have hi : o + i < cur.size := by simp at hl; omega
    have hadd : (⟨g, o, none⟩ : Addr).add i = ⟨g, o + i, none⟩ := by unfold Addr.add; split <;> simp_all
    have hcell : w.cell? ⟨g, o + i, none⟩ = some cur[o + i] := by simp [World.cell?, hg, hi]
    have hfro : w.frozen? ⟨g, o + i, none⟩ = false := by
      obtain ⟨lo, hi'⟩ := fz
      simp only [World.frozen?, hg, Bool.and_eq_false_iff, decide_eq_false_iff_not]
      left
      simp at hfz
      omega
    have hst : (store ((⟨g, o, none⟩ : Addr).add i) v).run P w = .ok () (w.setRow g (cur.setIfInBounds (o + i) v)) := by
      rw [hadd, run_store P w _ v _ (h1 v (by simp)), hcell]
      simp [hfro, setCell_eq_setRow w g (o + i) cur t fz v hg]
    have ih := run_storeCells_ahead P g o t fz rest (i + 1) (cur.setIfInBounds (o + i) v) (w.setRow g (cur.setIfInBounds (o + i) v)) (setRow_heap w g cur _ t _ hg) (by simp at hfz ⊢; omega) (by simp at hl ⊢; omega) (fun x hx => h1 x (by simp [hx]))
    simp only [storeCells, Sem.run_bind, hst, Result.andThen_ok, ih, setRow_setRow]
    congr 3
    have e := list_seg_step cur.toList (o + i) v rest (by simp at hl ⊢; omega)
    simpa [Array.toList_setIfInBounds, Nat.add_assoc] using e

theorem append_str (W : World) (g c B : Nat) (xs : List Int) (h : StrRow W g c xs) (hB : B ≤ g) (sv : Value) (ys : List Int) (hs : SlAt W sv ys) (hb : xs.length + ys.length ≤ 140737488355328) :
    ∃ v' w', (Builtin.append_ #[62, 62] 62 #[.slice (some ⟨g, 0, none⟩) xs.length c, sv]).run Tryd.prog W = .ok v' w' ∧ SlAt w' v' (xs ++ ys) ∧ (∀ w0, Below B w0 W → Below B w0 w') := by
  obtain ⟨i0, hi, hz0, hz1, hz2⟩ := info_parts Tryd.info5
  have hlt := h.lt
  have hsl := h.slAt
  obtain ⟨cur, hg, hc, hn, hcm, ht⟩ := h
  obtain ⟨ao, cap, rfl, hnil, hle, ha⟩ := hs
  cases hao : ao with
  | none =>
    obtain ⟨rfl, _⟩ := hnil hao
    refine ⟨.slice (some ⟨g, 0, none⟩) xs.length c, W, ?_, by simpa using hsl, fun _ hb => hb⟩
    simp [Builtin.append_, run_underlying Tryd.underlying62, sizeOf, typeInfo, hi, Builtin.lenOf, Builtin.firstCells, hn, storeCells]
  | some ad =>
    have hnews := slAt_news ha ad hao
    by_cases hroom : xs.length + ys.length ≤ c
    · have hf := run_firstCells_some (P := Tryd.prog) W i0.size ys.length ad ys.length cap (ys.map (.int .u8)) (by rw [hz1]; simp) hnews
      rw [hz1] at hf
      have hst := run_storeCells_ahead Tryd.prog g xs.length 5 _ (ys.map (.int .u8)) 0 cur W hg (by simp; omega) (by simp; omega) (ints_oneCell _ _)
      simp only [Nat.add_zero] at hst
      refine ⟨.slice (some ⟨g, 0, none⟩) (xs.length + ys.length) c, W.setRow g (cur.toList.take xs.length ++ ys.map (Value.int .u8) ++ cur.toList.drop (xs.length + (ys.map (Value.int .u8)).length)).toArray, ?_, ?_, fun w0 hb => below_setRow hb hB _⟩
      · simp [Builtin.append_, run_underlying Tryd.underlying62, sizeOf, typeInfo, hi, Builtin.lenOf, hroom, hf, Addr.add_lit, hst, hz1]
      · have hrow := setRow_heap W g cur (cur.toList.take xs.length ++ ys.map (Value.int .u8) ++ cur.toList.drop (xs.length + (ys.map (Value.int .u8)).length)).toArray 5 _ hg
        refine ⟨_, c, by rw [List.length_append], (fun h => by cases h), by rw [List.length_append]; exact hroom, fun ad' had i hi' => ?_⟩
        cases had
        refine ⟨rfl, by rw [size_setRow]; exact hlt, ?_⟩
        rw [addr_plain', Nat.zero_add, cell_of_row _ g i _ 5 _ hrow, ht]
        have e : (xs.map (Value.int .u8) ++ ys.map (.int .u8) ++ cur.toList.drop (xs.length + (ys.map (Value.int .u8)).length))[i]? = some (.int .u8 (nth (xs ++ ys) i)) := by
          rw [← List.map_append, List.getElem?_append_left (by simpa using hi'), List.getElem?_map, List.getElem?_eq_getElem hi', nth, List.getD, List.getElem?_eq_getElem hi']
          rfl
        simpa using e
    · have holds : ∀ j u, (xs.map (Value.int .u8))[j]? = some u → W.cell? ((⟨g, 0, none⟩ : Addr).add j) = some u := by
        obtain ⟨_, _, hv, _, _, ha2⟩ := hsl
        injection hv with e1 _ _
        intro j u hu
        rcases Nat.lt_or_ge j xs.length with hj | hj
        · rw [(ha2 _ e1.symm j hj).2.2]
          simp [hj] at hu
          simp [nth, List.getD, hj, hu]
        · simp [hj] at hu
      have hr := run_append_grow (P := Tryd.prog) W 62 62 5 i0 (.int .u8 0) Tryd.underlying62 hi hz0 ⟨g, 0, none⟩ xs.length c (xs.map (.int .u8)) (by rw [hz1]; simp) holds ad ys.length cap (ys.map (.int .u8)) (by rw [hz1]; simp) hnews (by omega) (by omega) (growslice_fits (by omega) (by rw [hz2]; omega))
      have hge := grownCap_ge W (xs.length + ys.length) c 5
      refine ⟨_, _, hr, ?_, fun w0 hb => (hb.drew).alloc (by simpa using Nat.le_trans hB (Nat.le_of_lt hlt)) _⟩
      refine ⟨_, _, by rw [List.length_append], (fun h => by cases h), by rw [List.length_append]; exact hge, fun ad' had i hi' => ?_⟩
      cases had
      refine ⟨rfl, by simp, ?_⟩
      rw [addr_plain', Nat.zero_add, show W.heap.size = W.drew.heap.size from rfl, cell_of_row _ _ i _ 5 _ (heap_alloc_new W.drew _)]
      have e : (xs.map (Value.int .u8) ++ ys.map (.int .u8))[i]? = some (.int .u8 (nth (xs ++ ys) i)) := by
        rw [← List.map_append, List.getElem?_map, List.getElem?_eq_getElem hi', nth, List.getD, List.getElem?_eq_getElem hi']
        rfl
      rw [Array.getElem?_append_left (by simp; simp at hi'; omega)]
      simpa using e
end Go.Proofs.YtgikkjjnoakhdaaDoor
