/- Rows of bytes of the call's own, also those that '[]byte(s)' made: these are marked behind their end. -/
import Derived.Test.YtafmgoekgijfgaaGreatDoorBRqHex
import Derived.Lib.ConvBytes
import Derived.Lib.AppendStr
namespace Go.Proofs.YtafmgoekgijfgaaGreatDoor
open Go.RowKit Go.Lib

theorem keep_of_B {B : Nat} {w w' : World} (h : Below B w w') : Keep (fun k => B ≤ k) w w' where
 os := h.os
 tape := h.tape
 output := h.output
 size := h.size
 block := fun k _ hk => h.block k (Nat.lt_of_not_le hk)
theorem GAt.belowB {α : Type} {K : Kd α} {B : Nat} {w w' : World} {v : Value} {l : List α} (h : GAt K w v l) (hb : Below B w w') (hlt : ∀ k, v.ownBlock = some k → k < B) : GAt K w' v l :=
 h.keep (keep_of_B hb) fun k hk => Nat.not_le.2 (hlt k hk)
/-- What lay below B all the time. -/
theorem GAt.belowW {α : Type} {K : Kd α} {B : Nat} {w0 w w' : World} {v : Value} {l : List α} (h0 : GAt K w0 v l) (h : GAt K w v l) (hb : Below B w w') (hB : w0.heap.size ≤ B) : GAt K w' v l := by
 by_cases hl : l = []
 · obtain ⟨ao, cap, rfl, hle, hn, _⟩ := h
   exact ⟨ao, cap, rfl, hle, hn, fun ad _ i hi => by rw [hl] at hi; exact absurd hi (Nat.not_lt_zero _)⟩
 · refine h.belowB hb fun k hk => ?_
   obtain ⟨ao, cap, rfl, _, _, ha⟩ := h0
   cases ao with
   | none => cases hk
   | some ad =>
     injection hk with hk
     have := (ha ad rfl 0 (List.length_pos_iff.2 hl)).2.1
     omega
/-- More bytes, whatever row they come from. -/
theorem cat_b (W : World) (B : Nat) (v : Value) (l : List UInt8) (h : GRow KB W B v l) (sv : Value) (m : List UInt8) (hs : GAt KB W sv m) (hl : l.length + m.length ≤ 1000000) (hB : B ≤ W.heap.size) :
   ∃ v' w', (Builtin.append_ #[22, 22] 22 #[v, sv]).run Tryz.prog W = .ok v' w' ∧ GRow KB w' B v' (l ++ m) ∧ Below B W w' := by
 have hm : (1000000 : Nat) ≤ maxLen := by decide
 obtain ⟨v', w', h1, h2, h3, _⟩ := append_g (K := KB) (P := Tryz.prog) 22 (.int .u8 0) 1 Tryz.underlying22 infoB rfl W B v l h sv m hs (by omega) (by omega) hB
 exact ⟨v', w', h1, h2, h3.below (fun k hk => h.ge hk) hB⟩
/-- The block that '[]byte(s)' made. -/
def Mk (W : World) (g c : Nat) (l : List UInt8) : Prop := ∃ cur : Array Value, W.heap[g]? = some (.cells cur 5 (cur.size, cur.size + 1)) ∧ cur.size = c ∧ l.length ≤ c ∧ c ≤ maxLen ∧ cur.toList.take l.length = KB.all l
theorem Mk.lt {W : World} {g c : Nat} {l : List UInt8} (h : Mk W g c l) : g < W.heap.size := by obtain ⟨cur, hg, _⟩ := h; exact (Array.getElem?_eq_some_iff.1 hg).1
theorem Mk.below {W W' : World} {g c : Nat} {l : List UInt8} (h : Mk W g c l) (hb : Below W.heap.size W W') : Mk W' g c l := by
 have hl := h.lt
 obtain ⟨cur, hg, hr⟩ := h
 exact ⟨cur, (hb.block g hl).trans hg, hr⟩
theorem Mk.cell {W : World} {g c : Nat} {l : List UInt8} (h : Mk W g c l) (i : Nat) (hi : i < l.length) : W.cell? ⟨g, i, none⟩ = some (.int .u8 (l.getD i 0).toNat) := by
 obtain ⟨cur, hg, hc, hn, _, ht⟩ := h
 rw [cell_of_row W g i cur 5 _ hg]
 have h1 : (cur.toList.take l.length)[i]? = some (.int .u8 (l.getD i 0).toNat) := by
   rw [ht]
   have h4 := Kd.get_all (K := KB) l i 0 hi (by decide)
   rw [show KB.s = 1 from rfl, Nat.mul_one, Nat.add_zero] at h4
   rw [h4]
   rfl
 rw [List.getElem?_take, if_pos hi] at h1
 simpa using h1
theorem Mk.gAt {W : World} {g c : Nat} {l : List UInt8} (h : Mk W g c l) : GAt KB W (.slice (some ⟨g, 0, none⟩) l.length c) l := by
 refine ⟨some ⟨g, 0, none⟩, c, rfl, ?_, (fun e => by cases e), ?_⟩
 · obtain ⟨_, _, _, hn, _⟩ := h
   exact hn
 · intro ad had i hi
   injection had with had
   subst had
   refine ⟨rfl, h.lt, fun j hj => ?_⟩
   obtain rfl : j = 0 := Nat.lt_one_iff.1 hj
   rw [addr_plain', show KB.s = 1 from rfl, Nat.mul_one, Nat.add_zero, Nat.zero_add]
   exact h.cell i hi
/-- Of the call's own, marked or not. -/
def BRow (W : World) (B : Nat) (v : Value) (l : List UInt8) : Prop := GRow KB W B v l ∨ ∃ g c, v = .slice (some ⟨g, 0, none⟩) l.length c ∧ B ≤ g ∧ Mk W g c l
theorem BRow.gAt {W : World} {B : Nat} {v : Value} {l : List UInt8} (h : BRow W B v l) : GAt KB W v l := by
 rcases h with h | ⟨g, c, rfl, _, h⟩
 · exact h.gAt
 · exact h.gAt
theorem BRow.slv {W : World} {B : Nat} {v : Value} {l : List UInt8} (h : BRow W B v l) : ∃ r : Sl, v = r.v := by
 obtain ⟨ao, cap, e⟩ := h.gAt.len
 exact ⟨⟨ao, l.length, cap⟩, e⟩
theorem BRow.below {W W' : World} {B : Nat} {v : Value} {l : List UInt8} (h : BRow W B v l) (hb : Below W.heap.size W W') : BRow W' B v l := by
 rcases h with h | ⟨g, c, rfl, hB, h⟩
 · exact .inl (h.below hb)
 · exact .inr ⟨g, c, rfl, hB, h.below hb⟩
theorem BRow.ge {W : World} {B : Nat} {v : Value} {l : List UInt8} (h : BRow W B v l) {k : Nat} (hk : v.ownBlock = some k) : B ≤ k := by
 rcases h with h | ⟨g, c, rfl, hB, h⟩
 · exact h.ge hk
 · injection hk with hk
   exact hk ▸ hB
theorem BRow.lt {W : World} {B : Nat} {v : Value} {l : List UInt8} (h : BRow W B v l) {k : Nat} (hk : v.ownBlock = some k) : k < W.heap.size := by
 rcases h with h | ⟨g, c, rfl, hB, h⟩
 · exact h.lt hk
 · injection hk with hk
   exact hk ▸ h.lt
theorem BRow.base {W : World} {B B' : Nat} {v : Value} {l : List UInt8} (h : BRow W B v l) (hb : B' ≤ B) : BRow W B' v l := by
 rcases h with h | ⟨g, c, rfl, hB, h⟩
 · exact .inl (h.base hb)
 · exact .inr ⟨g, c, rfl, Nat.le_trans hb hB, h⟩
theorem KB_str (s : ByteArray) : Lib.strCells s = KB.all s.data.toList := by
 unfold Lib.strCells Kd.all
 rw [List.map_eq_flatMap]
 rfl
/-- '[]byte(s)'. -/
theorem conv_bytes (W : World) (s : ByteArray) (hs : s.size ≤ 1000000) : ∃ c W', (convert 9 22 (.string s)).run Tryz.prog W = .ok (.slice (some ⟨W.heap.size, 0, none⟩) s.data.toList.length c) W' ∧ Mk W' W.heap.size c s.data.toList ∧ Below W.heap.size W W' := by
 have hm : s.size ≤ maxLen := Nat.le_trans hs (by decide)
 have hcap := grownCap_ge W s.size 0 5
 have hcm := grownCap_le_maxLen W s.size 0 5 hm
 have hl : s.data.toList.length = s.size := size_list s
 have hsz : (Lib.bytesCells W 5 s).size = grownCap W s.size 0 5 := by
   simp [Lib.bytesCells]
   have : s.data.size = s.size := rfl
   omega
 refine ⟨_, Lib.bytesWorld W 5 s, by rw [hl]; exact Lib.run_convert_string_bytes W 9 22 5 s (u := .string) Tryz.underlying9 Tryz.underlying22 Tryz.underlying5, ⟨Lib.bytesCells W 5 s, Lib.bytesWorld_at_new W 5 s, hsz, by rw [hl]; exact hcap, hcm, ?_⟩, ?_⟩
 · rw [hl, Lib.bytesCells, Array.toList_append, List.take_append_of_le_length (by simp), ← KB_str, Lib.strCells]
   rw [Array.toList_map, List.take_of_length_le (by simp)]
 · refine ⟨?_, ?_, ?_, by rw [Lib.bytesWorld_size]; omega, fun j hj => Lib.bytesWorld_at_old W 5 s j hj⟩ <;> simp [Lib.bytesWorld, World.freeze, World.alloc, World.drew, -World.alloc_eq, -World.drew_eq]
/-- Cells that are stored ahead of a row's mark. -/
theorem run_storeCells_ahead (P : Program) (g o : Nat) (t : TypeId) (fz : Nat × Nat) : ∀ (vs : List Value) (i : Nat) (cur : Array Value) (w : World), w.heap[g]? = some (.cells cur t fz) → o + i + vs.length ≤ fz.1 → o + i + vs.length ≤ cur.size → (∀ v ∈ vs, v.oneCell' = true) →
   (storeCells ⟨g, o, none⟩ vs i).run P w = .ok () (w.setRow g (cur.toList.take (o + i) ++ vs ++ cur.toList.drop (o + i + vs.length)).toArray)
 | [], i, cur, w, hg, _, _, _ => by
   simp only [storeCells, List.append_nil, List.length_nil, Nat.add_zero, List.take_append_drop, Array.toArray_toList]
   rw [setRow_self w g cur t fz hg]
   rfl
 | v :: rest, i, cur, w, hg, hfz, hl, h1 => by
   have hi : o + i < cur.size := by simp at hl; omega
   have hadd : (⟨g, o, none⟩ : Addr).add i = ⟨g, o + i, none⟩ := by unfold Addr.add; split <;> simp_all
   have hcell : w.cell? ⟨g, o + i, none⟩ = some cur[o + i] := by simp [World.cell?, hg, hi]
   have hfro : w.frozen? ⟨g, o + i, none⟩ = false := by
     obtain ⟨lo, hi'⟩ := fz
     simp only [World.frozen?, hg, Bool.and_eq_false_iff, decide_eq_false_iff_not]
     left
     simp at hfz
     omega
   have hst : (store ((⟨g, o, none⟩ : Addr).add i) v).run P w = .ok () (w.setRow g (cur.setIfInBounds (o + i) v)) := by
     rw [hadd, run_store P w _ v _ (h1 v (by simp)), hcell]
     simp [hfro, setCell_eq_setRow w g (o + i) cur t fz v hg]
   have ih := run_storeCells_ahead P g o t fz rest (i + 1) (cur.setIfInBounds (o + i) v) (w.setRow g (cur.setIfInBounds (o + i) v)) (setRow_heap w g cur _ t _ hg) (by simp at hfz ⊢; omega) (by simp at hl ⊢; omega) (fun x hx => h1 x (by simp [hx]))
   simp only [storeCells, Sem.run_bind, hst, Result.andThen_ok, ih, setRow_setRow]
   congr 3
   have e := list_seg_step cur.toList (o + i) v rest (by simp at hl ⊢; omega)
   simpa [Array.toList_setIfInBounds, Nat.add_assoc] using e

theorem below_setRowQ {B : Nat} (W : World) (g : Nat) (cs : Array Value) (hB : B ≤ g) : Below B W (W.setRow g cs) := by
 refine ⟨rfl, rfl, rfl, by simp [World.setRow], fun k hk => ?_⟩
 unfold World.setRow
 dsimp only
 rw [Array.getElem?_modify, if_neg (by omega)]
/-- Cells put behind a marked row's, where there is room. -/
theorem mk_room {W : World} {g c B : Nat} {l m : List UInt8} (h : Mk W g c l) (hB : B ≤ g) (hroom : l.length + m.length ≤ c) : ∃ w', (storeCells ⟨g, l.length, none⟩ (KB.all m) 0).run Tryz.prog W = .ok () w' ∧ Mk w' g c (l ++ m) ∧ Below B W w' := by
 obtain ⟨cur, hg, hc, hn, hcm, ht⟩ := h
 have hml : (KB.all m).length = m.length := by rw [Kd.all_length, show KB.s = 1 from rfl, Nat.mul_one]
 have hst := run_storeCells_ahead Tryz.prog g l.length 5 _ (KB.all m) 0 cur W hg (by rw [hml]; show l.length + 0 + m.length ≤ cur.size; omega) (by rw [hml]; omega) (Kd.all_one1 m)
 simp only [Nat.add_zero] at hst
 have h1 : (cur.toList.take l.length).length = l.length := by
   have e : cur.toList.length = cur.size := Array.length_toList
   rw [List.length_take]
   omega
 obtain ⟨cur', hcur⟩ : ∃ x, x = (cur.toList.take l.length ++ KB.all m ++ cur.toList.drop (l.length + (KB.all m).length)).toArray := ⟨_, rfl⟩
 rw [← hcur] at hst
 have hsz : cur'.size = cur.size := by
   rw [hcur, List.size_toArray]
   simp only [List.length_append, List.length_take, List.length_drop, Array.length_toList, hml]
   omega
 refine ⟨_, hst, ⟨cur', by rw [hsz]; exact setRow_heap W g cur _ 5 _ hg, by omega, by rw [List.length_append]; exact hroom, hcm, ?_⟩, below_setRowQ W g _ hB⟩
 rw [hcur, List.length_append, Kd.all_append, ← ht, List.take_append_of_le_length (by rw [List.length_append, h1, hml]; exact Nat.le_refl _), List.take_of_length_le (by rw [List.length_append, h1, hml]; exact Nat.le_refl _)]
theorem brow_of_grow {W' : World} {B g c : Nat} {l : List UInt8} (hB : B ≤ g) (hb : W'.heap[g]? = some (.cells ((KB.all l).toArray ++ Builtin.zeroCells (Value.int .u8 0).cells (c - l.length)) 5 (0, 0))) (hl : l.length ≤ c) (hc : c ≤ maxLen) : BRow W' B (.slice (some ⟨g, 0, none⟩) l.length c) l := by
 have hml : (KB.all l).length = l.length := by rw [Kd.all_length, show KB.s = 1 from rfl, Nat.mul_one]
 refine .inl (GRow.of_block hB hb ?_ hl hc ?_)
 · have hz1 : (Value.int IntKind.u8 0).cells.size = 1 := rfl
   rw [Array.size_append, size_zeroCells, List.size_toArray, hml, hz1, show KB.s = 1 from rfl]
   omega
 · rw [Array.toList_append, show KB.s = 1 from rfl, Nat.mul_one, List.take_append_of_le_length (by simp [hml]), List.take_of_length_le (by simp [hml])]
/-- A text's bytes more. -/
theorem bpush_str (W : World) (B : Nat) (v : Value) (l : List UInt8) (h : BRow W B v l) (s : ByteArray) (hl : l.length + s.size ≤ 1000000) (hB : B ≤ W.heap.size) :
   ∃ v' w', (Builtin.append_ #[22, 9] 22 #[v, .string s]).run Tryz.prog W = .ok v' w' ∧ BRow w' B v' (l ++ s.data.toList) ∧ Below B W w' := by
 rcases h with h | ⟨g, c, rfl, hg, h⟩
 · obtain ⟨v', w', h1, h2, h3⟩ := push_str W B v l h s (by omega) hB
   exact ⟨v', w', h1, .inl h2, h3⟩
 obtain ⟨i0, hi, hz0, hz1, hz2⟩ := info_parts infoB
 have hsl : s.data.toList.length = s.size := size_list s
 have hf := run_firstCells_string (P := Tryz.prog) W 1 s
 by_cases hroom : l.length + s.size ≤ c
 · obtain ⟨w', hst, hmk, hb⟩ := mk_room (m := s.data.toList) h hg (by omega)
   rw [← KB_str] at hst
   refine ⟨.slice (some ⟨g, 0, none⟩) (l.length + s.size) c, w', ?_, ?_, hb⟩
   · simp [Builtin.append_, run_underlying Tryz.underlying22, run_underlying Tryz.underlying9, sizeOf, typeInfo, hi, Builtin.lenOf, hroom, hf, Addr.add_lit, hst, hz1]
   · refine .inr ⟨g, c, ?_, hg, hmk⟩
     rw [List.length_append, hsl]
 · have holds : ∀ j u, (KB.all l)[j]? = some u → W.cell? ((⟨g, 0, none⟩ : Addr).add j) = some u := by
     intro j u hu
     have hml : (KB.all l).length = l.length := by rw [Kd.all_length, show KB.s = 1 from rfl, Nat.mul_one]
     have hj : j < l.length := by rw [← hml]; exact (List.getElem?_eq_some_iff.1 hu).1
     rw [addr_plain', Nat.zero_add, h.cell j hj]
     have h4 := Kd.get_all (K := KB) l j 0 hj (by decide)
     rw [show KB.s = 1 from rfl, Nat.mul_one, Nat.add_zero, hu] at h4
     exact h4.symm
   have hr := run_append_grow_string (P := Tryz.prog) W 22 9 22 5 i0 (.int .u8 0) Tryz.underlying22 Tryz.underlying9 hi hz0 ⟨g, 0, none⟩ l.length c (KB.all l) (by rw [Kd.all_length, hz1]; rfl) holds s (by omega) (by omega) (by rw [hz2]; exact growslice_fits (by omega) (by omega))
   have hge := grownCap_ge W (l.length + s.size) c 5
   have hcm := grownCap_le_maxLen W (l.length + s.size) c 5 (Nat.le_trans hl (by decide))
   refine ⟨_, _, hr, ?_, (((Below.refl _ _).drew.mono hB).alloc (by simpa using hB) _)⟩
   have e := brow_of_grow (W' := W.drew.alloc (.cells ((KB.all l).toArray ++ (Lib.strCells s).toArray ++ Builtin.zeroCells (Value.int .u8 0).cells (grownCap W (l.length + s.size) c 5 - (l.length + s.size))) 5)) (B := B) (g := W.heap.size) (c := grownCap W (l.length + s.size) c 5) (l := l ++ s.data.toList) hB (by
     rw [Kd.all_append, ← KB_str, List.length_append, hsl, ← List.append_toArray]
     exact heap_alloc_new W.drew _) (by rw [List.length_append, hsl]; exact hge) hcm
   rw [List.length_append, hsl] at e
   exact e
theorem KB_len (l : List UInt8) : (KB.all l).length = l.length := by rw [Kd.all_length, show KB.s = 1 from rfl, Nat.mul_one]
theorem KB_get {W : World} {ad : Addr} {m : List UInt8} (ha : ∀ i, i < m.length → ad.spot = none ∧ ad.block < W.heap.size ∧ ∀ j, j < KB.s → W.cell? (ad.add (i * KB.s + j)) = (KB.cells (m.getD i KB.dft))[j]?) (j : Nat) (u : Value) (hu : (KB.all m)[j]? = some u) : W.cell? (ad.add j) = some u := by
 have hj : j < m.length := by rw [← KB_len]; exact (List.getElem?_eq_some_iff.1 hu).1
 have h := (ha j hj).2.2 0 (by decide)
 have h4 := Kd.get_all (K := KB) m j 0 hj (by decide)
 rw [show KB.s = 1 from rfl, Nat.mul_one, Nat.add_zero] at h h4
 rw [h, ← h4, hu]
/-- Bytes more, whatever row they come from. -/
theorem bpush (W : World) (B : Nat) (v : Value) (l : List UInt8) (h : BRow W B v l) (sv : Value) (m : List UInt8) (hs : GAt KB W sv m) (hl : l.length + m.length ≤ 1000000) (hB : B ≤ W.heap.size) :
   ∃ v' w', (Builtin.append_ #[22, 22] 22 #[v, sv]).run Tryz.prog W = .ok v' w' ∧ BRow w' B v' (l ++ m) ∧ Below B W w' := by
 rcases h with h | ⟨g, c, rfl, hg, h⟩
 · obtain ⟨v', w', h1, h2, h3⟩ := cat_b W B v l h sv m hs hl hB
   exact ⟨v', w', h1, .inl h2, h3⟩
 obtain ⟨i0, hi, hz0, hz1, hz2⟩ := info_parts infoB
 obtain ⟨ao, cap, rfl, _, hn, ha⟩ := hs
 have hlc : l.length ≤ c := by obtain ⟨_, _, _, hn, _⟩ := h; exact hn
 cases hao : ao with
 | none =>
   obtain ⟨rfl, rfl⟩ := hn hao
   refine ⟨.slice (some ⟨g, 0, none⟩) l.length c, W, ?_, ?_, Below.refl _ _⟩
   · simp [Builtin.append_, run_underlying Tryz.underlying22, sizeOf, typeInfo, hi, Builtin.lenOf, Builtin.firstCells, hlc, storeCells]
   · rw [List.append_nil]
     exact .inr ⟨g, c, rfl, hg, h⟩
 | some ad =>
   have hnews := KB_get (ha ad hao)
   by_cases hroom : l.length + m.length ≤ c
   · have hf := run_firstCells_some (P := Tryz.prog) W i0.size m.length ad m.length cap (KB.all m) (by rw [KB_len, hz1]; exact (Nat.mul_one _).symm) hnews
     have hz1' : i0.size = 1 := hz1
     rw [hz1'] at hf
     obtain ⟨w', hst, hmk, hb⟩ := mk_room (m := m) h hg hroom
     refine ⟨.slice (some ⟨g, 0, none⟩) (l.length + m.length) c, w', ?_, ?_, hb⟩
     · simp [Builtin.append_, run_underlying Tryz.underlying22, sizeOf, typeInfo, hi, Builtin.lenOf, hroom, hf, Addr.add_lit, hst, hz1']
     · refine .inr ⟨g, c, ?_, hg, hmk⟩
       rw [List.length_append]
   · have holds : ∀ j u, (KB.all l)[j]? = some u → W.cell? ((⟨g, 0, none⟩ : Addr).add j) = some u := by
       intro j u hu
       have hj : j < l.length := by rw [← KB_len]; exact (List.getElem?_eq_some_iff.1 hu).1
       rw [addr_plain', Nat.zero_add, h.cell j hj]
       have h4 := Kd.get_all (K := KB) l j 0 hj (by decide)
       rw [show KB.s = 1 from rfl, Nat.mul_one, Nat.add_zero, hu] at h4
       exact h4.symm
     have hr := run_append_grow (P := Tryz.prog) W 22 22 5 i0 (.int .u8 0) Tryz.underlying22 hi hz0 ⟨g, 0, none⟩ l.length c (KB.all l) (by rw [KB_len, hz1]; exact (Nat.mul_one _).symm) holds ad m.length cap (KB.all m) (by rw [KB_len, hz1]; exact (Nat.mul_one _).symm) hnews (by omega) (by omega) (growslice_fits (by omega) (by rw [hz2]; omega))
     have hge := grownCap_ge W (l.length + m.length) c 5
     have hcm := grownCap_le_maxLen W (l.length + m.length) c 5 (Nat.le_trans hl (by decide))
     refine ⟨_, _, hr, ?_, (((Below.refl _ _).drew.mono hB).alloc (by simpa using hB) _)⟩
     have e := brow_of_grow (W' := W.drew.alloc (.cells ((KB.all l).toArray ++ (KB.all m).toArray ++ Builtin.zeroCells (Value.int .u8 0).cells (grownCap W (l.length + m.length) c 5 - (l.length + m.length))) 5)) (B := B) (g := W.heap.size) (c := grownCap W (l.length + m.length) c 5) (l := l ++ m) hB (by
       rw [Kd.all_append, List.length_append, ← List.append_toArray]
       exact heap_alloc_new W.drew _) (by rw [List.length_append]; exact hge) hcm
     rw [List.length_append] at e
     exact e
end Go.Proofs.YtafmgoekgijfgaaGreatDoor
