/- Rows in memory of anything that has a fixed number of cells: read, grown, cut; no program is named here. -/
import Derived.Test.YtilefgmlnmpeoaaDoorKeepG
import Derived.Test.YtilefgmlnmpeoaaDoorPl
import Derived.Laws.OwnMore
import Derived.Maps.AppendAt
namespace Go.Proofs.YtilefgmlnmpeoaaDoor
open Go.RowKit

/-- A kind of thing: its type, its cells. -/
structure Kd (α : Type) where
  t : TypeId
  s : Nat
  dft : α
  cells : α → List Value
  len : ∀ a, (cells a).length = s
  pos : 0 < s
  one : ∀ a, ∀ v ∈ cells a, v.oneCell' = true

section
variable {α : Type} {K : Kd α}
def Kd.all (K : Kd α) (l : List α) : List Value := l.flatMap K.cells
theorem Kd.all_length (l : List α) : (K.all l).length = l.length * K.s := by
  induction l with
  | nil => simp [Kd.all]
  | cons c l ih => simp only [Kd.all, List.flatMap_cons, List.length_append, List.length_cons] at ih ⊢; rw [ih, K.len, Nat.succ_mul, Nat.add_comm]
theorem Kd.all_append (l m : List α) : K.all (l ++ m) = K.all l ++ K.all m := by simp [Kd.all]
theorem Kd.all_one (c : α) : K.all [c] = K.cells c := by simp [Kd.all]
theorem Kd.get_all (l : List α) (i j : Nat) (hi : i < l.length) (hj : j < K.s) : (K.all l)[i * K.s + j]? = (K.cells (l.getD i K.dft))[j]? := by
  have h : l = l.take i ++ (l.getD i K.dft :: l.drop (i + 1)) := by
    conv => lhs; rw [← List.take_append_drop i l, List.drop_eq_getElem_cons hi]
    simp [List.getD, hi]
  have hl : (K.all (l.take i)).length = i * K.s := by rw [Kd.all_length, List.length_take, Nat.min_eq_left (by omega)]
  conv => lhs; rw [h, Kd.all_append]
  rw [List.getElem?_append_right (by omega), hl, show i * K.s + j - i * K.s = j by omega]
  rw [show K.all (l.getD i K.dft :: l.drop (i + 1)) = K.cells (l.getD i K.dft) ++ K.all (l.drop (i + 1)) by simp [Kd.all]]
  rw [List.getElem?_append_left (by rw [K.len]; exact hj)]
theorem Kd.all_one1 (l : List α) : ∀ v ∈ K.all l, v.oneCell' = true := by
  intro v hv
  obtain ⟨c, _, hc⟩ := List.mem_flatMap.1 hv
  exact K.one c v hc
theorem Kd.all_take (l : List α) (k : Nat) (hk : k ≤ l.length) : (K.all l).take (k * K.s) = K.all (l.take k) := by
  conv => lhs; rw [← List.take_append_drop k l, Kd.all_append]
  rw [List.take_left' (by rw [Kd.all_length, List.length_take, Nat.min_eq_left hk])]

/-- The slice value v reads as l. -/
def GAt (K : Kd α) (w : World) (v : Value) (l : List α) : Prop := ∃ (ao : Option Addr) (cap : Nat), v = .slice ao l.length cap ∧ l.length ≤ cap ∧ (ao = none → l = [] ∧ cap = 0) ∧
  ∀ ad, ao = some ad → ∀ i, i < l.length → ad.spot = none ∧ ad.block < w.heap.size ∧ ∀ j, j < K.s → w.cell? (ad.add (i * K.s + j)) = (K.cells (l.getD i K.dft))[j]?
theorem GAt.len {w : World} {v : Value} {l : List α} (h : GAt K w v l) : ∃ ao cap, v = .slice ao l.length cap := by
  obtain ⟨ao, cap, hv, _⟩ := h
  exact ⟨ao, cap, hv⟩
theorem GAt.le {w : World} {ao : Option Addr} {n cap : Nat} {l : List α} (h : GAt K w (.slice ao n cap) l) : n = l.length ∧ n ≤ cap := by
  obtain ⟨ao', cap', hv, hc, _⟩ := h
  injection hv with _ e2 e3
  exact ⟨e2, by omega⟩
theorem GAt.nil (w : World) : GAt K w (.slice none 0 0) [] := ⟨none, 0, rfl, Nat.le_refl _, fun _ => ⟨rfl, rfl⟩, fun ad h => by cases h⟩
theorem GAt.keep {F : Nat → Prop} {w w' : World} {v : Value} {l : List α} (h : GAt K w v l) (hk : Keep F w w') (hf : Off F v) : GAt K w' v l := by
  obtain ⟨ao, cap, rfl, hc, hn, ha⟩ := h
  refine ⟨ao, cap, rfl, hc, hn, fun ad had i hi => ?_⟩
  subst had
  obtain ⟨h0, h1, h2⟩ := ha ad rfl i hi
  refine ⟨h0, Nat.lt_of_lt_of_le h1 hk.size, fun j hj => ?_⟩
  rw [← h2 j hj]
  have hb := hk.block ad.block h1 (hf _ rfl)
  simp only [World.cell?, addr_block, hb]
theorem GAt.below {w w' : World} {v : Value} {l : List α} (h : GAt K w v l) (hb : Below w.heap.size w w') : GAt K w' v l :=
  h.keep (Keep.of_below hb : Keep (fun _ => False) w w') (fun _ _ => id)
/-- Where the k-th thing lies. -/
theorem GAt.at {w : World} {ao : Option Addr} {n cap : Nat} {l : List α} (h : GAt K w (.slice ao n cap) l) {k : Nat} (hk : k < n) : ∃ b o, ao = some ⟨b, o, none⟩ ∧ b < w.heap.size ∧
    ∀ j, j < K.s → w.cell? ⟨b, o + k * K.s + j, none⟩ = (K.cells (l.getD k K.dft))[j]? := by
  obtain ⟨ao', cap', hv, _, hn, ha⟩ := h
  injection hv with e1 e2 e3
  subst e1 e2
  cases hao : ao with
  | none => rw [(hn hao).1] at hk; simp at hk
  | some ad =>
    obtain ⟨h0, h1, h2⟩ := ha ad hao k hk
    obtain ⟨b, o, s⟩ := ad
    cases h0
    exact ⟨b, o, rfl, h1, fun j hj => by
      have := addr_plain' b o (k * K.s + j) ▸ h2 j hj
      rw [Nat.add_assoc]
      exact this⟩
/-- The first k. -/
theorem GAt.front {w : World} {ao : Option Addr} {n cap : Nat} {l : List α} (h : GAt K w (.slice ao n cap) l) {k : Nat} (hk : k ≤ n) : GAt K w (.slice ao k cap) (l.take k) := by
  obtain ⟨ao', cap', hv, hc, hn, ha⟩ := h
  injection hv with e1 e2 e3
  subst e1 e2 e3
  have hl : (l.take k).length = k := by rw [List.length_take, Nat.min_eq_left hk]
  refine ⟨ao, cap, by rw [hl], by omega, fun h => ⟨by rw [(hn h).1]; simp, (hn h).2⟩, fun ad had i hi => ?_⟩
  rw [hl] at hi
  obtain ⟨h0, h1, h2⟩ := ha ad had i (by omega)
  refine ⟨h0, h1, fun j hj => ?_⟩
  rw [h2 j hj]
  simp [List.getD, hi, show i < l.length by omega]
/-- One thing that lies in a block of its own. -/
theorem GAt.box (w : World) (g : Nat) (c : α) (fr : Nat × Nat) (h : w.heap[g]? = some (.cells (K.cells c).toArray K.t fr)) (k : Nat) (hk : 1 ≤ k) : GAt K w (.slice (some ⟨g, 0, none⟩) 1 k) [c] := by
  refine ⟨_, k, rfl, hk, (fun h => by cases h), fun ad had i hi => ?_⟩
  cases had
  have hi0 : i = 0 := by simp at hi; omega
  subst hi0
  refine ⟨rfl, (Array.getElem?_eq_some_iff.1 h).1, fun j hj => ?_⟩
  rw [addr_plain', cell_of_row w g _ _ _ fr h, Nat.zero_mul, Nat.zero_add, Nat.zero_add, List.getElem?_toArray]
  rfl

/-- v is a row of the call's own (at B or above) with l. -/
def GRow (K : Kd α) (W : World) (B : Nat) (v : Value) (l : List α) : Prop := W.ownsRow B K.t K.s v l.length (K.all l)
theorem GRow.nil (W : World) (B : Nat) : GRow K W B (.slice none 0 0) [] := World.ownsRow_nil _ _ _ _
theorem GRow.lit (W : World) (B : Nat) (l : List α) (hB : B ≤ W.heap.size) (hm : l.length ≤ maxLen) : GRow K (W.alloc (.cells (K.all l).toArray K.t)) B (.slice (some ⟨W.heap.size, 0, none⟩) l.length l.length) l := by
  have h := World.ownsRow_lit (base := B) (e := K.t) (size := K.s) W (K.all l).toArray l.length hB hm (by rw [List.size_toArray, Kd.all_length])
  exact h
theorem GRow.alloc {W : World} {B : Nat} {v : Value} {l : List α} (h : GRow K W B v l) (o : Obj) : GRow K (W.alloc o) B v l := World.ownsRow.alloc h o
theorem GRow.drew {W : World} {B : Nat} {v : Value} {l : List α} (h : GRow K W B v l) : GRow K W.drew B v l := h
theorem GRow.lt {W : World} {B : Nat} {v : Value} {l : List α} (h : GRow K W B v l) {k : Nat} (hk : v.ownBlock = some k) : k < W.heap.size := (World.ownsRow.lt h k hk).2
theorem GRow.ge {W : World} {B : Nat} {v : Value} {l : List α} (h : GRow K W B v l) {k : Nat} (hk : v.ownBlock = some k) : B ≤ k := (World.ownsRow.lt h k hk).1
theorem GRow.base {W : World} {B B' : Nat} {v : Value} {l : List α} (h : GRow K W B v l) (hb : B' ≤ B) : GRow K W B' v l := by
  obtain ⟨h1, h2 | ⟨g, cap, cur, e1, e2, r⟩⟩ := h
  · exact ⟨h1, .inl h2⟩
  · exact ⟨h1, .inr ⟨g, cap, cur, e1, Nat.le_trans hb e2, r⟩⟩
theorem GRow.keep {F : Nat → Prop} {W W' : World} {B : Nat} {v : Value} {l : List α} (h : GRow K W B v l) (hk : Keep F W W') (hf : Off F v) : GRow K W' B v l := by
  obtain ⟨h1, h2 | ⟨g, cap, cur, e1, e2, e3, r⟩⟩ := h
  · exact ⟨h1, .inl h2⟩
  · refine ⟨h1, .inr ⟨g, cap, cur, e1, e2, ?_, r⟩⟩
    rw [hk.block g (Array.getElem?_eq_some_iff.1 e3).1 (hf g (by rw [e1]; rfl))]
    exact e3
theorem GRow.below {W W' : World} {B : Nat} {v : Value} {l : List α} (h : GRow K W B v l) (hb : Below W.heap.size W W') : GRow K W' B v l :=
  h.keep (Keep.of_below hb : Keep (fun _ => False) W W') (fun _ _ => id)
theorem GRow.own {W : World} {B : Nat} {v : Value} {l : List α} (h : GRow K W B v l) : (v = .slice none 0 0 ∧ l = []) ∨ ∃ g c, v = .slice (some ⟨g, 0, none⟩) l.length c := by
  obtain ⟨_, h2 | ⟨g', cap, cur, e1, _⟩⟩ := h
  · exact .inl ⟨h2.1, List.length_eq_zero_iff.1 h2.2⟩
  · exact .inr ⟨g', cap, e1⟩
/-- The row's block. -/
theorem GRow.block {W : World} {B : Nat} {v : Value} {l : List α} (h : GRow K W B v l) : (v = .slice none 0 0 ∧ l = []) ∨ ∃ g c cs, v = .slice (some ⟨g, 0, none⟩) l.length c ∧ B ≤ g ∧ W.heap[g]? = some (.cells cs K.t (0, 0)) ∧ cs.size = c * K.s ∧ l.length ≤ c ∧ c ≤ maxLen ∧ cs.toList.take (l.length * K.s) = K.all l := by
  obtain ⟨h1, h2 | ⟨g', cap', cur, e1, e2, e3, e4, e5, e6, e7⟩⟩ := h
  · exact .inl ⟨h2.1, List.length_eq_zero_iff.1 h2.2⟩
  · exact .inr ⟨g', cap', cur, e1, e2, e3, e6, e4, e5, e7⟩
theorem GRow.of_block {W : World} {B g c : Nat} {l : List α} {cs : Array Value} (hB : B ≤ g) (hb : W.heap[g]? = some (.cells cs K.t (0, 0))) (hs : cs.size = c * K.s) (hl : l.length ≤ c) (hc : c ≤ maxLen) (ht : cs.toList.take (l.length * K.s) = K.all l) : GRow K W B (.slice (some ⟨g, 0, none⟩) l.length c) l :=
  ⟨Kd.all_length l, .inr ⟨g, c, cs, rfl, hB, hb, hl, hc, hs, ht⟩⟩
theorem GRow.le {W : World} {B n c : Nat} {ao : Option Addr} {l : List α} (h : GRow K W B (.slice ao n c) l) : n ≤ c := by
  obtain ⟨_, h2 | ⟨g', cap', cur, e1, e2, e3, e4, e5, e6, e7⟩⟩ := h
  · have h3 := h2.1
    injection h3 with _ h4 h5
    omega
  · injection e1 with _ h4 h5
    omega
theorem GRow.gAt {W : World} {B : Nat} {v : Value} {l : List α} (h : GRow K W B v l) : GAt K W v l := by
  have hl := fun k hk => GRow.lt h (k := k) hk
  have hc := fun g hg => World.ownsRow.cells h (g := g) hg
  rcases h.own with ⟨rfl, rfl⟩ | ⟨g, c, rfl⟩
  · exact GAt.nil W
  · refine ⟨_, c, rfl, h.le, (fun h => by cases h), fun ad had i hi => ?_⟩
    cases had
    refine ⟨rfl, hl g rfl, fun j hj => ?_⟩
    have h1 := Kd.get_all l i j hi hj
    have h2 : j < (K.cells (l.getD i K.dft)).length := by rw [K.len]; exact hj
    rw [List.getElem?_eq_getElem h2] at h1 ⊢
    exact hc g rfl (i * K.s + j) _ h1
/-- The first k of a row. -/
theorem GRow.take {W : World} {B n c : Nat} {ao : Option Addr} {l : List α} (h : GRow K W B (.slice ao n c) l) (k : Nat) (hk : k ≤ l.length) (h0 : 0 < l.length) : GRow K W B (.slice ao k c) (l.take k) := by
  have hkl : (l.take k).length = k := by rw [List.length_take, Nat.min_eq_left hk]
  obtain ⟨h1, h2 | ⟨g, cap, cur, e1, e2, e3, e4, e5, e6, e7⟩⟩ := h
  · omega
  · injection e1 with a1 a2 a3
    subst a1 a2 a3
    refine ⟨by rw [hkl, Kd.all_length, hkl], .inr ⟨g, c, cur, by rw [hkl], e2, e3, by rw [hkl]; omega, e5, e6, ?_⟩⟩
    rw [hkl, ← Kd.all_take l k hk, ← e7, List.take_take, Nat.min_eq_left (Nat.mul_le_mul_right _ hk)]

variable {P : Program}
/-- A row of the call's own that an append makes longer. -/
theorem append_g (T : TypeId) (z : Value) (bytes : Nat) (hu : P.underlying T = some (.slice K.t)) (hi : (P.info? K.t).map (fun i => (i.zero, i.size, i.bytes)) = some (some z, K.s, bytes)) (hz : z.cells.size = K.s)
    (W : World) (B : Nat) (v : Value) (l : List α) (h : GRow K W B v l) (sv : Value) (m : List α) (hs : GAt K W sv m) (hb : l.length + m.length ≤ maxLen) (hby : (l.length + m.length) * bytes ≤ 140737488355328) (hB : B ≤ W.heap.size) :
    ∃ v' w', (Builtin.append_ #[T, T] T #[v, sv]).run P W = .ok v' w' ∧ GRow K w' B v' (l ++ m) ∧ Keep (fun k => v.ownBlock = some k) W w' ∧ (v'.ownBlock = v.ownBlock ∨ v'.ownBlock = some W.heap.size) := by
  obtain ⟨i0, hi, hz0, hz1, hz2⟩ := info_parts hi
  obtain ⟨ao, cap, rfl, _, hn, ha⟩ := hs
  cases hao : ao with
  | none =>
    obtain ⟨rfl, rfl⟩ := hn hao
    refine ⟨v, W, ?_, by simpa using h, Keep.refl _ _, .inl rfl⟩
    rcases h.2 with ⟨rfl, hl⟩ | ⟨g, c, cur, rfl, _, _, hnc, _⟩
    · simp [Builtin.append_, run_underlying hu, sizeOf, typeInfo, hi, Builtin.lenOf, Builtin.firstCells]
    · simp [Builtin.append_, run_underlying hu, sizeOf, typeInfo, hi, Builtin.lenOf, Builtin.firstCells, hnc, storeCells]
  | some ad =>
    have hnews : ∀ j u, (K.all m)[j]? = some u → W.cell? (ad.add j) = some u := by
      intro j u hu
      have hj : j < m.length * K.s := by rw [← Kd.all_length]; exact (List.getElem?_eq_some_iff.1 hu).1
      have hj2 : j / K.s * K.s + j % K.s = j := by rw [Nat.mul_comm]; exact Nat.div_add_mod j K.s
      have hj3 : j / K.s < m.length := by rw [Nat.div_lt_iff_lt_mul K.pos]; exact hj
      have hj4 := Nat.mod_lt j K.pos
      obtain ⟨_, _, h2⟩ := ha ad hao (j / K.s) hj3
      have h3 := h2 (j % K.s) hj4
      have h4 := Kd.get_all (K := K) m (j / K.s) (j % K.s) hj3 hj4
      rw [hj2] at h3 h4
      rw [h3, ← h4, hu]
    obtain ⟨v', w', a1, a2, a3, _, a5⟩ := run_append_own_at (P := P) W B T T K.t i0 z K.s bytes hu hi hz0 hz1 hz2 hz K.pos v l.length (K.all l) h ad m.length cap (K.all m) (Kd.all_length m) hnews (Kd.all_one1 m) hb hby hB
    refine ⟨v', w', a1, ?_, ⟨a3.os, a3.tape, a3.output, a3.size, fun k hk hf => a3.block k hk (fun e => hf e.symm)⟩, a5⟩
    unfold GRow
    rw [List.length_append, Kd.all_append]
    exact a2
/-- 's[:m]'. -/
theorem run_cut_gh {T e : TypeId} {s : Nat} (hu : P.underlying T = some (.slice e)) (hs : (P.info? e).map (·.size) = some s) (ao : Option Addr) (n cap m : Nat) (h0 : m ≤ cap) (w : World) :
    (Instr.sliceAt T (.slice ao n cap) none (some (.int .i64 (m : Int))) none).run P w = .ok (.slice ao m cap) w := by
  have h1 : (0 : Int) ≤ (m : Int) ∧ (m : Int) ≤ (cap : Int) := by omega
  simp [Instr.sliceAt, Instr.slice, run_underlying hu, Instr.sliceBounds, run_sliceBound_if, run_sizeOf hs, h1]
  intro he
  cases ao with
  | none => rfl
  | some a => simp [Addr.add]
end
end Go.Proofs.YtilefgmlnmpeoaaDoor
