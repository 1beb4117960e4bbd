/- Rows of nets in memory. -/
import Derived.Test.YtgikkjjnoakhdaaDoorAdMask
import Derived.Test.YtgikkjjnoakhdaaDoorKeep
import Derived.Laws.OwnMore
namespace Go.Proofs.YtgikkjjnoakhdaaDoor
open Go.RowKit

def Net.cells (c : Net) : List Value := [.int .u32 (c.a : Int), .int .i64 c.b]
/-- A net that Go can hold. -/
structure Net.fit (c : Net) : Prop where
  a : c.a < 4294967296
  lo : -9223372036854775808 ≤ c.b
  hi : c.b < 9223372036854775808
theorem Net.val_cells (c : Net) : c.val = .agg c.cells.toArray := rfl
def netCells (l : List Net) : List Value := l.flatMap Net.cells
theorem length_netCells (l : List Net) : (netCells l).length = l.length * 2 := by
  induction l with
  | nil => rfl
  | cons c l ih => simp only [netCells, List.flatMap_cons, List.length_append] at ih ⊢; rw [ih]; simp [Net.cells]; omega
theorem netCells_append (l m : List Net) : netCells (l ++ m) = netCells l ++ netCells m := by simp [netCells]
theorem netCells_one (c : Net) : netCells [c] = c.cells := by simp [netCells]
theorem get_netCells (l : List Net) (i j : Nat) (hi : i < l.length) (hj : j < 2) : (netCells l)[i * 2 + j]? = (l.getD i default).cells[j]? := by
  have h : l = l.take i ++ (l.getD i default :: l.drop (i + 1)) := by
    conv => lhs; rw [← List.take_append_drop i l, List.drop_eq_getElem_cons hi]
    simp [List.getD, hi]
  have hl : (netCells (l.take i)).length = i * 2 := by rw [length_netCells, List.length_take]; omega
  conv => lhs; rw [h, netCells_append]
  rw [List.getElem?_append_right (by omega), hl, show i * 2 + j - i * 2 = j by omega]
  rw [show netCells (l.getD i default :: l.drop (i + 1)) = (l.getD i default).cells ++ netCells (l.drop (i + 1)) by simp [netCells]]
  rw [List.getElem?_append_left (by simpa [Net.cells] using hj)]
theorem netCells_one1 (l : List Net) : ∀ v ∈ netCells l, v.oneCell' = true := by
  intro v hv
  obtain ⟨c, _, hc⟩ := List.mem_flatMap.1 hv
  simp [Net.cells] at hc
  rcases hc with rfl | rfl <;> rfl
theorem netCells_take (l : List Net) (k : Nat) (hk : k ≤ l.length) : (netCells l).take (k * 2) = netCells (l.take k) := by
  conv => lhs; rw [← List.take_append_drop k l, netCells_append]
  rw [List.take_left' (by rw [length_netCells, List.length_take]; omega)]

/-- The slice value v reads as the nets l. -/
def CAt (w : World) (v : Value) (l : List Net) : Prop := ∃ (ao : Option Addr) (cap : Nat), v = .slice ao l.length cap ∧ (ao = none → l = [] ∧ cap = 0) ∧
  ∀ ad, ao = some ad → ∀ i, i < l.length → ad.spot = none ∧ ad.block < w.heap.size ∧ ∀ j, j < 2 → w.cell? (ad.add (i * 2 + j)) = (l.getD i default).cells[j]?

theorem CAt.len {w : World} {v : Value} {l : List Net} (h : CAt w v l) : ∃ ao cap, v = .slice ao l.length cap := by
  obtain ⟨ao, cap, hv, _⟩ := h
  exact ⟨ao, cap, hv⟩
theorem CAt.keep {F : Nat → Prop} {w w' : World} {v : Value} {l : List Net} (h : CAt w v l) (hk : Keep F w w') (hf : Off F v) : CAt w' v l := by
  obtain ⟨ao, cap, rfl, hn, ha⟩ := h
  refine ⟨ao, cap, rfl, hn, fun ad had i hi => ?_⟩
  subst had
  obtain ⟨h0, h1, h2⟩ := ha ad rfl i hi
  refine ⟨h0, Nat.lt_of_lt_of_le h1 hk.size, fun j hj => ?_⟩
  rw [← h2 j hj]
  have hb := hk.block ad.block h1 (hf _ rfl)
  simp only [World.cell?, addr_block, hb]
theorem CAt.below {w w' : World} {v : Value} {l : List Net} (h : CAt w v l) (hb : Below w.heap.size w w') : CAt w' v l :=
  h.keep (Keep.of_below hb : Keep (fun _ => False) w w') (fun _ _ => id)
theorem CAt.at {w : World} {ao : Option Addr} {n cap : Nat} {l : List Net} (h : CAt w (.slice ao n cap) l) {k : Nat} (hk : k < n) : ∃ b o, ao = some ⟨b, o, none⟩ ∧ b < w.heap.size ∧
    w.cell? ⟨b, o + k * 2, none⟩ = some (.int .u32 ((l.getD k default).a : Int)) ∧ w.cell? ⟨b, o + k * 2 + 1, none⟩ = some (.int .i64 (l.getD k default).b) := by
  obtain ⟨ao', cap', hv, hn, ha⟩ := h
  injection hv with e1 e2 e3
  subst e1 e2
  cases hao : ao with
  | none => rw [(hn hao).1] at hk; simp at hk
  | some ad =>
    obtain ⟨h0, h1, h2⟩ := ha ad hao k hk
    obtain ⟨b, o, s⟩ := ad
    cases h0
    have f := fun j (hj : j < 2) => (show w.cell? ⟨b, o + (k * 2 + j), none⟩ = _ from addr_plain' b o (k * 2 + j) ▸ h2 j hj)
    exact ⟨b, o, rfl, h1, f 0 (by omega), f 1 (by omega)⟩

/-- v is a row of the call's own (at B or above) with the nets l. -/
def CRow (W : World) (B : Nat) (v : Value) (l : List Net) : Prop := W.ownsRow B 24 2 v l.length (netCells l)
theorem CRow.nil (W : World) (B : Nat) : CRow W B (.slice none 0 0) [] := World.ownsRow_nil _ _ _ _
theorem CRow.alloc {W : World} {B : Nat} {v : Value} {l : List Net} (h : CRow W B v l) (o : Obj) : CRow (W.alloc o) B v l := World.ownsRow.alloc h o
theorem CRow.drew {W : World} {B : Nat} {v : Value} {l : List Net} (h : CRow W B v l) : CRow W.drew B v l := h
theorem CRow.lt {W : World} {B : Nat} {v : Value} {l : List Net} (h : CRow W B v l) {k : Nat} (hk : v.ownBlock = some k) : k < W.heap.size := (World.ownsRow.lt h k hk).2
theorem CRow.ge {W : World} {B : Nat} {v : Value} {l : List Net} (h : CRow W B v l) {k : Nat} (hk : v.ownBlock = some k) : B ≤ k := (World.ownsRow.lt h k hk).1
theorem CRow.base {W : World} {B B' : Nat} {v : Value} {l : List Net} (h : CRow W B v l) (hb : B' ≤ B) : CRow W B' v l := by
  obtain ⟨h1, h2 | ⟨g, cap, cur, e1, e2, r⟩⟩ := h
  · exact ⟨h1, .inl h2⟩
  · exact ⟨h1, .inr ⟨g, cap, cur, e1, Nat.le_trans hb e2, r⟩⟩
theorem CRow.keep {F : Nat → Prop} {W W' : World} {B : Nat} {v : Value} {l : List Net} (h : CRow W B v l) (hk : Keep F W W') (hf : Off F v) : CRow W' B v l := by
  obtain ⟨h1, h2 | ⟨g, cap, cur, e1, e2, e3, r⟩⟩ := h
  · exact ⟨h1, .inl h2⟩
  · refine ⟨h1, .inr ⟨g, cap, cur, e1, e2, ?_, r⟩⟩
    rw [hk.block g (Array.getElem?_eq_some_iff.1 e3).1 (hf g (by rw [e1]; rfl))]
    exact e3
theorem CRow.below {W W' : World} {B : Nat} {v : Value} {l : List Net} (h : CRow W B v l) (hb : Below W.heap.size W W') : CRow W' B v l :=
  h.keep (Keep.of_below hb : Keep (fun _ => False) W W') (fun _ _ => id)
theorem CRow.own {W : World} {B : Nat} {v : Value} {l : List Net} (h : CRow W B v l) : (v = .slice none 0 0 ∧ l = []) ∨ ∃ g c, v = .slice (some ⟨g, 0, none⟩) l.length c := by
  obtain ⟨_, h2 | ⟨g', cap, cur, e1, _⟩⟩ := h
  · exact .inl ⟨h2.1, List.length_eq_zero_iff.1 h2.2⟩
  · exact .inr ⟨g', cap, e1⟩
theorem CRow.cAt {W : World} {B : Nat} {v : Value} {l : List Net} (h : CRow W B v l) : CAt W v l := by
  have hl := fun k hk => CRow.lt h (k := k) hk
  have hc := fun g hg => World.ownsRow.cells h (g := g) hg
  rcases h.own with ⟨rfl, rfl⟩ | ⟨g, c, rfl⟩
  · exact ⟨none, 0, rfl, fun _ => ⟨rfl, rfl⟩, fun ad h => by cases h⟩
  · refine ⟨_, c, rfl, (fun h => by cases h), fun ad had i hi => ?_⟩
    cases had
    refine ⟨rfl, hl g rfl, fun j hj => ?_⟩
    have h1 := get_netCells l i j hi hj
    have h2 : j < (l.getD i default).cells.length := by simpa [Net.cells] using hj
    rw [List.getElem?_eq_getElem h2] at h1 ⊢
    exact hc g rfl (i * 2 + j) _ h1
/-- The first k of a row. -/
theorem CRow.take {W : World} {B n c : Nat} {ao : Option Addr} {l : List Net} (h : CRow W B (.slice ao n c) l) (k : Nat) (hk : k ≤ l.length) (h0 : 0 < l.length) : CRow W B (.slice ao k c) (l.take k) := by
  have hkl : (l.take k).length = k := by rw [List.length_take]; omega
  obtain ⟨h1, h2 | ⟨g, cap, cur, e1, e2, e3, e4, e5, e6, e7⟩⟩ := h
  · omega
  · injection e1 with a1 a2 a3
    subst a1 a2 a3
    refine ⟨by rw [hkl, length_netCells, hkl], .inr ⟨g, c, cur, by rw [hkl], e2, e3, by rw [hkl]; omega, e5, e6, ?_⟩⟩
    rw [hkl, ← netCells_take l k hk, ← e7, List.take_take, Nat.min_eq_left (by omega)]

theorem Tryd.info_net : (Tryd.prog.info? 24).map (fun i => (i.zero, i.size, i.bytes)) = some (some (.agg #[.int .u32 0, .int .i64 0]), 2, 16) := by kernel_rfl

/-- A row of nets of the call's own that an append makes longer. -/
theorem append_nets (W : World) (B : Nat) (v : Value) (l : List Net) (h : CRow W B v l) (sv : Value) (m : List Net) (hs : CAt W sv m) (hb : l.length + m.length ≤ 8000000000000) (hB : B ≤ W.heap.size) :
    ∃ v' w', (Builtin.append_ #[37, 37] 37 #[v, sv]).run Tryd.prog W = .ok v' w' ∧ CRow w' B v' (l ++ m) ∧ Keep (fun k => v.ownBlock = some k) W w' ∧ (v'.ownBlock = v.ownBlock ∨ v'.ownBlock = some W.heap.size) := by
  obtain ⟨i0, hi, hz0, hz1, hz2⟩ := info_parts Tryd.info_net
  obtain ⟨ao, cap, rfl, hn, ha⟩ := hs
  cases hao : ao with
  | none =>
    obtain ⟨rfl, rfl⟩ := hn hao
    refine ⟨v, W, ?_, by simpa using h, Keep.refl _ _, .inl rfl⟩
    rcases h.2 with ⟨rfl, hl⟩ | ⟨g, c, cur, rfl, _, _, hnc, _⟩
    · simp [Builtin.append_, run_underlying Tryd.underlying37, sizeOf, typeInfo, hi, Builtin.lenOf, Builtin.firstCells]
    · simp [Builtin.append_, run_underlying Tryd.underlying37, sizeOf, typeInfo, hi, Builtin.lenOf, Builtin.firstCells, hnc, storeCells]
  | some ad =>
    have hnews : ∀ j u, (netCells m)[j]? = some u → W.cell? (ad.add j) = some u := by
      intro j u hu
      have hj : j < m.length * 2 := by rw [← length_netCells]; exact (List.getElem?_eq_some_iff.1 hu).1
      have hj2 : j / 2 * 2 + j % 2 = j := by omega
      obtain ⟨_, _, h2⟩ := ha ad hao (j / 2) (by omega)
      have h3 := h2 (j % 2) (by omega)
      have h4 := get_netCells m (j / 2) (j % 2) (by omega) (by omega)
      rw [hj2] at h3 h4
      rw [h3, ← h4, hu]
    obtain ⟨v', w', a1, a2, a3, _, a5⟩ := run_append_own_at (P := Tryd.prog) W B 37 37 24 i0 _ 2 16 Tryd.underlying37 hi hz0 hz1 hz2 rfl (by omega) v l.length (netCells l) h ad m.length cap (netCells m) (length_netCells m) hnews (netCells_one1 m) (by unfold maxLen; omega) (by omega) hB
    refine ⟨v', w', a1, ?_, ⟨a3.os, a3.tape, a3.output, a3.size, fun k hk hf => a3.block k hk (fun e => hf e.symm)⟩, a5⟩
    unfold CRow
    rw [List.length_append, netCells_append]
    exact a2
/-- A box of one net, read as a row. -/
theorem box_row (W : World) (g : Nat) (c : Net) (h : W.heap[g]? = some (.cells #[.int .u32 (c.a : Int), .int .i64 c.b] 24 (0, 0))) (k : Nat) : CAt W (.slice (some ⟨g, 0, none⟩) 1 k) [c] := by
  refine ⟨_, k, rfl, (fun h => by cases h), fun ad had i hi => ?_⟩
  cases had
  simp at hi
  subst hi
  refine ⟨rfl, (Array.getElem?_eq_some_iff.1 h).1, fun j hj => ?_⟩
  rw [addr_plain', cell_of_row W g _ _ _ _ h]
  match j, hj with
  | 0, _ => rfl
  | 1, _ => rfl
end Go.Proofs.YtgikkjjnoakhdaaDoor
