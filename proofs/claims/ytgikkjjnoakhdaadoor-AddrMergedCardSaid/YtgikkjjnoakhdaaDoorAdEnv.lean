/- What package addr asks of the library's own variables; strings.SplitN, strings.Cut in plain words. -/
import Derived.Test.YtgikkjjnoakhdaaDoorAdStrs
import Derived.Test.YtgikkjjnoakhdaaDoorShelf
namespace Go.Proofs.YtgikkjjnoakhdaaDoor
open Go.RowKit Go.Lib

def Env (w : World) : Prop := (∃ m, w.cell? ⟨0, 0, none⟩ = some (.int .i64 m)) ∧ Lib.TabIs Tryd.prog w "internal/strconv.uint64pow10" .u64 Lib.pow10Tab
theorem cell_lt {w : World} {p : Addr} {v : Value} (h : w.cell? p = some v) : p.block < w.heap.size := by
  apply Classical.byContradiction
  intro hn
  have : w.heap[p.block]? = none := Array.getElem?_eq_none (by omega)
  simp [World.cell?, this] at h
theorem Env.below {w w' : World} (h : Env w) (hb : Below w.heap.size w w') : Env w' := by
  obtain ⟨⟨m, hm⟩, ht⟩ := h
  refine ⟨⟨m, (hb.cell (cell_lt hm)).trans hm⟩, ?_⟩
  unfold Lib.TabIs at *
  have hg : Tryd.prog.globalNamed "internal/strconv.uint64pow10" = some 1 := by kernel_rfl
  unfold World.var? at ht ⊢
  rw [hg] at ht ⊢
  simp only [Option.bind_some] at ht ⊢
  have hlt : 1 < w.heap.size := by
    apply Classical.byContradiction
    intro hn
    rw [Array.getElem?_eq_none (by omega)] at ht
    simp at ht
  rw [hb.block _ hlt]
  exact ht

theorem splitN_any (s : ByteArray) (hs : s.size < 4294967281) (W : World) (hE : Env W) : Calls Tryd.prog 35 #[.string s, .string ⟨#[46]⟩, .int .i64 5] W (fun e w' => ∃ v l, e = .returned v ∧ TAt w' v l ∧ Below W.heap.size W w' ∧ l.length ≤ 5 ∧ (l.length = 4 ↔ (cutL 46 s.data.toList).length = 4) ∧ (l.length = 4 → l.map (fun b => b.data.toList) = cutL 46 s.data.toList)) := by
  obtain ⟨⟨m, hm⟩, _⟩ := hE
  have h := Any.strings_SplitN Tryd.lays147 Tryd.info_str s ⟨#[46]⟩ 5 m W hs hm (by decide) (by omega) (by omega)
  refine h.mono ?_
  rintro e w' ⟨rfl, rfl⟩
  have hk : min 5 (s.size + 1) - 1 = min 4 s.size := by omega
  obtain ⟨h1, h2⟩ := split_len ⟨#[46]⟩ 46 rfl (min 4 s.size) s
  rw [hk]
  have hc := cutL_length 46 s.data.toList
  have hz : s.data.toList.length = s.size := by rw [Array.length_toList]; rfl
  generalize splitB ⟨#[46]⟩ 0 (min 4 s.size) s = l at *
  refine ⟨_, l, rfl, ?_, (Below.refl _ _).alloc (Nat.le_refl _) _, by omega, ⟨fun h => by omega, fun h => by omega⟩, fun h => h2 (by omega)⟩
  refine ⟨_, _, rfl, (fun h => by cases h), fun ad had i hi => ?_⟩
  cases had
  refine ⟨rfl, by show W.heap.size < (W.alloc _).heap.size; simp, ?_⟩
  rw [addr_plain', Nat.zero_add]
  have hg : (Lib.cellsOf l (min 5 (s.size + 1)))[i]? = some (.string (l.getD i ByteArray.empty)) := by
    unfold Lib.cellsOf
    rw [List.getElem?_toArray, List.getElem?_append_left (by simpa using hi), List.getElem?_map, List.getElem?_eq_getElem hi]
    simp [List.getD, hi]
  exact (cell_of_row _ W.heap.size i _ _ _ (heap_alloc_new W _)).trans hg

theorem cut_any (s : ByteArray) (hs : s.size < 4294967281) (W : World) (hE : Env W) : Calls Tryd.prog 39 #[.string s, .string ⟨#[47]⟩] W (fun e w' => e = .returned (.tuple #[.string ⟨(Lib.cut s.data.toList [47]).1.toArray⟩, .string ⟨(Lib.cut s.data.toList [47]).2.1.toArray⟩, .bool (Lib.cut s.data.toList [47]).2.2]) ∧ Below W.heap.size W w') := by
  obtain ⟨⟨m, hm⟩, _⟩ := hE
  have h := Any.strings_Cut Tryd.lays145 s ⟨#[47]⟩ m W hs hm
  refine h.mono ?_
  rintro e w' ⟨rfl, n, rfl⟩
  exact ⟨rfl, below_drewN' W n⟩
end Go.Proofs.YtgikkjjnoakhdaaDoor
