/- Rows of texts in memory. -/
import Derived.Test.YtgikkjjnoakhdaaDoorAdNum
import Derived.Test.YtgikkjjnoakhdaaDoorKeep
import Derived.Test.YtgikkjjnoakhdaaDoorPl
import Derived.Laws.OwnMore
namespace Go.Proofs.YtgikkjjnoakhdaaDoor
open Go.RowKit Go.Lib

/-- The slice value v reads as the texts l. -/
def TAt (w : World) (v : Value) (l : List ByteArray) : Prop := ∃ (ao : Option Addr) (cap : Nat), v = .slice ao l.length cap ∧ (ao = none → l = [] ∧ cap = 0) ∧
  ∀ ad, ao = some ad → ∀ i, i < l.length → ad.spot = none ∧ ad.block < w.heap.size ∧ w.cell? (ad.add i) = some (.string (l.getD i ByteArray.empty))
theorem TAt.len {w : World} {v : Value} {l : List ByteArray} (h : TAt w v l) : ∃ ao cap, v = .slice ao l.length cap := by
  obtain ⟨ao, cap, hv, _⟩ := h
  exact ⟨ao, cap, hv⟩
theorem TAt.below {w w' : World} {v : Value} {l : List ByteArray} (h : TAt w v l) (hb : Below w.heap.size w w') : TAt w' v l := by
  obtain ⟨ao, cap, rfl, hn, ha⟩ := h
  refine ⟨ao, cap, rfl, hn, fun ad had i hi => ?_⟩
  obtain ⟨h0, h1, h2⟩ := ha ad had i hi
  exact ⟨h0, Nat.lt_of_lt_of_le h1 hb.size, (hb.cell (p := ad.add i) (by rw [addr_block]; exact h1)).trans h2⟩
theorem TAt.at {w : World} {ao : Option Addr} {n cap : Nat} {l : List ByteArray} (h : TAt w (.slice ao n cap) l) {k : Nat} (hk : k < n) : ∃ b o, ao = some ⟨b, o, none⟩ ∧ b < w.heap.size ∧ w.cell? ⟨b, o + k, none⟩ = some (.string (l.getD k ByteArray.empty)) := by
  obtain ⟨ao', cap', hv, hn, ha⟩ := h
  injection hv with e1 e2 e3
  subst e1 e2
  cases hao : ao with
  | none => rw [(hn hao).1] at hk; simp at hk
  | some ad =>
    obtain ⟨h0, h1, h2⟩ := ha ad hao k hk
    obtain ⟨b, o, s⟩ := ad
    cases h0
    exact ⟨b, o, rfl, h1, (show w.cell? ⟨b, o + k, none⟩ = _ from addr_plain' b o k ▸ h2)⟩

/-- v is a row of the call's own (at B or above) with the texts l. -/
def TRow (W : World) (B : Nat) (v : Value) (l : List ByteArray) : Prop := W.ownsRow B 9 1 v l.length (l.map Value.string)
theorem TRow.nil (W : World) (B : Nat) : TRow W B (.slice none 0 0) [] := World.ownsRow_nil _ _ _ _
theorem TRow.alloc {W : World} {B : Nat} {v : Value} {l : List ByteArray} (h : TRow W B v l) (o : Obj) : TRow (W.alloc o) B v l := World.ownsRow.alloc h o
theorem TRow.own {W : World} {B : Nat} {v : Value} {l : List ByteArray} (h : TRow W B v l) : (v = .slice none 0 0 ∧ l = []) ∨ ∃ g c, v = .slice (some ⟨g, 0, none⟩) l.length c := by
  obtain ⟨_, h2 | ⟨g', cap, cur, e1, _⟩⟩ := h
  · exact .inl ⟨h2.1, List.length_eq_zero_iff.1 h2.2⟩
  · exact .inr ⟨g', cap, e1⟩
theorem TRow.tAt {W : World} {B : Nat} {v : Value} {l : List ByteArray} (h : TRow W B v l) : TAt W v l := by
  have hl := fun k hk => (World.ownsRow.lt h k hk).2
  have hc := fun g hg => World.ownsRow.cells h (g := g) hg
  rcases h.own with ⟨rfl, rfl⟩ | ⟨g, c, rfl⟩
  · exact ⟨none, 0, rfl, fun _ => ⟨rfl, rfl⟩, fun ad h => by cases h⟩
  · refine ⟨_, c, rfl, (fun h => by cases h), fun ad had i hi => ?_⟩
    cases had
    refine ⟨rfl, hl g rfl, ?_⟩
    refine hc g rfl i _ ?_
    rw [List.getElem?_map, List.getElem?_eq_getElem hi]
    simp [List.getD, hi]
theorem Tryd.info_str : (Tryd.prog.info? 9).map (fun i => (i.zero, i.size, i.bytes)) = some (some (.string ByteArray.empty), 1, 16) := by kernel_rfl

/-- A row of texts of the call's own that an append makes longer by one. -/
theorem append_text (W : World) (B : Nat) (v : Value) (l : List ByteArray) (h : TRow W B v l) (s : ByteArray) (hb : l.length ≤ 8000000000000) (hB : B ≤ W.heap.size) :
    ∃ v' w', (Builtin.append_ #[53, 53] 53 #[v, .slice (some ⟨W.heap.size, 0, none⟩) 1 1]).run Tryd.prog (W.alloc (.cells #[.string s] 9)) = .ok v' w' ∧ TRow w' B v' (l ++ [s]) ∧ Below B (W.alloc (.cells #[.string s] 9)) w' := by
  obtain ⟨i0, hi, hz0, hz1, hz2⟩ := info_parts Tryd.info_str
  have hnews : ∀ j u, ([Value.string s] : List Value)[j]? = some u → (W.alloc (.cells #[.string s] 9)).cell? ((⟨W.heap.size, 0, none⟩ : Addr).add j) = some u := by
    intro j u hu
    have hj : j < 1 := by simpa using (List.getElem?_eq_some_iff.1 hu).1
    obtain rfl : j = 0 := by omega
    simp at hu
    subst hu
    simp [Addr.add]
  have hsz : W.heap.size ≤ (W.alloc (.cells #[.string s] 9)).heap.size := by simp
  obtain ⟨v', w', a1, a2, a3, _, a5⟩ := run_append_own_at (P := Tryd.prog) (W.alloc (.cells #[.string s] 9)) B 53 53 9 i0 _ 1 16 Tryd.underlying53 hi hz0 hz1 hz2 rfl (by omega) v l.length (l.map Value.string) (TRow.alloc h _) ⟨W.heap.size, 0, none⟩ 1 1 [.string s] rfl hnews (by simp [Value.oneCell']) (by unfold maxLen; omega) (by omega) (Nat.le_trans hB hsz)
  refine ⟨v', w', a1, ?_, ?_⟩
  · unfold TRow
    rw [List.length_append, List.map_append]
    exact a2
  · exact (Below.refl B _).grown a3 (Nat.le_trans hB hsz) (fun k e => (World.ownsRow.lt h k e).1)
end Go.Proofs.YtgikkjjnoakhdaaDoor
