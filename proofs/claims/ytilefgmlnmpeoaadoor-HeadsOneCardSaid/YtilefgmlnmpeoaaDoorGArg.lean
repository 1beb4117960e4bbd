/- What a law's arguments are: a struct by value, a slice of structs, of any kind; no program is named here. -/
import Derived.Test.YtilefgmlnmpeoaaDoorGRow
import Derived.Deep.Slices
import Derived.ChangeSlices
import Derived.OpenShut
import Derived.WideShapes
import Derived.ChangeAt
namespace Go.Proofs.YtilefgmlnmpeoaaDoor
open Go.ChangeShapes Go.WideShapes Go.ChangeAt Go.RowKit

theorem spot_of' {a : Addr} (h : (a.add 0).spot = none) : a.spot = none := by simpa [Addr.add] using h
theorem list_of_each' {α : Type} (d : α) {p : Nat → α → Prop} : ∀ n : Nat, (∀ i, i < n → ∃ a, p i a) → ∃ l : List α, l.length = n ∧ ∀ i, i < n → p i (l.getD i d)
  | 0, _ => ⟨[], rfl, fun i h => absurd h (Nat.not_lt_zero i)⟩
  | n + 1, h => by
    obtain ⟨l, hl, hp⟩ := list_of_each' d n (fun i hi => h i (by omega))
    obtain ⟨a, ha⟩ := h n (by omega)
    refine ⟨l ++ [a], by simp [hl], fun i hi => ?_⟩
    by_cases hin : i < n
    · have := hp i hin
      simpa [List.getD, List.getElem?_append_left (show i < l.length by omega)] using this
    · obtain rfl : i = n := by omega
      simpa [List.getD, hl] using ha
section
variable {P : Program} {H : Type} {enc : TypeId × Value → H} {W : World} {α : Type} {K : Kd α} {ok : α → Prop}
set_option maxRecDepth 100000 in
theorem arg_g {T : TypeId} (hu : P.underlying T = some (.slice K.t)) (hcs : P.cellsOf K.t = K.s)
    (ho : ∀ {base : Nat} {sp : Nat → Bool} {held : Bool} {n : Nat} {cs : List Value} {x : DataW H × List MemPlace}, DataW.trod enc P W base sp held n K.t cs = some x → ∃ a, ok a ∧ cs = K.cells a)
    {r : Reach} {base : Nat} {v : Value} {d : DataW H} {p : List MemPlace} (hval : Value.okWide P W r base T v)
    (h0 : DataW.Trod enc P W 0 (fun _ => true) true T v d p) : ∃ l : List α, GAt K W v l ∧ (∀ c ∈ l, ok c) ∧ l.length ≤ maxLen := by
  obtain ⟨a0, len, cap, rfl⟩ := okWide_slice hu hval
  obtain ⟨fuel, hf⟩ := h0
  rcases Go.Deep.open_slice hu hf with ⟨hcs0, _⟩ | ⟨a, len', cap', m, n, D, Pl, hcs0, _, hl, hm, hmm, _, hx⟩
  · simp [Value.cells] at hcs0
    obtain ⟨rfl, rfl, rfl⟩ := hcs0
    exact ⟨[], GAt.nil W, (fun f h => by cases h), by simp⟩
  · simp [Value.cells] at hcs0
    obtain ⟨rfl, rfl, rfl⟩ := hcs0
    simp only [if_true] at hmm
    rw [hcs] at hx
    have hpos := K.pos
    obtain ⟨l, hll, hp⟩ := list_of_each' K.dft (p := fun i (f : α) => ok f ∧ ∀ j, j < K.s → W.cell? (a.add (i * K.s + j)) = (K.cells f)[j]?) len (fun i hi => by
      obtain ⟨cs', h1, h2⟩ := hx i (by omega)
      obtain ⟨f, hok, rfl⟩ := ho h2
      obtain ⟨_, _, hc⟩ := World.cells?_some h1
      exact ⟨f, hok, fun j hj => by rw [← hc j hj, Go.Deep.add_add]⟩)
    refine ⟨l, ⟨some a, cap, by rw [hll], by omega, (fun h => by cases h), fun ad had i hi => ?_⟩, fun f hf => ?_, by omega⟩
    · cases had
      rw [hll] at hi
      have hc := (hp i hi).2
      have hs : a.spot = none := by
        have h3 := (hp 0 (by omega)).2 0 hpos
        rw [Nat.zero_mul, Nat.add_zero] at h3
        have h4 : 0 < (K.cells (l.getD 0 K.dft)).length := by rw [K.len]; exact hpos
        rw [List.getElem?_eq_getElem h4] at h3
        exact spot_of' (World.cell?_spot h3)
      refine ⟨hs, ?_, hc⟩
      rcases Nat.lt_or_ge a.block W.heap.size with h | h
      · exact h
      · have h3 := hc 0 hpos
        have h4 : 0 < (K.cells (l.getD i K.dft)).length := by rw [K.len]; exact hpos
        rw [List.getElem?_eq_getElem h4] at h3
        simp [World.cell?, addr_block, Array.getElem?_eq_none h] at h3
    · obtain ⟨i, hi, rfl⟩ := List.getElem_of_mem hf
      have := (hp i (by omega)).1
      simpa [List.getD, hi] using this
theorem arg_g1 {fs : Array Field} (hu : P.underlying K.t = some (.struct fs))
    (ho : ∀ {base : Nat} {sp : Nat → Bool} {held : Bool} {n : Nat} {cs : List Value} {x : DataW H × List MemPlace}, DataW.trod enc P W base sp held n K.t cs = some x → ∃ a, ok a ∧ cs = K.cells a)
    {r : Reach} {base : Nat} {v : Value} {d : DataW H} {p : List MemPlace} (hval : Value.okWide P W r base K.t v)
    (h0 : DataW.Trod enc P W 0 (fun _ => true) true K.t v d p) : ∃ c : α, v = .agg (K.cells c).toArray ∧ ok c := by
  obtain ⟨cs, rfl, h2⟩ := okWide_struct hu hval
  obtain ⟨fuel, hf⟩ := h0
  obtain ⟨c, h3, h4⟩ := ho hf
  refine ⟨c, ?_, h3⟩
  rw [← h4]
  rfl
end
end Go.Proofs.YtilefgmlnmpeoaaDoor
