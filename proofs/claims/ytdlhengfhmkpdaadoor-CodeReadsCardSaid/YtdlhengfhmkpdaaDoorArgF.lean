/- What a law's arguments are: a slice of fields; a slice of numbers. -/
import Derived.Test.YtdlhengfhmkpdaaDoorCdFld
import Derived.Test.YtdlhengfhmkpdaaDoorCdPut
import Derived.Test.YtdlhengfhmkpdaaDoorFrame
import Derived.Deep.Slices
import Derived.ChangeSlices
namespace Go.Proofs.YtdlhengfhmkpdaaDoor
open Go.ChangeShapes Go.WideShapes Go.ChangeAt Go.RowKit

set_option maxRecDepth 100000 in
theorem field_of_trod {H : Type} {enc : TypeId × Value → H} {W : World} {base : Nat} {sp : Nat → Bool} {held : Bool} {n : Nat} {cs : List Value} {x : DataW H × List MemPlace} (h : DataW.trod enc Tryd.prog W base sp held n 33 cs = some x) : ∃ f : Fld, f.ok ∧ cs = f.cells := by
  have hu := Tryd.underlying33
  obtain ⟨xs, k, _, _, hlen, hxl, hf⟩ := DataW.trod_struct hu h
  rw [show Tryd.prog.cellsOf 33 = 5 by kernel_rfl] at hlen
  match cs, hlen with
  | [c0, c1, c2, c3, c4], _ =>
    match xs, hxl with
    | [y0, y1, y2, y3, y4], _ =>
      have g0 := hf 0 _ rfl
      have g1 := hf 1 _ rfl
      have g2 := hf 2 _ rfl
      have g3 := hf 3 _ rfl
      have g4 := hf 4 _ rfl
      have ci : Tryd.prog.cellsOf 3 = 1 := by kernel_rfl
      have cu : Tryd.prog.cellsOf 31 = 1 := by kernel_rfl
      have cst : Tryd.prog.cellsOf 9 = 1 := by kernel_rfl
      simp only [ci, cu, cst, List.drop_zero, List.drop_succ_cons, List.take_succ_cons, List.take_zero, List.getElem?_cons_zero, List.getElem?_cons_succ] at g0 g1 g2 g3 g4
      obtain ⟨a0, e0, _, w0⟩ := DataW.trod_int Tryd.underlying3 g0
      obtain ⟨a1, e1, _, w1⟩ := DataW.trod_int Tryd.underlying3 g1
      obtain ⟨a2, e2, _, w2⟩ := DataW.trod_int Tryd.underlying3 g2
      obtain ⟨a3, e3, _, w3⟩ := DataW.trod_int Tryd.underlying31 g3
      obtain ⟨s, e4, _, w4⟩ := DataW.trod_string Tryd.underlying9 g4
      injection e0 with e0
      injection e1 with e1
      injection e2 with e2
      injection e3 with e3
      injection e4 with e4
      subst e0 e1 e2 e3 e4
      simp [Lit.wf, IntKind.min, IntKind.max, IntKind.signed, IntKind.bits] at w1 w3
      refine ⟨⟨a0, a1, a2, a3.toNat, s⟩, ⟨by show a3.toNat < _; omega, w4, by show _ ≤ a1; omega, by show a1 < _; omega⟩, ?_⟩
      simp only [Fld.cells]
      rw [show ((a3.toNat : Nat) : Int) = a3 by omega]

theorem spot_of {a : Addr} (h : (a.add 0).spot = none) : a.spot = none := by simpa [Addr.add] using h

theorem list_of_each {α : Type} [Inhabited α] {p : Nat → α → Prop} : ∀ n : Nat, (∀ i, i < n → ∃ a, p i a) → ∃ l : List α, l.length = n ∧ ∀ i, i < n → p i (l.getD i default)
  | 0, _ => ⟨[], rfl, fun i h => absurd h (Nat.not_lt_zero i)⟩
  | n + 1, h => by
    obtain ⟨l, hl, hp⟩ := list_of_each n (fun i hi => h i (by omega))
    obtain ⟨a, ha⟩ := h n (by omega)
    refine ⟨l ++ [a], by simp [hl], fun i hi => ?_⟩
    by_cases hin : i < n
    · have := hp i hin
      simpa [List.getD, List.getElem?_append_left (show i < l.length by omega)] using this
    · obtain rfl : i = n := by omega
      simpa [List.getD, hl] using ha

set_option maxRecDepth 100000 in
theorem arg_fields {H : Type} {enc : TypeId × Value → H} {W : World} {r : Reach} {base : Nat} {v : Value} {d : DataW H} {p : List MemPlace} (hval : Value.okWide Tryd.prog W r base 23 v)
    (h0 : DataW.Trod enc Tryd.prog W 0 (fun _ => true) true 23 v d p) : ∃ l : List Fld, FAt W v l ∧ ∀ f ∈ l, f.ok := by
  obtain ⟨a0, len, cap, rfl⟩ := okWide_slice Tryd.underlying23 hval
  obtain ⟨fuel, hf⟩ := h0
  rcases Go.Deep.open_slice Tryd.underlying23 hf with ⟨hcs, _⟩ | ⟨a, len', cap', m, n, D, Pl, hcs, _, hl, hm, hmm, _, hx⟩
  · simp [Value.cells] at hcs
    obtain ⟨rfl, rfl, rfl⟩ := hcs
    exact ⟨[], ⟨none, 0, rfl, fun _ => rfl, fun ad h => by cases h⟩, fun f h => by cases h⟩
  · simp [Value.cells] at hcs
    obtain ⟨rfl, rfl, rfl⟩ := hcs
    simp only [if_true] at hmm
    rw [show Tryd.prog.cellsOf 33 = 5 by kernel_rfl] at hx
    obtain ⟨l, hll, hp⟩ := list_of_each (p := fun i (f : Fld) => f.ok ∧ ∀ j, j < 5 → W.cell? (a.add (i * 5 + j)) = f.cells[j]?) len (fun i hi => by
      obtain ⟨cs', h1, h2⟩ := hx i (by omega)
      obtain ⟨f, hok, rfl⟩ := field_of_trod h2
      obtain ⟨_, _, hc⟩ := World.cells?_some h1
      exact ⟨f, hok, fun j hj => by rw [← hc j hj, Go.Deep.add_add]⟩)
    refine ⟨l, ⟨some a, cap, by rw [hll], (fun h => by cases h), fun ad had i hi => ?_⟩, fun f hf => ?_⟩
    · cases had
      rw [hll] at hi
      have hc := (hp i hi).2
      have hc0 := hc 0 (by omega)
      have hs : a.spot = none := by
        have h3 : W.cell? (a.add (0 * 5 + 0)) = some (.int .i64 (l.getD 0 default).kind) := (hp 0 (by omega)).2 0 (by omega)
        rw [Nat.zero_mul, Nat.add_zero] at h3
        exact spot_of (World.cell?_spot h3)
      refine ⟨hs, ?_, hc⟩
      rcases Nat.lt_or_ge a.block W.heap.size with h | h
      · exact h
      · have hb : (a.add (i * 5 + 0)).block = a.block := addr_block _ _
        have h3 : W.cell? (a.add (i * 5 + 0)) = some (.int .i64 (l.getD i default).kind) := hc0
        simp [World.cell?, addr_block, Array.getElem?_eq_none h] at h3
    · obtain ⟨i, hi, rfl⟩ := List.getElem_of_mem hf
      have := (hp i (by omega)).1
      simpa [List.getD, hi] using this

set_option maxRecDepth 100000 in
theorem arg_nums {H : Type} {enc : TypeId × Value → H} {W : World} {r : Reach} {base : Nat} {v : Value} {d : DataW H} {p : List MemPlace} (hval : Value.okWide Tryd.prog W r base 125 v)
    (h0 : DataW.Trod enc Tryd.prog W 0 (fun _ => true) true 125 v d p) : ∃ l : List Nat, NAt W v l ∧ ∀ x ∈ l, x < 18446744073709551616 := by
  obtain ⟨a0, len, cap, rfl⟩ := okWide_slice Tryd.underlying125 hval
  obtain ⟨fuel, hf⟩ := h0
  rcases Go.Deep.open_slice1 Tryd.underlying125 (by kernel_rfl) hf with ⟨hcs, _⟩ | ⟨a, len', cap', m, n, V, D, Pl, hcs, _, hl, hm, hmm, _, hx⟩
  · simp [Value.cells] at hcs
    obtain ⟨rfl, rfl, rfl⟩ := hcs
    exact ⟨[], ⟨none, 0, rfl, fun _ => rfl, fun ad h => by cases h⟩, fun f h => by cases h⟩
  · simp [Value.cells] at hcs
    obtain ⟨rfl, rfl, rfl⟩ := hcs
    simp only [if_true] at hmm
    obtain ⟨l, hll, hp⟩ := list_of_each (p := fun i (x : Nat) => x < 18446744073709551616 ∧ W.cell? (a.add i) = some (.int .u64 (x : Nat))) len (fun i hi => by
      obtain ⟨h1, h2⟩ := hx i (by omega)
      obtain ⟨z, e, _, w⟩ := DataW.trod_int Tryd.underlying31 h2
      injection e with e
      simp [Lit.wf, IntKind.min, IntKind.max, IntKind.signed, IntKind.bits] at w
      exact ⟨z.toNat, by omega, by rw [h1, e, show ((z.toNat : Nat) : Int) = z by omega]⟩)
    refine ⟨l, ⟨some a, cap, by rw [hll], (fun h => by cases h), fun ad had i hi => ?_⟩, fun f hf => ?_⟩
    · cases had
      rw [hll] at hi
      have hc : W.cell? (a.add i) = some (.int .u64 (l.getD i 0 : Nat)) := (hp i hi).2
      have hs : a.spot = none := spot_of (World.cell?_spot (hp 0 (by omega)).2)
      refine ⟨hs, ?_, hc⟩
      rcases Nat.lt_or_ge a.block W.heap.size with h | h
      · exact h
      · have hb : (a.add i).block = a.block := addr_block _ _
        simp [World.cell?, hb, Array.getElem?_eq_none h] at hc
    · obtain ⟨i, hi, rfl⟩ := List.getElem_of_mem hf
      have := (hp i (by omega)).1
      simpa [List.getD, hi] using this
end Go.Proofs.YtdlhengfhmkpdaaDoor
