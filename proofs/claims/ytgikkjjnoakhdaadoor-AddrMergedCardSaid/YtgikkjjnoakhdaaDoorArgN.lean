/- What a law's arguments are: a net; a slice of nets. -/
import Derived.Test.YtgikkjjnoakhdaaDoorAdRow
import Derived.Test.YtgikkjjnoakhdaaDoorFrame
import Derived.Deep.Slices
import Derived.ChangeSlices
import Derived.OpenShut
namespace Go.Proofs.YtgikkjjnoakhdaaDoor
open Go.ChangeShapes Go.WideShapes Go.ChangeAt Go.RowKit

set_option maxRecDepth 100000 in
theorem net_of_trod {H : Type} {enc : TypeId × Value → H} {W : World} {base : Nat} {sp : Nat → Bool} {held : Bool} {n : Nat} {cs : List Value} {x : DataW H × List MemPlace} (h : DataW.trod enc Tryd.prog W base sp held n 24 cs = some x) : ∃ c : Net, c.a < 4294967296 ∧ cs = c.cells := by
  have hu := Tryd.underlying24
  obtain ⟨xs, k, _, _, hlen, hxl, hf⟩ := DataW.trod_struct hu h
  rw [show Tryd.prog.cellsOf 24 = 2 by kernel_rfl] at hlen
  match cs, hlen with
  | [c0, c1], _ =>
    match xs, hxl with
    | [y0, y1], _ =>
      have g0 := hf 0 _ rfl
      have g1 := hf 1 _ rfl
      have cu : Tryd.prog.cellsOf 22 = 1 := by kernel_rfl
      simp only [cu, List.drop_zero, List.drop_succ_cons, List.take_succ_cons, List.take_zero, List.getElem?_cons_zero, List.getElem?_cons_succ] at g0 g1
      obtain ⟨a0, e0, _, w0⟩ := DataW.trod_int Tryd.underlying22 g0
      obtain ⟨a1, e1, _, w1⟩ := DataW.trod_int Tryd.underlying3 g1
      injection e0 with e0
      injection e1 with e1
      subst e0 e1
      simp [Lit.wf, IntKind.min, IntKind.max, IntKind.signed, IntKind.bits] at w0
      refine ⟨⟨a0.toNat, a1⟩, by show a0.toNat < _; omega, ?_⟩
      simp only [Net.cells]
      rw [show ((a0.toNat : Nat) : Int) = a0 by omega]

set_option maxRecDepth 100000 in
theorem arg_net {H : Type} {enc : TypeId × Value → H} {W : World} {r : Reach} {base : Nat} {v : Value} {d : DataW H} {p : List MemPlace} (hval : Value.okWide Tryd.prog W r base 24 v)
    (h0 : DataW.Trod enc Tryd.prog W 0 (fun _ => true) true 24 v d p) : ∃ c : Net, v = c.val ∧ c.a < 4294967296 := by
  obtain ⟨cs, rfl, h2⟩ := okWide_struct Tryd.underlying24 hval
  obtain ⟨fuel, hf⟩ := h0
  obtain ⟨c, h3, h4⟩ := net_of_trod hf
  refine ⟨c, ?_, h3⟩
  rw [Net.val_cells, ← h4]
  rfl
set_option maxRecDepth 100000 in
theorem arg_u32 {i : Int} (h : (Lit.int .u32 i).wf = true) : ∃ n : Nat, i = n ∧ n < 4294967296 := by
  simp only [Lit.wf, Bool.and_eq_true, decide_eq_true_eq] at h
  have h0 : IntKind.u32.min = 0 := rfl
  have h1 : IntKind.u32.max = 4294967295 := rfl
  rw [h0, h1] at h
  exact ⟨i.toNat, by omega, by omega⟩

theorem spot_of {a : Addr} (h : (a.add 0).spot = none) : a.spot = none := by simpa [Addr.add] using h
theorem list_of_each {α : Type} [Inhabited α] {p : Nat → α → Prop} : ∀ n : Nat, (∀ i, i < n → ∃ a, p i a) → ∃ l : List α, l.length = n ∧ ∀ i, i < n → p i (l.getD i default)
  | 0, _ => ⟨[], rfl, fun i h => absurd h (Nat.not_lt_zero i)⟩
  | n + 1, h => by
    obtain ⟨l, hl, hp⟩ := list_of_each n (fun i hi => h i (by omega))
    obtain ⟨a, ha⟩ := h n (by omega)
    refine ⟨l ++ [a], by simp [hl], fun i hi => ?_⟩
    by_cases hin : i < n
    · have := hp i hin
      simpa [List.getD, List.getElem?_append_left (show i < l.length by omega)] using this
    · obtain rfl : i = n := by omega
      simpa [List.getD, hl] using ha

set_option maxRecDepth 100000 in
theorem arg_nets {H : Type} {enc : TypeId × Value → H} {W : World} {r : Reach} {base : Nat} {v : Value} {d : DataW H} {p : List MemPlace} (hval : Value.okWide Tryd.prog W r base 37 v)
    (h0 : DataW.Trod enc Tryd.prog W 0 (fun _ => true) true 37 v d p) : ∃ l : List Net, CAt W v l ∧ ∀ c ∈ l, c.a < 4294967296 := by
  obtain ⟨a0, len, cap, rfl⟩ := okWide_slice Tryd.underlying37 hval
  obtain ⟨fuel, hf⟩ := h0
  rcases Go.Deep.open_slice Tryd.underlying37 hf with ⟨hcs, _⟩ | ⟨a, len', cap', m, n, D, Pl, hcs, _, hl, hm, hmm, _, hx⟩
  · simp [Value.cells] at hcs
    obtain ⟨rfl, rfl, rfl⟩ := hcs
    exact ⟨[], ⟨none, 0, rfl, fun _ => ⟨rfl, rfl⟩, fun ad h => by cases h⟩, fun f h => by cases h⟩
  · simp [Value.cells] at hcs
    obtain ⟨rfl, rfl, rfl⟩ := hcs
    simp only [if_true] at hmm
    rw [show Tryd.prog.cellsOf 24 = 2 by kernel_rfl] at hx
    obtain ⟨l, hll, hp⟩ := list_of_each (p := fun i (f : Net) => f.a < 4294967296 ∧ ∀ j, j < 2 → W.cell? (a.add (i * 2 + j)) = f.cells[j]?) len (fun i hi => by
      obtain ⟨cs', h1, h2⟩ := hx i (by omega)
      obtain ⟨f, hok, rfl⟩ := net_of_trod h2
      obtain ⟨_, _, hc⟩ := World.cells?_some h1
      exact ⟨f, hok, fun j hj => by rw [← hc j hj, Go.Deep.add_add]⟩)
    refine ⟨l, ⟨some a, cap, by rw [hll], (fun h => by cases h), fun ad had i hi => ?_⟩, fun f hf => ?_⟩
    · cases had
      rw [hll] at hi
      have hc := (hp i hi).2
      have hc0 := hc 0 (by omega)
      have hs : a.spot = none := by
        have h3 : W.cell? (a.add (0 * 2 + 0)) = some (.int .u32 ((l.getD 0 default).a : Int)) := (hp 0 (by omega)).2 0 (by omega)
        rw [Nat.zero_mul, Nat.add_zero] at h3
        exact spot_of (World.cell?_spot h3)
      refine ⟨hs, ?_, hc⟩
      rcases Nat.lt_or_ge a.block W.heap.size with h | h
      · exact h
      · have h3 : W.cell? (a.add (i * 2 + 0)) = some (.int .u32 ((l.getD i default).a : Int)) := hc0
        simp [World.cell?, addr_block, Array.getElem?_eq_none h] at h3
    · obtain ⟨i, hi, rfl⟩ := List.getElem_of_mem hf
      have := (hp i (by omega)).1
      simpa [List.getD, hi] using this
end Go.Proofs.YtgikkjjnoakhdaaDoor
