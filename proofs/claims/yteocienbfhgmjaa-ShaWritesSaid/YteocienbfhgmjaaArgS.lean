/- What a law's arguments are: a Sha, by value. -/
import Derived.Test.YteocienbfhgmjaaBlockLaw
import Derived.Test.YteocienbfhgmjaaArgs
import Derived.Test.YteocienbfhgmjaaSum
namespace Go.Proofs.Yteocienbfhgmjaa
open Go.ChangeShapes Go.WideShapes Go.ChangeAt Go.RowKit

theorem arr_cells {H : Type} {enc : TypeId × Value → H} {P : Program} {W : World} {t e : TypeId} {n fuel : Nat} {k : IntKind} {cs : List Value} {x : DataW H × List MemPlace} (hu : P.underlying t = some (.array n e)) (he : P.underlying e = some (.int k)) (hce : P.cellsOf e = 1)
    (hf : DataW.trod enc P W 0 (fun _ => true) true fuel t cs = some x) : ∀ i, i < n → ∃ a, cs[i]? = some (.int k a) ∧ (Lit.int k a).wf = true := by
  cases fuel with
  | zero => simp [DataW.trod] at hf
  | succ m =>
    rw [DataW.trod_step] at hf
    unfold DataW.trodStep at hf
    simp only [hu] at hf
    split at hf
    · simp only [Option.map_eq_some_iff] at hf
      obtain ⟨ys, hy, _⟩ := hf
      intro i hi
      obtain ⟨y, hy2⟩ := mapM_each hy i (by simpa using hi)
      obtain ⟨a, ea, _, wa⟩ := DataW.trod_int he hy2
      rw [hce, Nat.mul_one] at ea
      refine ⟨a, ?_, wa⟩
      have := congrArg (fun l => l[0]?) ea
      simpa [List.getElem?_take, List.getElem?_drop] using this
    · cases hf

theorem bytes_cell {H : Type} {enc : TypeId × Value → H} {W : World} {fuel : Nat} {c : Value} {x : DataW H × List MemPlace} (hf : DataW.trod enc Try.prog W 0 (fun _ => true) true fuel 28 [c] = some x) :
    ∃ xs : List Int, SlAt W c xs ∧ (∀ x ∈ xs, 0 ≤ x ∧ x < 256) ∧ xs.length ≤ maxLen := by
  rcases open_ints Try.underlying28 Try.underlying5 Try.cells5 hf with ⟨hcs, hx⟩ | ⟨a, len, cap, zs, hcs, _, hl, hm, hz, hx, hcell, hwz⟩
  · simp at hcs
    subst hcs
    exact ⟨[], ⟨none, 0, rfl, fun _ => ⟨rfl, rfl⟩, Nat.le_refl _, fun ad h => by cases h⟩, (fun x h => by cases h), by simp⟩
  · simp at hcs
    subst hcs
    simp only [if_true] at hz
    have hlen : (zs.take len).length = len := by simp; omega
    refine ⟨zs.take len, ⟨some a, cap, by rw [hlen], (fun h => by cases h), by rw [hlen]; exact hl, fun ad had i hi => ?_⟩, fun x hx => byte_bounds (hwz x (List.mem_of_mem_take hx)), by rw [hlen]; omega⟩
    cases had
    rw [hlen] at hi
    have hc := hcell i (by omega)
    have hc0 := hcell 0 (by omega)
    have hs : a.spot = none := by
      have := World.cell?_spot hc0
      simpa [Addr.add] using this
    refine ⟨hs, ?_, ?_⟩
    · rcases Nat.lt_or_ge a.block W.heap.size with h | h
      · exact h
      · have hb : (a.add i).block = a.block := by unfold Addr.add; split <;> rfl
        simp [World.cell?, hb, Array.getElem?_eq_none h] at hc
    · rw [hc]
      simp [nth, List.getD, hi]

theorem list10 {α : Type} {l : List α} (h : l.length = 10) : ∃ v0 v1 v2 v3 v4 v5 v6 v7 v8 v9, l = [v0, v1, v2, v3, v4, v5, v6, v7, v8, v9] := by
  match l, h with
  | [v0, v1, v2, v3, v4, v5, v6, v7, v8, v9], _ => exact ⟨v0, v1, v2, v3, v4, v5, v6, v7, v8, v9, rfl⟩
theorem cells23 : Try.prog.cellsOf 23 = 1 := by kernel_rfl
theorem cells24 : Try.prog.cellsOf 24 = 8 := by kernel_rfl
theorem cells28 : Try.prog.cellsOf 28 = 1 := by kernel_rfl
theorem cells29 : Try.prog.cellsOf 29 = 1 := by kernel_rfl
theorem cells41 : Try.prog.cellsOf 41 = 10 := by have := size41; unfold Program.cellsOf; obtain ⟨i, hi, hs⟩ := Option.map_eq_some_iff.1 this; rw [hi]; exact hs

theorem arg_sha {H : Type} {enc : TypeId × Value → H} {W : World} {r : Reach} {base : Nat} {v : Value} {d : DataW H} {p : List MemPlace} (hval : Value.okWide Try.prog W r base 41 v)
    (h0 : DataW.Trod enc Try.prog W 0 (fun _ => true) true 41 v d p) : ∃ (zs : List Int) (rv : Value) (xs : List Int) (n : Nat), v = shaV zs rv n ∧ zs.length = 8 ∧ SlAt W rv xs ∧ (∀ x ∈ xs, 0 ≤ x ∧ x < 256) ∧ xs.length ≤ maxLen := by
  simp only [Value.okWide, Try.underlying41] at hval
  obtain ⟨cs, rfl, h2, _⟩ := hval
  rw [cells41] at h2
  obtain ⟨fuel, hf⟩ := h0
  cases fuel with
  | zero => simp [DataW.trod] at hf
  | succ m =>
    rw [DataW.trod_step] at hf
    unfold DataW.trodStep at hf
    simp only [Try.underlying41, Value.cells] at hf
    rw [if_pos (by rw [cells41]; simpa using h2)] at hf
    simp only [Option.map_eq_some_iff] at hf
    obtain ⟨ys, hy, _⟩ := hf
    obtain ⟨y0, e0⟩ := mapM_each hy _ (List.mem_cons_self ..)
    obtain ⟨y1, e1⟩ := mapM_each hy _ (List.mem_cons_of_mem _ (List.mem_cons_self ..))
    obtain ⟨y2, e2⟩ := mapM_each hy _ (List.mem_cons_of_mem _ (List.mem_cons_of_mem _ (List.mem_cons_self ..)))
    dsimp only at e0 e1 e2
    rw [cells24] at e0
    rw [cells28] at e1
    rw [cells29] at e2
    obtain ⟨v0, v1, v2, v3, v4, v5, v6, v7, v8, v9, hv⟩ := list10 (l := cs.toList) (by simpa using h2)
    rw [hv] at e0 e1 e2
    have hA := arr_cells Try.underlying24 Try.underlying23 cells23 e0
    obtain ⟨a0, ha0, _⟩ := hA 0 (by omega)
    obtain ⟨a1, ha1, _⟩ := hA 1 (by omega)
    obtain ⟨a2, ha2, _⟩ := hA 2 (by omega)
    obtain ⟨a3, ha3, _⟩ := hA 3 (by omega)
    obtain ⟨a4, ha4, _⟩ := hA 4 (by omega)
    obtain ⟨a5, ha5, _⟩ := hA 5 (by omega)
    obtain ⟨a6, ha6, _⟩ := hA 6 (by omega)
    obtain ⟨a7, ha7, _⟩ := hA 7 (by omega)
    obtain ⟨xs, hx, hb, hm⟩ := bytes_cell (c := v8) (by simpa using e1)
    obtain ⟨n, en, _, wn⟩ := DataW.trod_int Try.underlying29 e2
    obtain ⟨n', rfl, _⟩ := nat_of' wn
    simp at ha0 ha1 ha2 ha3 ha4 ha5 ha6 ha7 en
    subst ha0 ha1 ha2 ha3 ha4 ha5 ha6 ha7 en
    refine ⟨[a0, a1, a2, a3, a4, a5, a6, a7], v8, xs, n', ?_, rfl, hx, hb, hm⟩
    unfold shaV
    congr 1
    apply Array.ext'
    rw [hv]
    rfl
end Go.Proofs.Yteocienbfhgmjaa
