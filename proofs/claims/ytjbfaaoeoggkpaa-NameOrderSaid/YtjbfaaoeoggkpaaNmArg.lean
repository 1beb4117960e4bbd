/- What a law's arguments are: a name; a slice of names; what a row names of the library's own variable. -/
import Derived.Test.YtjbfaaoeoggkpaaNmPar
import Derived.Test.YtjbfaaoeoggkpaaGArg
import Derived.Test.YtjbfaaoeoggkpaaFrame
import Derived.Shelf.Vars
import Derived.HandedShaped
import Derived.ChangeMaps5
namespace Go.Proofs.Ytjbfaaoeoggkpaa
open Go.ChangeShapes Go.WideShapes Go.ChangeAt Go.RowKit

/-- Names as things of rows. -/
def KN : Kd Nm where
  t := 23
  s := 2
  dft := default
  cells := fun n => [.string n.ns, .string n.sa]
  len := fun _ => rfl
  pos := by decide
  one := by intro a v hv; simp at hv; rcases hv with rfl | rfl <;> rfl
def Nm.ok (n : Nm) : Prop := n.ns.size ≤ maxLen ∧ n.sa.size ≤ maxLen
set_option maxRecDepth 100000 in
theorem name_of_trod {H : Type} {enc : TypeId × Value → H} {W : World} {base : Nat} {sp : Nat → Bool} {held : Bool} {n : Nat} {cs : List Value} {x : DataW H × List MemPlace} (h : DataW.trod enc Try.prog W base sp held n 23 cs = some x) : ∃ c : Nm, c.ok ∧ cs = KN.cells c := by
  have hu := Try.underlying23
  obtain ⟨xs, k, _, _, hlen, hxl, hf⟩ := DataW.trod_struct hu h
  rw [show Try.prog.cellsOf 23 = 2 by kernel_rfl] at hlen
  match cs, hlen with
  | [c0, c1], _ =>
    match xs, hxl with
    | [y0, y1], _ =>
      have g0 := hf 0 _ rfl
      have g1 := hf 1 _ rfl
      simp only [List.getElem?_cons_zero, List.getElem?_cons_succ] at g0 g1
      obtain ⟨a0, e0, _, w0⟩ := DataW.trod_string Try.underlying9 g0
      obtain ⟨a1, e1, _, w1⟩ := DataW.trod_string Try.underlying9 g1
      injection e0 with e0
      injection e1 with e1
      subst e0 e1
      exact ⟨⟨a0, a1⟩, ⟨w0, w1⟩, rfl⟩
set_option maxRecDepth 100000 in
theorem arg_name {H : Type} {enc : TypeId × Value → H} {W : World} {r : Reach} {base : Nat} {v : Value} {d : DataW H} {p : List MemPlace} (hval : Value.okWide Try.prog W r base 23 v)
    (h0 : DataW.Trod enc Try.prog W 0 (fun _ => true) true 23 v d p) : ∃ c : Nm, v = .agg #[.string c.ns, .string c.sa] ∧ c.ok := by
  exact arg_g1 (K := KN) (ok := Nm.ok) Try.underlying23 (fun h => name_of_trod h) hval h0
set_option maxRecDepth 100000 in
theorem arg_names {H : Type} {enc : TypeId × Value → H} {W : World} {r : Reach} {base : Nat} {v : Value} {d : DataW H} {p : List MemPlace} (hval : Value.okWide Try.prog W r base 37 v)
    (h0 : DataW.Trod enc Try.prog W 0 (fun _ => true) true 37 v d p) : ∃ l : List Nm, GAt KN W v l ∧ (∀ c ∈ l, c.ok) ∧ l.length ≤ maxLen := by
  exact arg_g (K := KN) (ok := Nm.ok) Try.underlying37 (by kernel_rfl) (fun h => name_of_trod h) hval h0
theorem env_of_shape {W : World} (hs : W.ShapedOpen Try.prog) : Env W :=
  cell_of_shapedOpen_int (g := 0) (t := 3) (zero := #[.int .i64 0]) hs (of_decide_eq_true (by kernel_rfl)) (by kernel_rfl) rfl (by kernel_rfl) (by kernel_rfl) Try.underlying3
end Go.Proofs.Ytjbfaaoeoggkpaa
