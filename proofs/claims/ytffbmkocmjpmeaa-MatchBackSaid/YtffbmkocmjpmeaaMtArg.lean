/- What a law's arguments are: a term; a slice of terms. -/
import Derived.Test.YtffbmkocmjpmeaaMtRow
import Derived.Test.YtffbmkocmjpmeaaGArg
import Derived.Test.YtffbmkocmjpmeaaFrame
import Derived.ChangeMaps5
namespace Go.Proofs.Ytffbmkocmjpmeaa
open Go.ChangeShapes Go.WideShapes Go.ChangeAt Go.RowKit

def Tm.ok (a : Tm) : Prop := a.t.size ≤ maxLen
set_option maxRecDepth 100000 in
theorem term_of_trod {H : Type} {enc : TypeId × Value → H} {W : World} {base : Nat} {sp : Nat → Bool} {held : Bool} {n : Nat} {cs : List Value} {x : DataW H × List MemPlace} (h : DataW.trod enc Try.prog W base sp held n 23 cs = some x) : ∃ c : Tm, c.ok ∧ cs = KT.cells c := by
  have hu := Try.underlying23
  obtain ⟨xs, k, _, _, hlen, hxl, hf⟩ := DataW.trod_struct hu h
  rw [show Try.prog.cellsOf 23 = 2 by kernel_rfl] at hlen
  match cs, hlen with
  | [c0, c1], _ =>
    match xs, hxl with
    | [y0, y1], _ =>
      have g0 := hf 0 _ rfl
      have g1 := hf 1 _ rfl
      simp only [List.getElem?_cons_zero, List.getElem?_cons_succ] at g0 g1
      obtain ⟨a0, e0, _, _⟩ := DataW.trod_int Try.underlying3 g0
      obtain ⟨a1, e1, _, w1⟩ := DataW.trod_string Try.underlying9 g1
      injection e0 with e0
      injection e1 with e1
      subst e0 e1
      exact ⟨⟨a0, a1⟩, w1, rfl⟩
set_option maxRecDepth 100000 in
theorem arg_term {H : Type} {enc : TypeId × Value → H} {W : World} {r : Reach} {base : Nat} {v : Value} {d : DataW H} {p : List MemPlace} (hval : Value.okWide Try.prog W r base 23 v)
    (h0 : DataW.Trod enc Try.prog W 0 (fun _ => true) true 23 v d p) : ∃ c : Tm, v = .agg #[.int .i64 c.k, .string c.t] ∧ c.ok := by
  exact arg_g1 (K := KT) (ok := Tm.ok) Try.underlying23 (fun h => term_of_trod h) hval h0
set_option maxRecDepth 100000 in
theorem arg_terms {H : Type} {enc : TypeId × Value → H} {W : World} {r : Reach} {base : Nat} {v : Value} {d : DataW H} {p : List MemPlace} (hval : Value.okWide Try.prog W r base 24 v)
    (h0 : DataW.Trod enc Try.prog W 0 (fun _ => true) true 24 v d p) : ∃ l : List Tm, GAt KT W v l ∧ (∀ c ∈ l, c.ok) ∧ l.length ≤ maxLen := by
  exact arg_g (K := KT) (ok := Tm.ok) Try.underlying24 (by kernel_rfl) (fun h => term_of_trod h) hval h0
end Go.Proofs.Ytffbmkocmjpmeaa
