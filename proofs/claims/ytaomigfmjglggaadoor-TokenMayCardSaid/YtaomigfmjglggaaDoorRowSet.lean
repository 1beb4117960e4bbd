/- A byte stored into a row of the call's own. -/
import Derived.Test.YtaomigfmjglggaaDoorBase
namespace Go.Proofs.YtaomigfmjglggaaDoor
open Go.RowKit

/-- A byte stored into a row of the call's own. -/
theorem Row.set {W : World} {B g n c : Nat} {xs : List Int} (h : Row W B (.slice (some ⟨g, 0, none⟩) n c) xs) (i : Nat) (_ : i < n) (z : Int) : Row (W.setCell ⟨g, i, none⟩ (.int .u8 z)) B (.slice (some ⟨g, 0, none⟩) n c) (xs.set i z) ∧ W.frozen? ⟨g, i, none⟩ = false := by
  obtain ⟨h1, h2 | ⟨g', cap, cur, e1, e2, e3, e4, e5, e6, e7⟩⟩ := h
  · cases h2.1
  · injection e1 with a1 a2 a3
    injection a1 with a1
    injection a1 with a1 _ _
    subst a1 a3
    have hn : xs.length = n := a2.symm
    refine ⟨⟨by simp, .inr ⟨g, c, cur.setIfInBounds i (.int .u8 z), by rw [List.length_set, hn], e2, heap_setCell_same W g i cur _ _ e3, by rw [List.length_set]; exact e4, e5, by simpa using e6, ?_⟩⟩, frozen_of_row W g i _ _ e3⟩
    rw [Array.toList_setIfInBounds, List.length_set, List.take_set, e7, List.map_set]

theorem Row.own {W : World} {B : Nat} {v : Value} {xs : List Int} (h : Row W B v xs) : v = .slice none 0 0 ∧ xs = [] ∨ ∃ g c, v = .slice (some ⟨g, 0, none⟩) xs.length c := by
  obtain ⟨h1, h2 | ⟨g', cap, cur, e1, _⟩⟩ := h
  · exact .inl ⟨h2.1, List.length_eq_zero_iff.1 h2.2⟩
  · exact .inr ⟨g', cap, e1⟩
end Go.Proofs.YtaomigfmjglggaaDoor
