/- What is left of fields' bytes that are cut. -/
import Derived.Test.YtdlhengfhmkpdaaDoorCdFldS
import Derived.Test.YtdlhengfhmkpdaaDoorCdCuts
import Derived.Test.YtdlhengfhmkpdaaDoorCdAwake
namespace Go.Proofs.YtdlhengfhmkpdaaDoor
open Go.RowKit

/-- A fact that no tactic looks into. -/
structure Tuck (p : Prop) : Prop where
  out : p
theorem tuck {p : Prop} (h : p) : Tuck p := ⟨h⟩

theorem fieldS_range (f : Fld) (hf : f.ok) : ∀ x ∈ fieldS f, 0 ≤ x ∧ x < 256 := by
  intro x hx
  unfold fieldS at hx
  split at hx
  · simp at hx; omega
  · split at hx
    · simp [u32S, u32T] at hx
      obtain ⟨j, _, rfl⟩ := hx
      omega
    · split at hx
      · exact uintS_range _ hf.1 x hx
      · split at hx
        · exact textS_range _ hf.2.1 x hx
        · exact bytesOf_range _ x hx
theorem fieldsS_range (l : List Fld) (h : ∀ f ∈ l, f.ok) : ∀ x ∈ fieldsS l, 0 ≤ x ∧ x < 256 := by
  intro x hx
  rw [fieldsS, List.mem_flatten] at hx
  obtain ⟨y, hy, hxy⟩ := hx
  obtain ⟨f, hf, rfl⟩ := List.mem_map.1 hy
  exact fieldS_range f (h f hf) x hxy

/-- How many bytes the first k fields have. -/
def upTo (l : List Fld) (k : Nat) : Nat := (fieldsS (l.take k)).length
theorem upTo_succ (l : List Fld) (k : Nat) (h : k < l.length) : upTo l (k + 1) = upTo l k + (fieldS (l.getD k default)).length := by
  rw [upTo, fieldsS_succ l k h, List.length_append]; rfl
theorem fields_at (l : List Fld) (k : Nat) (h : k < l.length) : ∃ r, fieldsS l = fieldsS (l.take k) ++ (fieldS (l.getD k default) ++ r) := by
  refine ⟨fieldsS (l.drop (k + 1)), ?_⟩
  have e : l = l.take k ++ l.getD k default :: l.drop (k + 1) := by
    conv => lhs; rw [← List.take_append_drop k l, List.drop_eq_getElem_cons h]
    simp [List.getD, h]
  conv => lhs; rw [e]
  simp only [fieldsS, List.map_append, List.flatten_append, List.map_cons, List.flatten_cons]

/-- What is left of the first K bytes, behind k fields. -/
theorem cut_short (l : List Fld) (k K : Nat) (h : k < l.length) (h1 : upTo l k ≤ K) (h2 : K < upTo l (k + 1)) : ((fieldsS l).take K).drop (upTo l k) = (fieldS (l.getD k default)).take (K - upTo l k) := by
  obtain ⟨r, hr⟩ := fields_at l k h
  rw [upTo_succ l k h] at h2
  rw [hr, List.drop_take, upTo, List.drop_left' rfl, List.take_append_of_le_length]
  unfold upTo at *
  omega
theorem cut_whole (l : List Fld) (k K : Nat) (h : k < l.length) (h1 : upTo l (k + 1) ≤ K) : ((fieldsS l).take K).drop (upTo l k) = fieldS (l.getD k default) ++ ((fieldsS l).take K).drop (upTo l (k + 1)) := by
  obtain ⟨r, hr⟩ := fields_at l k h
  rw [upTo_succ l k h] at h1 ⊢
  rw [← List.drop_drop, hr, List.drop_take, upTo, List.drop_left' rfl, List.take_append]
  unfold upTo at *
  rw [List.take_of_length_le (by omega), List.drop_left' rfl]

theorem clampK (c : Int) (n : Nat) : ∃ K : Nat, K ≤ n ∧ ∃ a : Int, (a = if 0 < c then c else 0) ∧ ((if a < (n : Int) then a else (n : Int)) = (K : Int)) := by
  refine ⟨(if (if 0 < c then c else 0) < (n : Int) then (if 0 < c then c else 0) else (n : Int)).toNat, ?_, _, rfl, ?_⟩ <;> (repeat' split) <;> omega

end Go.Proofs.YtdlhengfhmkpdaaDoor
