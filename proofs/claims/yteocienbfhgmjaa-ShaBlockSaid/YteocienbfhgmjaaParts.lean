/- Rows of byte slices in memory, over any program; what they come to, one behind the other. -/
import Derived.Test.YteocienbfhgmjaaArr
import Derived.Test.YteocienbfhgmjaaMem
import Derived.WalkKit
namespace Go.Proofs.Yteocienbfhgmjaa
open Go.RowKit

/-- The slice value v reads as the bytes xs. -/
def SlAt (w : World) (v : Value) (xs : List Int) : Prop := ∃ (ao : Option Addr) (cap : Nat), v = .slice ao xs.length cap ∧ (ao = none → xs = [] ∧ cap = 0) ∧ xs.length ≤ cap ∧
  ∀ ad, ao = some ad → ∀ i, i < xs.length → ad.spot = none ∧ ad.block < w.heap.size ∧ w.cell? (ad.add i) = some (.int .u8 (nth xs i))

theorem SlAt.below {w w' : World} {v : Value} {xs : List Int} (h : SlAt w v xs) (hb : Below w.heap.size w w') : SlAt w' v xs := by
  obtain ⟨ao, cap, hv, hn, hc, ha⟩ := h
  refine ⟨ao, cap, hv, hn, hc, fun ad had i hi => ?_⟩
  obtain ⟨h0, h1, h2⟩ := ha ad had i hi
  refine ⟨h0, Nat.lt_of_lt_of_le h1 hb.size, (hb.cell (p := ad.add i) ?_).trans h2⟩
  unfold Addr.add
  split <;> exact h1

/-- The k-th of some lists of bytes. -/
def part (ps : List (List Int)) (k : Nat) : List Int := ps.getD k []
/-- The first k of them, one behind the other. -/
def cat (ps : List (List Int)) (k : Nat) : List Int := (ps.take k).flatten
theorem cat_zero (ps : List (List Int)) : cat ps 0 = [] := rfl
theorem cat_succ (ps : List (List Int)) (k : Nat) (h : k < ps.length) : cat ps (k + 1) = cat ps k ++ part ps k := by
  rw [cat, List.take_succ_eq_append_getElem h, List.flatten_append]
  simp [cat, part, List.getD, h]
theorem cat_all (ps : List (List Int)) : cat ps ps.length = ps.flatten := by rw [cat, List.take_length]
theorem cat_le (ps : List (List Int)) (k : Nat) : (cat ps k).length ≤ ps.flatten.length := by
  have h : ps.flatten = cat ps k ++ (ps.drop k).flatten := by rw [cat, ← List.flatten_append, List.take_append_drop]
  rw [h, List.length_append]; omega
theorem part_le (ps : List (List Int)) (k : Nat) (h : k < ps.length) : (cat ps k).length + (part ps k).length ≤ ps.flatten.length := by
  have h1 := cat_le ps (k + 1)
  rw [cat_succ ps k h, List.length_append] at h1
  exact h1

/-- The slices of block b from place o on read as these lists. -/
def PartsAt (w : World) (b o : Nat) (ps : List (List Int)) : Prop := b < w.heap.size ∧ ∀ i, i < ps.length → ∃ sv, w.cell? ⟨b, o + i, none⟩ = some sv ∧ SlAt w sv (part ps i)

theorem PartsAt.below {w w' : World} {b o : Nat} {ps : List (List Int)} (h : PartsAt w b o ps) (hb : Below w.heap.size w w') : PartsAt w' b o ps :=
  ⟨Nat.lt_of_lt_of_le h.1 hb.size, fun i hi => by
    obtain ⟨sv, h1, h2⟩ := h.2 i hi
    exact ⟨sv, (hb.cell (p := ⟨b, o + i, none⟩) h.1).trans h1, h2.below hb⟩⟩

theorem slAt_news {w : World} {ao : Option Addr} {xs : List Int} (ha : ∀ ad, ao = some ad → ∀ i, i < xs.length → ad.spot = none ∧ ad.block < w.heap.size ∧ w.cell? (ad.add i) = some (.int .u8 (nth xs i))) :
    ∀ ad, ao = some ad → ∀ j u, (xs.map (Value.int .u8))[j]? = some u → w.cell? (ad.add j) = some u := by
  intro ad had j u hu
  have hj : j < xs.length := by
    rcases Nat.lt_or_ge j xs.length with h | h
    · exact h
    · simp [h] at hu
  rw [(ha ad had j hj).2.2]
  simp [hj] at hu
  simp [nth, hj, List.getD, hu]
end Go.Proofs.Yteocienbfhgmjaa
