/- Plain mathematics of bytes taken block by block: no program is named here. -/
import Derived.Test.YteocienbfhgmjaaPlain
import Derived.Test.YteocienbfhgmjaaPrimeP
import Derived.Test.YteocienbfhgmjaaParts
namespace Go.Proofs.Yteocienbfhgmjaa
open Go.RowKit

/-- The state behind the first m blocks of the bytes X. -/
def stAt (sv X : List Int) : Nat → List Int
  | 0 => sv
  | m + 1 => takeS (stAt sv X m) keysS ((X.drop (64 * m)).take 64)
theorem length_stAt (sv X : List Int) (h : sv.length = 8) : ∀ m, (stAt sv X m).length = 8
  | 0 => h
  | m + 1 => by rw [stAt, length_takeS, length_stAt sv X h m]

/-- Numbers put over others from a place on. -/
def put (l : List Int) (off : Nat) (c : List Int) : List Int := l.take off ++ c ++ l.drop (off + c.length)
theorem length_put (l : List Int) (off : Nat) (c : List Int) (h : off + c.length ≤ l.length) : (put l off c).length = l.length := by
  simp [put]; omega
theorem take_put (l : List Int) (off : Nat) (c : List Int) (h : off + c.length ≤ l.length) : (put l off c).take (off + c.length) = l.take off ++ c := by
  rw [put, List.take_append_of_le_length (by simp; omega), List.take_of_length_le (by simp; omega)]

/-- What a buffer of 64 bytes holds behind y bytes of X. -/
def Buf (X : List Int) (y : Nat) (bl : List Int) : Prop := bl.length = 64 ∧ bl.take (y % 64) = (X.take y).drop (64 * (y / 64))

theorem buf_step (X : List Int) (y c : Nat) (bl : List Int) (h : Buf X y bl) (hc : y % 64 + c ≤ 64) (hX : y + c ≤ X.length) :
    (put bl (y % 64) ((X.drop y).take c)).length = 64 ∧ (put bl (y % 64) ((X.drop y).take c)).take (y % 64 + c) = (X.take (y + c)).drop (64 * (y / 64)) := by
  have hl : ((X.drop y).take c).length = c := by simp; omega
  have hf : y % 64 + ((X.drop y).take c).length ≤ bl.length := by rw [hl, h.1]; exact hc
  refine ⟨by rw [length_put _ _ _ hf, h.1], ?_⟩
  have ht := take_put bl (y % 64) _ hf
  rw [hl] at ht
  rw [ht, h.2, List.take_add, List.drop_append_of_le_length (by simp; omega)]

theorem buf_more (X : List Int) (y c : Nat) (bl : List Int) (h : Buf X y bl) (hc : y % 64 + c < 64) (hX : y + c ≤ X.length) : Buf X (y + c) (put bl (y % 64) ((X.drop y).take c)) := by
  obtain ⟨h1, h2⟩ := buf_step X y c bl h (by omega) hX
  refine ⟨h1, ?_⟩
  rw [show (y + c) % 64 = y % 64 + c from by omega, show (y + c) / 64 = y / 64 from by omega]
  exact h2

theorem buf_full (X : List Int) (y c : Nat) (bl : List Int) (h : Buf X y bl) (hc : y % 64 + c = 64) (hX : y + c ≤ X.length) :
    put bl (y % 64) ((X.drop y).take c) = (X.drop (64 * (y / 64))).take 64 ∧ Buf X (y + c) (put bl (y % 64) ((X.drop y).take c)) ∧ (y + c) / 64 = y / 64 + 1 := by
  obtain ⟨h1, h2⟩ := buf_step X y c bl h (by omega) hX
  have e : (y + c) / 64 = y / 64 + 1 := by omega
  refine ⟨?_, ⟨h1, ?_⟩, e⟩
  · rw [hc, List.take_of_length_le (by omega)] at h2
    rw [h2, List.drop_take, show y + c - 64 * (y / 64) = 64 from by omega]
  · rw [show (y + c) % 64 = 0 from by omega, e, List.take_zero]
    symm
    rw [List.drop_eq_nil_iff]
    simp; omega

theorem buf_zero (X bl : List Int) (h : bl.length = 64) : Buf X 0 bl := ⟨h, by simp⟩

/-- The bytes of the k-th part from r on are those of the whole. -/
theorem part_bytes (ps : List (List Int)) (k r c : Nat) (h : k < ps.length) (hr : r + c ≤ (part ps k).length) : ((part ps k).drop r).take c = (ps.flatten.drop ((cat ps k).length + r)).take c := by
  have e : ps.flatten = cat ps k ++ (part ps k ++ (ps.drop (k + 1)).flatten) := by
    rw [← List.append_assoc, ← cat_succ ps k h, cat, ← List.flatten_append, List.take_append_drop]
  rw [e, ← List.drop_drop, List.drop_left, List.drop_append_of_le_length (by omega), List.take_append_of_le_length (by simp; omega)]
end Go.Proofs.Yteocienbfhgmjaa
