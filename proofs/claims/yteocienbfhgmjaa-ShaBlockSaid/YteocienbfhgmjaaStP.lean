/- Plain mathematics of bytes taken in parts: no program is named here. -/
import Derived.Test.YteocienbfhgmjaaBlkP
namespace Go.Proofs.Yteocienbfhgmjaa
open Go.RowKit

theorem stAt_add (sv X : List Int) (m : Nat) : ∀ j, stAt sv X (m + j) = stAt (stAt sv X m) (X.drop (64 * m)) j
  | 0 => rfl
  | j + 1 => by
    rw [← Nat.add_assoc, stAt, stAt_add sv X m j, stAt, List.drop_drop, show 64 * m + 64 * j = 64 * (m + j) from by omega]

theorem stAt_left (sv A B : List Int) : ∀ m, 64 * m ≤ A.length → stAt sv (A ++ B) m = stAt sv A m
  | 0, _ => rfl
  | m + 1, h => by
    rw [stAt, stAt, stAt_left sv A B m (by omega), List.drop_append_of_le_length (by omega), List.take_append_of_le_length (by simp; omega)]

/-- What is left of bytes behind their whole blocks. -/
def leftS (A : List Int) : List Int := A.drop (64 * (A.length / 64))
theorem length_leftS (A : List Int) : (leftS A).length = A.length % 64 := by simp [leftS]; omega

/-- Bytes behind bytes: the state, and what is left, go on from the state and what was left. -/
theorem stAt_more (sv A B : List Int) : stAt sv (A ++ B) ((A ++ B).length / 64) = stAt (stAt sv A (A.length / 64)) (leftS A ++ B) ((leftS A ++ B).length / 64) := by
  have hl : (leftS A ++ B).length = A.length % 64 + B.length := by rw [List.length_append, length_leftS]
  have hk : (A ++ B).length / 64 = A.length / 64 + (leftS A ++ B).length / 64 := by rw [hl, List.length_append]; omega
  rw [hk, stAt_add, stAt_left sv A B _ (by omega), List.drop_append_of_le_length (by omega)]
  rfl

theorem leftS_more (A B : List Int) : leftS (A ++ B) = leftS (leftS A ++ B) := by
  have hl : (leftS A ++ B).length = A.length % 64 + B.length := by rw [List.length_append, length_leftS]
  have hk : 64 * ((A ++ B).length / 64) = 64 * (A.length / 64) + 64 * ((leftS A ++ B).length / 64) := by rw [hl, List.length_append]; omega
  rw [leftS, hk, ← List.drop_drop, List.drop_append_of_le_length (by omega)]
  rfl

theorem leftS_drop (A : List Int) : A.drop (64 * (A.length / 64)) = leftS A := rfl
end Go.Proofs.Yteocienbfhgmjaa
