/- Numbers' bytes: how many, and that none is a beginning of another one's; fields of a literal. -/
import Derived.Test.YtdlhengfhmkpdaaDoorCdFldS
namespace Go.Proofs.YtdlhengfhmkpdaaDoor
open Go.RowKit

theorem pow128 (n : Nat) : 128 ^ (n + 2) = 128 ^ (n + 1) * 128 := Nat.pow_succ ..

theorem uintF_prefix : ∀ (n m x y : Nat) (r s : List Int), x < 128 ^ (n + 1) → y < 128 ^ (m + 1) → uintF n x ++ r = uintF m y ++ s → x = y ∧ r = s
  | 0, m, x, y, r, s, hx, hy, h => by
    have hx' : x < 128 := by simpa using hx
    rw [uintF_end _ _ hx'] at h
    by_cases hy' : y < 128
    · rw [uintF_end _ _ hy'] at h
      simp at h
      exact ⟨by omega, h.2⟩
    · cases m with
      | zero => simp at hy; omega
      | succ m =>
        rw [uintF, if_neg hy'] at h
        simp at h
        omega
  | n + 1, m, x, y, r, s, hx, hy, h => by
    by_cases hx' : x < 128
    · rw [uintF_end _ _ hx'] at h
      by_cases hy' : y < 128
      · rw [uintF_end _ _ hy'] at h
        simp at h
        exact ⟨by omega, h.2⟩
      · cases m with
        | zero => simp at hy; omega
        | succ m =>
          rw [uintF, if_neg hy'] at h
          simp at h
          omega
    · rw [uintF, if_neg hx'] at h
      by_cases hy' : y < 128
      · rw [uintF_end _ _ hy'] at h
        simp at h
        omega
      · cases m with
        | zero => simp at hy; omega
        | succ m =>
          rw [uintF, if_neg hy', List.cons_append, List.cons_append] at h
          injection h with h1 h2
          rw [pow128] at hx hy
          obtain ⟨e1, e2⟩ := uintF_prefix n m (x / 128) (y / 128) r s (by omega) (by omega) h2
          exact ⟨by omega, e2⟩

theorem p10 : 18446744073709551616 ≤ 128 ^ (9 + 1) := by decide
theorem uintS_prefix (x y : Nat) (hx : x < 18446744073709551616) (hy : y < 18446744073709551616) (r s : List Int) (h : uintS x ++ r = uintS y ++ s) : x = y ∧ r = s :=
  uintF_prefix 9 9 x y r s (Nat.lt_of_lt_of_le hx p10) (Nat.lt_of_lt_of_le hy p10) h

theorem uintF_mono : ∀ (n x y : Nat), x ≤ y → (uintF n x).length ≤ (uintF n y).length
  | 0, x, y, _ => by simp [uintF]
  | n + 1, x, y, h => by
    by_cases hx : x < 128
    · rw [uintF_end _ _ hx]
      rw [uintF]
      split <;> simp
    · rw [uintF, if_neg hx, uintF, if_neg (by omega)]
      have := uintF_mono n (x / 128) (y / 128) (by omega)
      simpa using this
theorem uintS_mono (x y : Nat) (h : x ≤ y) : (uintS x).length ≤ (uintS y).length := uintF_mono 9 x y h
theorem uintF_pos (n x : Nat) : 0 < (uintF n x).length := by
  cases n with
  | zero => simp [uintF]
  | succ n => rw [uintF]; split <;> simp
theorem uintS_one (x : Nat) : (uintS x).length = 1 ↔ x < 128 := by
  unfold uintS
  rw [uintF]
  split
  · simp_all
  · have := uintF_pos 8 (x / 128)
    simp only [List.length_cons]
    omega

theorem uintF_range : ∀ (n x : Nat), x < 128 ^ (n + 1) → ∀ b ∈ uintF n x, 0 ≤ b ∧ b < 256
  | 0, x, hx, b, hb => by
    simp [uintF] at hb
    simp at hx
    omega
  | n + 1, x, hx, b, hb => by
    rw [uintF] at hb
    split at hb
    · simp at hb; omega
    · rw [pow128] at hx
      rcases List.mem_cons.1 hb with rfl | hb
      · omega
      · exact uintF_range n (x / 128) (by omega) b hb
theorem uintS_range (x : Nat) (hx : x < 18446744073709551616) : ∀ b ∈ uintS x, 0 ≤ b ∧ b < 256 := uintF_range 9 x (Nat.lt_of_lt_of_le hx p10)

theorem strOfNums_inj (a b : List Int) (ha : ∀ x ∈ a, 0 ≤ x ∧ x < 256) (hb : ∀ x ∈ b, 0 ≤ x ∧ x < 256) (h : strOfNums a = strOfNums b) : a = b := by
  rw [← bytesOf_str a ha, ← bytesOf_str b hb, h]

theorem uintS_take (x y : Nat) (hx : x < 18446744073709551616) (hy : y < 18446744073709551616) (h : (uintS y).take (uintS x).length = uintS x) : x = y := by
  have : uintS x ++ (uintS y).drop (uintS x).length = uintS y ++ [] := by
    conv => lhs; lhs; rw [← h]
    rw [List.take_append_drop, List.append_nil]
  exact (uintS_prefix x y hx hy _ _ this).1

/-- A field of a literal, and two. -/
theorem fat_one (W : World) (f : Fld) : FAt (W.alloc (.cells f.cells.toArray 33)) (.slice (some ⟨W.heap.size, 0, none⟩) 1 1) [f] := by
  refine ⟨_, _, rfl, (fun h => by cases h), fun ad had i hi => ?_⟩
  cases had
  simp at hi
  subst hi
  refine ⟨rfl, by simp, fun j hj => ?_⟩
  rw [addr_plain', Nat.zero_add, Nat.zero_mul, Nat.zero_add, cell_of_row _ _ _ _ _ _ (heap_alloc_new _ _)]
  simp
theorem fat_two (W : World) (f g : Fld) : FAt (W.alloc (.cells (f.cells ++ g.cells).toArray 33)) (.slice (some ⟨W.heap.size, 0, none⟩) 2 2) [f, g] := by
  refine ⟨_, _, rfl, (fun h => by cases h), fun ad had i hi => ?_⟩
  cases had
  simp at hi
  refine ⟨rfl, by simp, fun j hj => ?_⟩
  rw [addr_plain', Nat.zero_add, cell_of_row _ _ _ _ _ _ (heap_alloc_new _ _)]
  have h5 : f.cells.length = 5 := rfl
  have : i = 0 ∨ i = 1 := by omega
  rcases this with rfl | rfl
  · simp [List.getElem?_append_left (show 0 * 5 + j < f.cells.length by omega), List.getElem?_append_left (show j < f.cells.length by omega)]
  · simp [List.getElem?_append_right (show f.cells.length ≤ 5 + j by omega), h5]
end Go.Proofs.YtdlhengfhmkpdaaDoor
