/- What is read, written, is what was taken. -/
import Derived.Test.YtdlhengfhmkpdaaDoorCdCutP
namespace Go.Proofs.YtdlhengfhmkpdaaDoor
open Go.RowKit

theorem form_sum (i x c : Nat) (hi : i ≤ 8) (hc : c < 128) (h : x * 2 ^ (7 * (i + 1)) < 18446744073709551616) : c * 2 ^ (7 * i) + x * 2 ^ (7 * (i + 1)) = (c + 128 * x) * 2 ^ (7 * i) ∧ (c + 128 * x) * 2 ^ (7 * i) < 18446744073709551616 := by
  have : i = 0 ∨ i = 1 ∨ i = 2 ∨ i = 3 ∨ i = 4 ∨ i = 5 ∨ i = 6 ∨ i = 7 ∨ i = 8 := by omega
  rcases this with rfl | rfl | rfl | rfl | rfl | rfl | rfl | rfl | rfl <;> simp at * <;> omega

theorem cutL_form : ∀ (f i : Nat) (ys : List Int) (v : Nat) (rest : List Int), f + i = 10 → (∀ x ∈ ys, 0 ≤ x ∧ x < 256) → cutL f i ys = some (v, rest) →
    ∃ x, v = x * 2 ^ (7 * i) ∧ v < 18446744073709551616 ∧ (0 < i → 0 < x) ∧ uintF (f - 1) x ++ rest = ys
  | 0, _, _, _, _, _, _, h => by simp [cutL] at h
  | _ + 1, _, [], _, _, _, _, h => by simp [cutL] at h
  | f + 1, i, b :: r, v, rest, hf, hr, h => by
    have hb := hr b (List.mem_cons_self ..)
    rw [cutL] at h
    split at h
    · cases h
    · rename_i hno
      split at h
      · rename_i hlt
        injection h with h
        injection h with h1 h2
        subst h1 h2
        have e : b.toNat % 128 = b.toNat := by omega
        refine ⟨b.toNat, by rw [e], by omega, by omega, ?_⟩
        rw [uintF_end _ _ (by omega), show ((b.toNat : Nat) : Int) = b by omega]
        rfl
      · rename_i hge
        cases hc : cutL f (i + 1) r with
        | none => rw [hc] at h; cases h
        | some z =>
          rw [hc] at h
          injection h with h
          injection h with h1 h2
          obtain ⟨x, e1, e2, e3, e4⟩ := cutL_form f (i + 1) r z.1 z.2 (by omega) (fun y hy => hr y (List.mem_cons_of_mem _ hy)) (by rw [hc])
          have hf0 : f ≠ 0 := fun e => by subst e; simp [cutL] at hc
          rw [e1] at h1 e2
          obtain ⟨s1, s2⟩ := form_sum i x (b.toNat % 128) (by omega) (by omega) e2
          rw [s1] at h1
          have hx := e3 (by omega)
          refine ⟨b.toNat % 128 + 128 * x, h1.symm, by omega, by omega, ?_⟩
          rw [← h2, show f + 1 - 1 = (f - 1) + 1 by omega, uintF, if_neg (by omega), show (b.toNat % 128 + 128 * x) / 128 = x by omega, List.cons_append, e4]
          congr 1
          omega

theorem cutUS_form (ys : List Int) (v : Nat) (rest : List Int) (hr : ∀ x ∈ ys, 0 ≤ x ∧ x < 256) (h : cutUS ys = some (v, rest)) : v < 18446744073709551616 ∧ uintS v ++ rest = ys := by
  obtain ⟨x, e1, e2, _, e4⟩ := cutL_form 10 0 ys v rest rfl hr h
  have : v = x := by simpa using e1
  subst this
  exact ⟨e2, e4⟩

theorem size_str (xs : List Int) (h : ∀ x ∈ xs, 0 ≤ x ∧ x < 256) : (strOfNums xs).size = xs.length := by
  rw [← length_bytesOf, bytesOf_str xs h]

theorem cutTS_form (most : Int) (ys : List Int) (t rest : List Int) (hr : ∀ x ∈ ys, 0 ≤ x ∧ x < 256) (h : cutTS most ys = some (t, rest)) : textS (strOfNums t) ++ rest = ys ∧ t.length < ys.length := by
  rw [cutTS] at h
  cases hc : cutUS ys with
  | none => rw [hc] at h; cases h
  | some y =>
    rw [hc] at h
    dsimp only at h
    split at h
    · cases h
    · rename_i hno
      injection h with h
      injection h with h1 h2
      obtain ⟨e1, e2⟩ := cutUS_form ys y.1 y.2 hr hc
      have hl := cutL_len 10 0 ys y hc
      have hy : ∀ x ∈ y.2, 0 ≤ x ∧ x < 256 := fun x hx => hr x (by rw [← e2]; exact List.mem_append_right _ hx)
      have ht : ∀ x ∈ t, 0 ≤ x ∧ x < 256 := fun x hx => hy x (by rw [← h1] at hx; exact List.mem_of_mem_take hx)
      have htl : t.length = y.1 := by rw [← h1]; simp; omega
      refine ⟨?_, by omega⟩
      rw [textS, size_str t ht, htl, bytesOf_str t ht, List.append_assoc, ← h1, ← h2, List.take_append_drop, e2]

theorem u32S_form (ys : List Int) (hr : ∀ x ∈ ys, 0 ≤ x ∧ x < 256) (h : 4 ≤ ys.length) : u32V ys 4 < 4294967296 ∧ u32S (u32V ys 4) ++ ys.drop 4 = ys := by
  match ys, h with
  | a :: b :: c :: d :: r, _ =>
    have ha := hr a (by simp)
    have hb := hr b (by simp)
    have hc := hr c (by simp)
    have hd := hr d (by simp)
    have e : u32V (a :: b :: c :: d :: r) 4 = a.toNat + b.toNat * 256 + c.toNat * 65536 + d.toNat * 16777216 := by
      simp [u32V, nth]
    refine ⟨by rw [e]; omega, ?_⟩
    rw [e]
    simp [u32S, u32T, List.range_succ]
    omega
end Go.Proofs.YtdlhengfhmkpdaaDoor
