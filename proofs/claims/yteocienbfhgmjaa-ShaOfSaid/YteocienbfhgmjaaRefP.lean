/- Plain mathematics of the document's words of a block: no program is named here. -/
import Derived.Test.YteocienbfhgmjaaPlain
import Derived.Laws.BitsLemmas
import Derived.Lib.EndianBits
namespace Go.Proofs.Yteocienbfhgmjaa
open Go.RowKit

/-- Four bytes as a word, as the document's answer puts them together. -/
def word4 (b0 b1 b2 b3 : Int) : Int :=
  bits BinOp.or .u32 (bits BinOp.or .u32 (bits BinOp.or .u32 (b0 % 4294967296 * 16777216 % 4294967296) (b1 % 4294967296 * 65536 % 4294967296)) (b2 % 4294967296 * 256 % 4294967296)) (b3 % 4294967296)
/-- The first k words of a block. -/
def refW (bs : List Int) : Nat → List Int
  | 0 => zeros64
  | k + 1 => (refW bs k).set k (word4 (nth bs (4 * k)) (nth bs (4 * k + 1)) (nth bs (4 * k + 2)) (nth bs (4 * k + 3)))
theorem length_refW (bs : List Int) : ∀ k, (refW bs k).length = 64
  | 0 => rfl
  | k + 1 => by rw [refW, List.length_set, length_refW bs k]

theorem or_sum (i : Nat) (x y : Int) (hx0 : 0 ≤ x) (hx : x % 2 ^ i = 0) (hx1 : x < 4294967296) (hy0 : 0 ≤ y) (hy : y < 2 ^ i) (hy1 : y < 4294967296) : bits BinOp.or .u32 x y = x + y :=
  bits_join .u32 32 (by decide) wraps_u32 i x y hx0 hx hx1 hy0 hy hy1

theorem word4_sum (b0 b1 b2 b3 : Int) (h0 : 0 ≤ b0 ∧ b0 < 256) (h1 : 0 ≤ b1 ∧ b1 < 256) (h2 : 0 ≤ b2 ∧ b2 < 256) (h3 : 0 ≤ b3 ∧ b3 < 256) : word4 b0 b1 b2 b3 = b0 * 16777216 + b1 * 65536 + b2 * 256 + b3 := by
  unfold word4
  rw [show b0 % 4294967296 * 16777216 % 4294967296 = b0 * 16777216 by omega, show b1 % 4294967296 * 65536 % 4294967296 = b1 * 65536 by omega, show b2 % 4294967296 * 256 % 4294967296 = b2 * 256 by omega, show b3 % 4294967296 = b3 by omega,
    or_sum 24 (b0 * 16777216) (b1 * 65536) (by omega) (by omega) (by omega) (by omega) (by omega) (by omega), or_sum 16 (b0 * 16777216 + b1 * 65536) (b2 * 256) (by omega) (by omega) (by omega) (by omega) (by omega) (by omega),
    or_sum 8 (b0 * 16777216 + b1 * 65536 + b2 * 256) b3 (by omega) (by omega) (by omega) (by omega) (by omega) (by omega)]

theorem packStep_sum (old b : Int) (h0 : 0 ≤ old) (h1 : old < 16777216) (h2 : 0 ≤ b ∧ b < 256) : packStep old b = old * 256 + b := by
  unfold packStep
  rw [show old * 256 % 4294967296 = old * 256 by omega, show b % 4294967296 = b by omega, or_sum 8 _ _ (by omega) (by omega) (by omega) (by omega) (by omega) (by omega)]

theorem nth_set_self (l : List Int) (i : Nat) (v : Int) (h : i < l.length) : nth (l.set i v) i = v := by simp [nth, List.getD, h]
theorem nth_set_ne (l : List Int) (i j : Nat) (v : Int) (h : i ≠ j) : nth (l.set i v) j = nth l j := by simp [nth, List.getD, List.getElem?_set_ne h]

theorem nth_zeros (n j : Nat) : nth (List.replicate n 0) j = 0 := by
  unfold nth
  rw [List.getD, List.getElem?_replicate]
  split <;> rfl

theorem packW_refW (bs : List Int) (hb : ∀ i, 0 ≤ nth bs i ∧ nth bs i < 256) : ∀ k, k ≤ 16 → packW bs (4 * k) = refW bs k ∧ ∀ j, k ≤ j → nth (refW bs k) j = 0
  | 0, _ => ⟨rfl, fun j _ => nth_zeros 64 j⟩
  | k + 1, hk => by
    obtain ⟨h1, h2⟩ := packW_refW bs hb k (by omega)
    have hl := length_refW bs k
    have b0 := hb (4 * k)
    have b1 := hb (4 * k + 1)
    have b2 := hb (4 * k + 2)
    have b3 := hb (4 * k + 3)
    refine ⟨?_, fun j hj => ?_⟩
    · rw [show 4 * (k + 1) = 4 * k + 1 + 1 + 1 + 1 by omega, packW, packW, packW, packW, h1, show (4 * k + 1 + 1 + 1) / 4 = k by omega, show (4 * k + 1 + 1) / 4 = k by omega, show (4 * k + 1) / 4 = k by omega, show 4 * k / 4 = k by omega,
        h2 k (Nat.le_refl _), nth_set_self _ _ _ (by first | omega | (simp only [List.length_set]; omega)), packStep_sum _ _ (by omega) (by omega) b0, List.set_set, nth_set_self _ _ _ (by first | omega | (simp only [List.length_set]; omega)), packStep_sum _ _ (by omega) (by omega) b1, List.set_set, nth_set_self _ _ _ (by first | omega | (simp only [List.length_set]; omega)),
        packStep_sum _ _ (by omega) (by omega) b2, List.set_set, packStep_sum _ _ (by omega) (by omega) b3, refW, word4_sum _ _ _ _ b0 b1 b2 b3]
      congr 1
      rw [show 4 * k + 1 + 1 = 4 * k + 2 from rfl, show 4 * k + 2 + 1 = 4 * k + 3 from rfl]
      omega
    · rw [refW, nth_set_ne _ _ _ _ (by omega)]
      exact h2 j (by omega)

theorem sched_ref (bs : List Int) (hb : ∀ i, 0 ≤ nth bs i ∧ nth bs i < 256) : refW bs 16 = packW bs 64 := (packW_refW bs hb 16 (Nat.le_refl _)).1.symm

theorem nth_bytes {xs : List Int} (h : ∀ x ∈ xs, 0 ≤ x ∧ x < 256) (i : Nat) : 0 ≤ nth xs i ∧ nth xs i < 256 := by
  unfold nth
  rcases Nat.lt_or_ge i xs.length with hi | hi
  · have := h xs[i] (List.getElem_mem hi)
    simp [List.getD, hi]
    exact this
  · simp [List.getD, hi]

theorem addUp8 (x0 x1 x2 x3 x4 x5 x6 x7 y0 y1 y2 y3 y4 y5 y6 y7 : Int) : addUp [x0, x1, x2, x3, x4, x5, x6, x7] [y0, y1, y2, y3, y4, y5, y6, y7] 8 =
    [(x0 + y0) % 4294967296, (x1 + y1) % 4294967296, (x2 + y2) % 4294967296, (x3 + y3) % 4294967296, (x4 + y4) % 4294967296, (x5 + y5) % 4294967296, (x6 + y6) % 4294967296, (x7 + y7) % 4294967296] := rfl
end Go.Proofs.Yteocienbfhgmjaa
