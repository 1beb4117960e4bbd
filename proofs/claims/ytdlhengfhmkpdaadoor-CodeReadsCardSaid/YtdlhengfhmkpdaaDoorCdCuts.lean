/- What is written is cut: a number's bytes, a text's. -/
import Derived.Test.YtdlhengfhmkpdaaDoorCdNum
namespace Go.Proofs.YtdlhengfhmkpdaaDoor
open Go.RowKit

theorem cutL_uintF : ∀ (n f i x : Nat) (r : List Int), n < f → x < 128 ^ (n + 1) → (0 < i → 0 < x) → x * 2 ^ (7 * i) < 18446744073709551616 → cutL f i (uintF n x ++ r) = some (x * 2 ^ (7 * i), r)
  | n, 0, i, x, r, hf, _, _, _ => absurd hf (Nat.not_lt_zero _)
  | n, f + 1, i, x, r, hf, hx, hi, hw => by
    by_cases hx' : x < 128
    · rw [uintF_end _ _ hx', List.singleton_append, cutL, if_neg, if_pos (by omega)]
      · have : (x : Int).toNat % 128 = x := by omega
        rw [this]
      · have : (x : Int).toNat % 128 = x := by omega
        rw [this]
        omega
    · cases n with
      | zero => simp at hx; omega
      | succ n =>
        rw [pow128] at hx
        have hp : 2 ^ (7 * (i + 1)) = 128 * 2 ^ (7 * i) := by rw [Nat.mul_add, Nat.pow_add, Nat.mul_comm]
        have hxd : x = x / 128 * 128 + x % 128 := by omega
        have hmul : x * 2 ^ (7 * i) = x / 128 * (128 * 2 ^ (7 * i)) + x % 128 * 2 ^ (7 * i) := by
          conv => lhs; rw [hxd]
          rw [Nat.add_mul, Nat.mul_assoc]
        have ih := cutL_uintF n f (i + 1) (x / 128) r (by omega) (by omega) (by omega) (by rw [hp]; omega)
        have hb : (((x % 128 + 128 : Nat) : Int)).toNat % 128 = x % 128 := by omega
        rw [uintF, if_neg hx', List.cons_append, cutL, hb, if_neg (by omega), if_neg (by omega), ih, hp]
        simp only [Option.map_some]
        congr 2
        omega

theorem cutUS_uintS (x : Nat) (r : List Int) (hx : x < 18446744073709551616) : cutUS (uintS x ++ r) = some (x, r) := by
  have := cutL_uintF 9 10 0 x r (by omega) (Nat.lt_of_lt_of_le hx p10) (by omega) (by simpa using hx)
  rw [Nat.mul_zero, Nat.pow_zero, Nat.mul_one] at this
  exact this

theorem cutTS_textS (most : Int) (s : ByteArray) (r : List Int) (hs : s.size ≤ maxLen) : cutTS most (textS s ++ r) = if most < (s.size : Int) then none else some (bytesOf s, r) := by
  have hl := length_bytesOf s
  rw [cutTS, textS, List.append_assoc, cutUS_uintS _ _ (by unfold maxLen at hs; omega)]
  dsimp only
  by_cases h : most < (s.size : Int)
  · rw [if_pos h, if_pos (by omega)]
  · rw [if_neg h, if_neg (by rw [List.length_append, hl]; omega)]
    rw [← hl, List.take_left', List.drop_left'] <;> rfl

theorem str_bytesOf (s : ByteArray) : strOfNums (bytesOf s) = s := by
  have h := bytesOf_str (bytesOf s) (bytesOf_range s)
  have e : ∀ a b : ByteArray, bytesOf a = bytesOf b → a = b := fun a b h => by
    have h1 : a.data.toList = b.data.toList := by
      have h2 := congrArg (List.map fun x : Int => UInt8.ofNat x.toNat) h
      simpa [bytesOf, List.map_map, Function.comp_def] using h2
    have h2 := Array.toList_inj.1 h1
    cases a; cases b; simp_all
  exact e _ _ h

theorem textS_range (s : ByteArray) (h : s.size ≤ maxLen) : ∀ x ∈ textS s, 0 ≤ x ∧ x < 256 := by
  intro x hx
  rw [textS] at hx
  rcases List.mem_append.1 hx with h1 | h1
  · exact uintS_range _ (by unfold maxLen at h; omega) x h1
  · exact bytesOf_range _ x h1
end Go.Proofs.YtdlhengfhmkpdaaDoor
