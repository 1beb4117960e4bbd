/- The standard's own sums, reckoned. -/
import Derived.Test.YtjimeicfdcmfhaaProg
import Derived.Test.YtjimeicfdcmfhaaHex01
import Derived.Test.YtjimeicfdcmfhaaOf
import Derived.Test.YtjimeicfdcmfhaaMilK
namespace Go.Proofs.Ytjimeicfdcmfhaa

set_option maxRecDepth 100000 in
theorem known1 : hexTo (sumS []) 32 = ⟨#[101, 51, 98, 48, 99, 52, 52, 50, 57, 56, 102, 99, 49, 99, 49, 52, 57, 97, 102, 98, 102, 52, 99, 56, 57, 57, 54, 102, 98, 57, 50, 52, 50, 55, 97, 101, 52, 49, 101, 52, 54, 52, 57, 98, 57, 51, 52, 99, 97, 52, 57, 53, 57, 57, 49, 98, 55, 56, 53, 50, 98, 56, 53, 53]⟩ := by decide +kernel
set_option maxRecDepth 100000 in
theorem known2 : hexTo (sumS [97, 98, 99]) 32 = ⟨#[98, 97, 55, 56, 49, 54, 98, 102, 56, 102, 48, 49, 99, 102, 101, 97, 52, 49, 52, 49, 52, 48, 100, 101, 53, 100, 97, 101, 50, 50, 50, 51, 98, 48, 48, 51, 54, 49, 97, 51, 57, 54, 49, 55, 55, 97, 57, 99, 98, 52, 49, 48, 102, 102, 54, 49, 102, 50, 48, 48, 49, 53, 97, 100]⟩ := by decide +kernel
set_option maxRecDepth 100000 in
theorem known3 : hexTo (sumS [97, 98, 99, 100, 98, 99, 100, 101, 99, 100, 101, 102, 100, 101, 102, 103, 101, 102, 103, 104, 102, 103, 104, 105, 103, 104, 105, 106, 104, 105, 106, 107, 105, 106, 107, 108, 106, 107, 108, 109, 107, 108, 109, 110, 108, 109, 110, 111, 109, 110, 111, 112, 110, 111, 112, 113]) 32 = ⟨#[50, 52, 56, 100, 54, 97, 54, 49, 100, 50, 48, 54, 51, 56, 98, 56, 101, 53, 99, 48, 50, 54, 57, 51, 48, 99, 51, 101, 54, 48, 51, 57, 97, 51, 51, 99, 101, 52, 53, 57, 54, 52, 102, 102, 50, 49, 54, 55, 102, 54, 101, 99, 101, 100, 100, 52, 49, 57, 100, 98, 48, 54, 99, 49]⟩ := by decide +kernel
set_option maxRecDepth 100000 in
theorem known4 : hexTo (outS (takeS (stN 2061136107 1745259042 791610055 2140370626 1884297759 3529239238 671294972 693152569) keysS (endS 1000000))) 32 = ⟨#[99, 100, 99, 55, 54, 101, 53, 99, 57, 57, 49, 52, 102, 98, 57, 50, 56, 49, 97, 49, 99, 55, 101, 50, 56, 52, 100, 55, 51, 101, 54, 55, 102, 49, 56, 48, 57, 97, 52, 56, 97, 52, 57, 55, 50, 48, 48, 101, 48, 52, 54, 100, 51, 57, 99, 99, 99, 55, 49, 49, 50, 99, 100, 48]⟩ := by decide +kernel

theorem milBlk (N j : Nat) (E : List Int) (h : 64 * j + 64 ≤ N) : ((List.replicate N (97 : Int) ++ E).drop (64 * j)).take 64 = aBlk := by
  rw [List.drop_append_of_le_length (by rw [List.length_replicate]; omega), List.drop_replicate, List.take_append_of_le_length (by rw [List.length_replicate]; omega), List.take_replicate, Nat.min_eq_left (by omega), aBlk]

theorem mil_sum (N : Nat) (X : List Int) (hN : N = 1000000) (hX : X = List.replicate N 97) : sumS X = outS (takeS (stN 2061136107 1745259042 791610055 2140370626 1884297759 3529239238 671294972 693152569) keysS (endS 1000000)) := by
  have hl : X.length = 1000000 := by rw [hX, List.length_replicate, hN]
  have hE : (endS 1000000).length = 64 := by rw [length_endS]; rfl
  have hst := mil_state firstS (X ++ endS 1000000) (fun j hj => by rw [hX]; exact milBlk N j _ (by omega)) rfl
  rw [sumS, hl]
  generalize endS 1000000 = E at hE hst
  have hd : ((X ++ E).drop (64 * 15625)).take 64 = E := by
    rw [show 64 * 15625 = X.length from by rw [hl], List.drop_left, List.take_of_length_le (by rw [hE]; exact Nat.le_refl _)]
  rw [show (X ++ E).length / 64 = 15625 + 1 from by rw [List.length_append, hl, hE], stAt, hst, hd]
end Go.Proofs.Ytjimeicfdcmfhaa
