/- Plain mathematics of primes and of roots by halving: no program is named here. -/
import Derived.WalkKit
import Derived.Test.YteocienbfhgmjaaArr
namespace Go.Proofs.Yteocienbfhgmjaa
open Go.RowKit

/-- No number from 2 on, below d, divides p. -/
def noneBelow (p d : Nat) : Prop := ∀ e, 2 ≤ e → e < d → p % e ≠ 0
/-- Is p a prime, as far as the divisors up to 20 tell (which they do below 441)? -/
def primeB (p : Nat) : Bool := (List.range 21).all fun d => decide (d < 2) || decide (p < d * d) || decide (p % d ≠ 0)

/-- The primes below p. -/
def primesTo : Nat → List Nat
  | 0 => []
  | p + 1 => if 2 ≤ p ∧ primeB p = true then primesTo p ++ [p] else primesTo p

theorem primesTo_succ_no (p : Nat) (h : primeB p = false) : primesTo (p + 1) = primesTo p := by rw [primesTo, if_neg (by simp [h])]
theorem primesTo_succ_yes (p : Nat) (h2 : 2 ≤ p) (h : primeB p = true) : primesTo (p + 1) = primesTo p ++ [p] := by rw [primesTo, if_pos ⟨h2, h⟩]

theorem primesTo_prefix (p : Nat) : ∀ q, p ≤ q → primesTo p <+: primesTo q
  | 0, h => by rw [show p = 0 from by omega]; exact List.prefix_refl _
  | q + 1, h => by
    by_cases hq : p = q + 1
    · rw [hq]; exact List.prefix_refl _
    · have ih := primesTo_prefix p q (by omega)
      rw [primesTo]
      split
      · exact ih.trans (List.prefix_append _ _)
      · exact ih

theorem primes_312 : (primesTo 312).length = 64 := by decide +kernel

/-- As long as there are fewer than 64 of them p is at most 311. -/
theorem primesTo_short (p : Nat) (h : (primesTo p).length < 64) : p ≤ 311 := by
  by_cases hp : 312 ≤ p
  · have := (primesTo_prefix 312 p hp).length_le
    rw [primes_312] at this
    omega
  · omega

/-- What is known of the halving behind k rounds: the lower end, and the upper one. -/
def halves (bel : Nat → Bool) : Nat → Nat × Nat
  | 0 => (0, 34359738368)
  | k + 1 =>
    let lo := (halves bel k).1
    let hi := (halves bel k).2
    let mid := lo + (hi - lo) / 2
    if bel mid then (mid, hi) else (lo, mid)

theorem halves_gap (bel : Nat → Bool) (k : Nat) : k ≤ 35 → (halves bel k).2 = (halves bel k).1 + 2 ^ (35 - k) ∧ (halves bel k).2 ≤ 34359738368 := by
  induction k with
  | zero => intro _; simp [halves]
  | succ k ih =>
    intro h
    obtain ⟨ih1, ih2⟩ := ih (by omega)
    have e : 2 ^ (35 - k) = 2 * 2 ^ (35 - (k + 1)) := by rw [← Nat.pow_succ']; congr 1; omega
    simp only [halves]
    split
    · simp only; omega
    · simp only; omega

def sqB (p x : Nat) : Bool := decide (x * x / 18446744073709551616 < p)
def cbB (p x : Nat) : Bool := decide (((x * x % 18446744073709551616) * x / 18446744073709551616 + x * x / 18446744073709551616 * x) < p * 4294967296)
def sqRoot (p : Nat) : Nat := (halves (sqB p) 35).1 % 4294967296
def cbRoot (p : Nat) : Nat := (halves (cbB p) 35).1 % 4294967296

/-- The first state and the keys, as the standard lists them. -/
def firstS : List Int := [0x6a09e667, 0xbb67ae85, 0x3c6ef372, 0xa54ff53a, 0x510e527f, 0x9b05688c, 0x1f83d9ab, 0x5be0cd19]
def keysS : List Int := [
  0x428a2f98, 0x71374491, 0xb5c0fbcf, 0xe9b5dba5, 0x3956c25b, 0x59f111f1, 0x923f82a4, 0xab1c5ed5, 0xd807aa98, 0x12835b01, 0x243185be, 0x550c7dc3, 0x72be5d74, 0x80deb1fe, 0x9bdc06a7, 0xc19bf174,
  0xe49b69c1, 0xefbe4786, 0x0fc19dc6, 0x240ca1cc, 0x2de92c6f, 0x4a7484aa, 0x5cb0a9dc, 0x76f988da, 0x983e5152, 0xa831c66d, 0xb00327c8, 0xbf597fc7, 0xc6e00bf3, 0xd5a79147, 0x06ca6351, 0x14292967,
  0x27b70a85, 0x2e1b2138, 0x4d2c6dfc, 0x53380d13, 0x650a7354, 0x766a0abb, 0x81c2c92e, 0x92722c85, 0xa2bfe8a1, 0xa81a664b, 0xc24b8b70, 0xc76c51a3, 0xd192e819, 0xd6990624, 0xf40e3585, 0x106aa070,
  0x19a4c116, 0x1e376c08, 0x2748774c, 0x34b0bcb5, 0x391c0cb3, 0x4ed8aa4a, 0x5b9cca4f, 0x682e6ff3, 0x748f82ee, 0x78a5636f, 0x84c87814, 0x8cc70208, 0x90befffa, 0xa4506ceb, 0xbef9a3f7, 0xc67178f2]

theorem firstS_eq : ((primesTo 312).take 8).map (fun p => ((sqRoot p : Nat) : Int)) = firstS := by decide +kernel
theorem keysS_eq : (primesTo 312).map (fun p => ((cbRoot p : Nat) : Int)) = keysS := by decide +kernel
end Go.Proofs.Yteocienbfhgmjaa
