/- Plain mathematics of the end of a number of bytes: no program is named here. -/
import Derived.WalkKit
namespace Go.Proofs.Yteocienbfhgmjaa
open Go.RowKit

/-- How many noughts the end of n bytes has. -/
def padZ (n : Nat) : Nat := (119 - n % 64) % 64

/-- The k-th byte of the number of bits, highest first. -/
def lenByte (n : Nat) (k : Nat) : Int := IntKind.u64.wrap ((n : Int) * 8) / 2 ^ (56 - 8 * k) % 256

/-- The first k bytes of the number of bits. -/
def lenBytes (n : Nat) (k : Nat) : List Int := (List.range k).map (lenByte n)

/-- The end of n bytes, without the last 8 - k of its bytes. -/
def endP (n k : Nat) : List Int := 128 :: (List.replicate (padZ n) 0 ++ lenBytes n k)

/-- The end of n bytes. -/
def endS (n : Nat) : List Int := endP n 8

theorem lenBytes_succ (n k : Nat) : lenBytes n (k + 1) = lenBytes n k ++ [lenByte n k] := by simp [lenBytes, List.range_succ]

theorem length_endP (n k : Nat) : (endP n k).length = 1 + padZ n + k := by simp [endP, lenBytes]; omega

theorem length_endS (n : Nat) : (endS n).length = padZ n + 9 := by unfold endS; rw [length_endP]; omega

theorem endP_succ (n k : Nat) : endP n (k + 1) = endP n k ++ [lenByte n k] := by simp [endP, lenBytes_succ]

theorem and63 (n : Nat) (h : n < 18446744073709551616) : bits BinOp.and IntKind.u64 (n : Int) 63 = ((n % 64 : Nat) : Int) := by
  have := u64_and_nat n 63 h (by omega)
  rw [show (63 : Nat) = 2 ^ 6 - 1 from rfl, Nat.and_two_pow_sub_one_eq_mod] at this
  exact this

theorem endWhole (m : Nat) : bits BinOp.and IntKind.u64 ((m : Int) % 64 + ((padZ m : Int) + 9)) 63 = 0 := by
  have h := and63 (m % 64 + (padZ m + 9)) (by unfold padZ; omega)
  rw [show (m % 64 + (padZ m + 9)) % 64 = 0 from by unfold padZ; omega] at h
  rw [← show (((m % 64 + (padZ m + 9) : Nat)) : Int) = (m : Int) % 64 + ((padZ m : Int) + 9) from by omega]
  exact h

theorem lenByte_nat (n k : Nat) : lenByte n k = ((n * 8 % 18446744073709551616 / 2 ^ (56 - 8 * k) % 256 : Nat) : Int) := by
  unfold lenByte
  rw [IntKind.wrap_u64]
  simp only [Int.natCast_emod, Int.natCast_ediv, Int.natCast_mul, Int.natCast_pow, Int.cast_ofNat_Int]

theorem lenByte_range (n k : Nat) : 0 ≤ lenByte n k ∧ lenByte n k < 256 := by rw [lenByte_nat]; omega

theorem byte_inj (a b : Int) (ha : 0 ≤ a) (ha' : a < 256) (hb : 0 ≤ b) (hb' : b < 256) (h : UInt8.ofNat a.toNat = UInt8.ofNat b.toNat) : a = b := by
  have := congrArg UInt8.toNat h
  simp at this
  omega

theorem endS_inj (m n : Nat) (hm : m < 2305843009213693952) (hn : n < 2305843009213693952) (h : (endS m).map (fun x => UInt8.ofNat x.toNat) = (endS n).map (fun x => UInt8.ofNat x.toNat)) : m = n := by
  have hl := congrArg List.length h
  simp only [List.length_map, length_endS] at hl
  have hp : padZ m = padZ n := by omega
  have hk : ∀ k, k < 8 → lenByte m k = lenByte n k := by
    intro k hk
    have := congrArg (fun l => l[1 + padZ m + k]?) h
    simp only [endS, endP, List.map_cons, List.map_append, List.map_replicate, lenBytes, List.map_map] at this
    rw [show 1 + padZ m + k = (padZ m + k) + 1 from by omega, List.getElem?_cons_succ, List.getElem?_cons_succ, List.getElem?_append_right (by simp), List.getElem?_append_right (by simp [hp]), ] at this
    simp [hp, hk] at this
    exact byte_inj _ _ (lenByte_range m k).1 (lenByte_range m k).2 (lenByte_range n k).1 (lenByte_range n k).2 this
  have h0 := hk 0 (by omega)
  have h1 := hk 1 (by omega)
  have h2 := hk 2 (by omega)
  have h3 := hk 3 (by omega)
  have h4 := hk 4 (by omega)
  have h5 := hk 5 (by omega)
  have h6 := hk 6 (by omega)
  have h7 := hk 7 (by omega)
  simp only [lenByte_nat, Nat.reduceMul, Nat.reduceSub, Nat.reducePow] at h0 h1 h2 h3 h4 h5 h6 h7
  omega
end Go.Proofs.Yteocienbfhgmjaa
