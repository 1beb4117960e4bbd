/- The document's Bit, Mask. -/
import Derived.Test.YtgikkjjnoakhdaaDoorAdCov
namespace Go.Proofs.YtgikkjjnoakhdaaDoor
open Go.RowKit

def bitS (a i : Nat) : Bool := decide (a / 2 ^ (31 - i) % 2 = 1)

set_option maxRecDepth 100000 in
theorem bitR_any (a i : Nat) (ha : a < 4294967296) (hi : i ≤ 31) (w : World) : Calls Tryd.prog 45 #[.int .u32 a, .int .i64 i] w (fun e w' => e = .returned (.bool (bitS a i)) ∧ w = w') := by
  go_enter Tryd.func45, Tryd.ntmps45
  go_wp2_with fail
  go_loop [0, 5] (fun x k => ∃ j y : Nat, i ≤ j ∧ j ≤ 31 ∧ k = .int .i64 j ∧ x = .int .u32 y ∧ y = a / 2 ^ (j - i)) (fun _ k => 31 - (intOf k).toNat)
  case atStart => exact ⟨i, a, Nat.le_refl _, hi, rfl, rfl, by simp⟩
  case round =>
    obtain ⟨j, y, hj, hj3, rfl, rfl, hy⟩ := hrel
    have hle : y ≤ a := by rw [hy]; exact Nat.div_le_self _ _
    by_cases hlt : j < 31
    · have hlt' : (j : Int) < 31 := by omega
      have hs : y / 2 = a / 2 ^ (j + 1 - i) := by rw [hy, Nat.div_div_eq_div_mul, ← Nat.pow_succ]; congr 2; omega
      have hq : (y : Int).tdiv 2 = ((y / 2 : Nat) : Int) := by rw [Int.tdiv_eq_ediv_of_nonneg (by omega)]; omega
      have hle2 : y / 2 ≤ a := by omega
      generalize y / 2 = z at *
      have hw : IntKind.u32.wrap (z : Int) = z := IntWalk.u32_in _ (by omega)
      have HY := hide hs
      clear hs hy
      go_wp2_with fail
      go_round
      case rel => exact ⟨j + 1, z, by omega, by omega, by go_num, rfl, HY.out⟩
      case measure => simp [intOf]; omega
    · have hlt' : ¬ (j : Int) < 31 := by omega
      obtain rfl : j = 31 := by omega
      have hr : (y : Int).tmod 2 = ((y % 2 : Nat) : Int) := by rw [Int.tmod_eq_emod_of_nonneg (by omega)]; omega
      have hb : (((y % 2 : Nat) : Int) == 1) = bitS a i := by
        unfold bitS
        rw [← hy, Bool.eq_iff_iff, beq_iff_eq, decide_eq_true_eq]
        omega
      have hw : IntKind.u32.wrap ((y % 2 : Nat) : Int) = ((y % 2 : Nat) : Int) := IntWalk.u32_in _ (by omega)
      obtain ⟨b, hz⟩ : ∃ z, bitS a i = z := ⟨_, rfl⟩
      rw [hz] at hb
      have HZ := hide hz
      clear hz
      generalize ((y % 2 : Nat) : Int) = z at *
      clear hy
      go_wp2_with fail
      go_ret
      rw [HZ.out]
      exact ⟨rfl, rfl⟩

/-- The mask behind so many bits. -/
def mkS (b : Int) : Nat → Nat
  | 0 => 0
  | i + 1 => 2 * mkS b i + (if (i : Int) < b then 1 else 0)
theorem mkS_lt (b : Int) : ∀ i, mkS b i < 2 ^ i
  | 0 => by simp [mkS]
  | i + 1 => by
    have := mkS_lt b i
    rw [mkS, Nat.pow_succ]
    split <;> omega
theorem mkS_of (b : Int) : ∀ i, mkS b i + 2 ^ (i - b.toNat) = 2 ^ i
  | 0 => by simp [mkS]
  | i + 1 => by
    have h := mkS_of b i
    rw [mkS]
    by_cases hb : (i : Int) < b
    · rw [if_pos hb]
      rw [show i - b.toNat = 0 by omega] at h
      rw [show i + 1 - b.toNat = 0 by omega, Nat.pow_succ]
      omega
    · rw [if_neg hb, show i + 1 - b.toNat = (i - b.toNat) + 1 by omega, Nat.pow_succ, Nat.pow_succ]
      omega
theorem mkS_end (b : Int) : mkS b 32 = 4294967296 - sz b := by
  have h := mkS_of b 32
  have e : sz b = 2 ^ (32 - b.toNat) := by
    unfold sz ex
    congr 1
    omega
  rw [← e] at h
  have : (2 : Nat) ^ 32 = 4294967296 := by decide
  omega

set_option maxRecDepth 100000 in
theorem maskR_any (b : Int) (w : World) : Calls Tryd.prog 25 #[.int .i64 b] w (fun e w' => e = .returned (.int .u32 (4294967296 - sz b : Nat)) ∧ w = w') := by
  rw [← mkS_end]
  go_enter Tryd.func25, Tryd.ntmps25
  go_wp2_with fail
  go_loop [3, 4] (fun x k => ∃ i m : Nat, i ≤ 32 ∧ k = .int .i64 i ∧ x = .int .u32 m ∧ m = mkS b i) (fun _ k => 32 - (intOf k).toNat)
  case atStart => exact ⟨0, 0, by omega, rfl, rfl, rfl⟩
  case round =>
    obtain ⟨i, m, hi, rfl, rfl, hm⟩ := hrel
    by_cases hlt : i < 32
    · have hlt' : (i : Int) < 32 := by omega
      have h31 := mkS_lt b i
      have hp : 2 ^ i ≤ 2147483648 := Nat.pow_le_pow_right (n := 2) (by omega) (show i ≤ 31 by omega)
      have hs : mkS b (i + 1) = 2 * m + (if (i : Int) < b then 1 else 0) := by rw [mkS, hm]
      have hm2 : m < 2147483648 := by omega
      have hw : IntKind.u32.wrap (2 * (m : Int)) = 2 * (m : Int) := IntWalk.u32_in _ (by omega)
      by_cases hb : (i : Int) < b
      · rw [if_pos hb] at hs
        have HS := hide hs
        clear hs hm h31 hp
        have hw2 : IntKind.u32.wrap (2 * (m : Int) + 1) = ((2 * m + 1 : Nat) : Int) := by rw [IntWalk.u32_in _ (by omega)]; omega
        go_wp2_with fail
        go_round
        case rel => exact ⟨i + 1, 2 * m + 1, by omega, by go_num, by go_num, HS.out.symm⟩
        case measure => simp [intOf]; omega
      · rw [if_neg hb] at hs
        have HS := hide hs
        clear hs hm h31 hp
        go_wp2_with fail
        go_round
        case rel => exact ⟨i + 1, 2 * m + 0, by omega, by go_num, by go_num, HS.out.symm⟩
        case measure => simp [intOf]; omega
    · have hlt' : ¬ (i : Int) < 32 := by omega
      obtain rfl : i = 32 := by omega
      have HM := hide hm
      clear hm
      go_wp2_with fail
      go_ret
      rw [HM.out]
      exact ⟨rfl, rfl⟩
end Go.Proofs.YtgikkjjnoakhdaaDoor
