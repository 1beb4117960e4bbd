/- The small functions of package sha that only reckon with numbers: turning a word, three turns, their contracts. -/
import Derived.Test.YteocienbfhgmjaaProg
import Derived.Test.YteocienbfhgmjaaPlain
import Derived.WalkKit
import Derived.WalkSpells
import Derived.WalkLawsBesides
import Derived.IntWalk
namespace Go.Proofs.Yteocienbfhgmjaa
open Go.RowKit

set_option maxHeartbeats 400000 in
theorem rotl_any (x : Int) (n : Nat) (w : World) (hn0 : 1 ≤ n) (hn1 : n ≤ 31) :
    Calls Try.prog 59 #[.int .u32 x, .int .i64 (-n)] w fun e w' => e = .returned (.int .u32 (rorS x n)) ∧ w = w' := by
  have hs := and31 ⟨n, by omega⟩ hn0
  simp only at hs
  have h2 : 32 - (32 - n) = n := by omega
  go_enter Try.func59, Try.ntmps59
  go_wp2
  go_ret
  exact ⟨by simp [rorS], rfl⟩

set_option maxHeartbeats 400000 in
theorem ror_any (x : Int) (n : Nat) (w : World) (hn0 : 1 ≤ n) (hn1 : n ≤ 31) :
    Calls Try.prog 58 #[.int .u32 x, .int .i64 n] w fun e w' => e = .returned (.int .u32 (rorS x n)) ∧ w = w' := by
  go_enter Try.func58, Try.ntmps58
  go_wp2_with (go_at_call 59; refine (rotl_any _ _ _ hn0 hn1).mono ?_; rintro e w' ⟨rfl, rfl⟩)
  go_ret
  exact ⟨rfl, rfl⟩

theorem ror_int (x v : Int) (w : World) (h0 : 1 ≤ v) (h1 : v ≤ 31) :
    Calls Try.prog 58 #[.int .u32 x, .int .i64 v] w fun e w' => e = .returned (.int .u32 (rorS x v.toNat)) ∧ w = w' := by
  obtain ⟨n, rfl⟩ := Int.eq_ofNat_of_zero_le (show 0 ≤ v by omega)
  exact ror_any x n w (by omega) (by omega)

set_option maxHeartbeats 400000 in
theorem turn_any (x : Int) (i j k : Nat) (w : World) (hi0 : 1 ≤ i) (hi1 : i ≤ 31) (hj0 : 1 ≤ j) (hj1 : j ≤ 31) (hk0 : 1 ≤ k) (hk1 : k ≤ 31) :
    Calls Try.prog 57 #[.int .u32 x, .int .i64 i, .int .i64 j, .int .i64 k] w fun e w' => e = .returned (.int .u32 (turnS x i j k)) ∧ w = w' := by
  go_enter Try.func57, Try.ntmps57
  go_wp2_with fail
  refine (ror_any _ _ _ hi0 hi1).mono ?_
  rintro e w' ⟨rfl, rfl⟩
  go_wp2_with fail
  refine (ror_any _ _ _ hj0 hj1).mono ?_
  rintro e w' ⟨rfl, rfl⟩
  go_wp2_with fail
  refine (ror_any _ _ _ hk0 hk1).mono ?_
  rintro e w' ⟨rfl, rfl⟩
  go_wp2_with fail
  go_ret
  exact ⟨rfl, rfl⟩

theorem turn_int (x i j k : Int) (w : World) (hi0 : 1 ≤ i) (hi1 : i ≤ 31) (hj0 : 1 ≤ j) (hj1 : j ≤ 31) (hk0 : 1 ≤ k) (hk1 : k ≤ 31) :
    Calls Try.prog 57 #[.int .u32 x, .int .i64 i, .int .i64 j, .int .i64 k] w fun e w' => e = .returned (.int .u32 (turnS x i.toNat j.toNat k.toNat)) ∧ w = w' := by
  obtain ⟨a, rfl⟩ := Int.eq_ofNat_of_zero_le (show 0 ≤ i by omega)
  obtain ⟨b, rfl⟩ := Int.eq_ofNat_of_zero_le (show 0 ≤ j by omega)
  obtain ⟨c, rfl⟩ := Int.eq_ofNat_of_zero_le (show 0 ≤ k by omega)
  exact turn_any x a b c w (by omega) (by omega) (by omega) (by omega) (by omega) (by omega)
end Go.Proofs.Yteocienbfhgmjaa
