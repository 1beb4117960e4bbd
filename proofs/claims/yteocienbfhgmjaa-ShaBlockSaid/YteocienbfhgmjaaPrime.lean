/- isPrime of package sha: its contract for numbers below 400. -/
import Derived.Test.YteocienbfhgmjaaProg
import Derived.Test.YteocienbfhgmjaaPrimeP
import Derived.WalkKit
import Derived.WalkSpells
import Derived.WalkLawsBesides
namespace Go.Proofs.Yteocienbfhgmjaa
open Go.RowKit

theorem noneBelow_done (p d : Nat) (h : noneBelow p d) (hd : p < d * d) : primeB p = true := by
  rw [primeB, List.all_eq_true]
  intro e he
  rw [List.mem_range] at he
  by_cases h2 : e < 2
  · simp [h2]
  · by_cases h3 : p < e * e
    · simp [h3]
    · have hlt : e < d := by
        rcases Nat.lt_or_ge e d with h | h
        · exact h
        · have := Nat.mul_le_mul h h; omega
      have := h e (by omega) hlt
      simp [this]

theorem noneBelow_hit (p d : Nat) (h2 : 2 ≤ d) (hd : d * d ≤ p) (h0 : p % d = 0) (hp : p < 400) : primeB p = false := by
  have hd20 : d < 21 := by
    rcases Nat.lt_or_ge d 21 with h | h
    · exact h
    · have := Nat.mul_le_mul h h; omega
  rw [primeB, List.all_eq_false]
  exact ⟨d, List.mem_range.2 hd20, by simp [h0]; omega⟩

set_option maxRecDepth 100000 in
set_option maxHeartbeats 400000 in
theorem prime_any (p : Nat) (w : World) (hp : p < 400) :
    Calls Try.prog 41 #[.int .u32 p] w fun e w' => e = .returned (.bool (primeB p)) ∧ w = w' := by
  go_enter Try.func41, Try.ntmps41
  go_wp2
  go_loop [3] (fun i => ∃ d : Nat, 2 ≤ d ∧ d ≤ 21 ∧ i = .int .u32 d ∧ noneBelow p d) (fun i => 21 - (intOf i).toNat)
  case atStart => exact ⟨2, by omega, by omega, rfl, fun e h1 h2 => by omega⟩
  case round =>
    obtain ⟨d, hd2, hd21, rfl, hn⟩ := hrel
    have hsq : d * d ≤ 441 := Nat.mul_le_mul hd21 hd21
    have hw : IntKind.u32.wrap ((d : Int) * (d : Int)) = ((d * d : Nat) : Int) := by
      rw [← Int.natCast_mul, IntKind.wrap_u32']; omega
    have Hn := hide hn
    clear hn
    by_cases hdd : d * d ≤ p
    · have hdi : (((d * d : Nat) : Int) ≤ (p : Int)) := by omega
      have hd20 : d ≤ 19 := by
        rcases Nat.lt_or_ge d 20 with h | h
        · omega
        · have := Nat.mul_le_mul h h; omega
      by_cases h0 : p % d = 0
      · have h0i : ((p : Int) % (d : Int) == 0) = true := by rw [beq_iff_eq]; omega
        have HF := hide (noneBelow_hit p d hd2 hdd h0 hp)
        clear h0 hsq hdd
        go_wp2
        go_ret
        exact ⟨by rw [HF.out]; rfl, rfl⟩
      · have h0i : ((p : Int) % (d : Int) == 0) = false := by rw [beq_eq_false_iff_ne]; omega
        have HN := hide h0
        clear h0 hsq hdd
        go_wp2
        go_round
        case rel =>
          refine ⟨d + 1, by omega, by omega, by go_num, fun e h1 h2 => ?_⟩
          by_cases he : e = d
          · subst he; exact HN.out
          · exact Hn.out e h1 (by omega)
        case measure => simp [intOf]; omega
    · have hdi : ¬ (((d * d : Nat) : Int) ≤ (p : Int)) := by omega
      have HF := hide (noneBelow_done p d Hn.out (by omega))
      clear hdd hsq
      go_wp2
      go_ret
      exact ⟨by rw [HF.out]; rfl, rfl⟩
end Go.Proofs.Yteocienbfhgmjaa
