/- The law ShaEnds: its walk. -/
import Derived.Test.YteocienbfhgmjaaProg
import Derived.Test.YteocienbfhgmjaaPlain
import Derived.Test.YteocienbfhgmjaaMem
import Derived.Test.YteocienbfhgmjaaEnd
import Derived.WalkKit
import Derived.WalkSpells
import Derived.WalkLawsBesides
import Derived.Deep.DeepCutAuto
namespace Go.Proofs.Yteocienbfhgmjaa
open Go.RowKit

set_option maxRecDepth 100000 in
set_option maxHeartbeats 400000 in
theorem ends_walk (m n : Nat) (w : World) (hm : Hid (m < 18446744073709551616)) (hn : Hid (n < 18446744073709551616)) :
    Calls Try.prog 8 #[.int .u64 m, .int .u64 n] w (fun e w' => e = .returned (.bool true) ∧ Below w.heap.size w w') := by
  go_enter Try.func8, Try.ntmps8
  go_wp2_with fail
  refine (end_any m w).mono ?_
  rintro e w1 ⟨rfl, hA, hBA⟩
  go_wp2_with fail
  refine (end_any n w1).mono ?_
  rintro e w2 ⟨rfl, hB, hBB⟩
  have hA2 := ownsRow_below hA hBB
  have hB2 := (hBA.trans (hBB.mono hBA.size))
  have hsA := (bytesAt_of_owns hA2).string (P := Try.prog) 28 5 9 (padZ m + 9) (padZ m + 9) (length_endS m) Try.underlying28 Try.underlying5 Try.underlying9
  have hsB := (bytesAt_of_owns hB).string (P := Try.prog) 28 5 9 (padZ n + 9) (padZ n + 9) (length_endS n) Try.underlying28 Try.underlying5 Try.underlying9
  have hc0 : w2.cell? ⟨w.heap.size, 0, none⟩ = some (.int .u8 128) := by
    have := bytesAt_of_owns hA2 0 (by rw [length_endS]; omega)
    simpa [endS, endP] using this
  have hpm : padZ m ≤ 63 := by unfold padZ; omega
  have hm63 := and63 m hm.out
  clear hA hB hA2 hBA hBB
  have d1 : decide ((padZ m : Int) + 9 < 9) = false := decide_eq_false (by omega)
  have d2 : decide ((padZ n : Int) + 9 < 9) = false := decide_eq_false (by omega)
  have d3 := endWhole m
  have d4 : decide (72 < (padZ m : Int) + 9) = false := decide_eq_false (by omega)
  go_upto_region 4 with (fail)
  clear d1 d2 d3 d4 hm63 hpm hc0
  by_cases h61 : (2305843009213693952 : Int) ≤ (m : Int)
  · have e1 : decide ((2305843009213693952 : Int) ≤ (m : Int)) = true := decide_eq_true h61
    clear h61
    go_wp2_with fail
    all_goals (go_ret; exact ⟨rfl, hB2⟩)
  · have e1 : decide ((2305843009213693952 : Int) ≤ (m : Int)) = false := decide_eq_false h61
    by_cases h62 : (2305843009213693952 : Int) ≤ (n : Int)
    · have e2 : decide ((2305843009213693952 : Int) ≤ (n : Int)) = true := decide_eq_true h62
      clear h61 h62
      go_wp2_with fail
      all_goals (go_ret; exact ⟨rfl, hB2⟩)
    · have e3 : (((strOfNums (endS m)).toList == (strOfNums (endS n)).toList) = ((m : Int) == (n : Int))) = True := by
        refine eq_true ?_
        by_cases hmn : m = n
        · subst hmn; simp
        · have h1 : ((m : Int) == (n : Int)) = false := by rw [beq_eq_false_iff_ne]; omega
          have h2 : ((strOfNums (endS m)).toList == (strOfNums (endS n)).toList) = false := by
            rw [beq_eq_false_iff_ne]
            intro h
            refine hmn (endS_inj m n (by omega) (by omega) ?_)
            have := h
            simpa [strOfNums, ByteArray.toList_eq] using this
          rw [h1, h2]
      clear h61 h62
      go_wp2_with fail
      all_goals (go_ret; exact ⟨rfl, hB2⟩)
end Go.Proofs.Yteocienbfhgmjaa
