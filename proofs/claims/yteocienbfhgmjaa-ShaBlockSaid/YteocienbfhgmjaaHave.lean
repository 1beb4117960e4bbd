/- haveBlock of package sha: its contract. -/
import Derived.Test.YteocienbfhgmjaaProg
import Derived.Test.YteocienbfhgmjaaArr
import Derived.Test.YteocienbfhgmjaaParts
import Derived.WalkKit
import Derived.WalkSpells
import Derived.WalkLawsBesides
namespace Go.Proofs.Yteocienbfhgmjaa
open Go.RowKit

def haveB (t : Nat) : Bool := decide (64 ≤ t)

set_option maxRecDepth 100000 in
set_option maxHeartbeats 1000000 in
theorem have_any (ps : List (List Int)) (b o c : Nat) (w : World) (hP : PartsAt w b o ps) (hn : ps.length ≤ 1000000) (hX : ps.flatten.length ≤ 140737488355328) :
    Calls Try.prog 47 #[.slice (some ⟨b, o, none⟩) ps.length c] w (fun e w' => e = .returned (.bool (haveB ps.flatten.length)) ∧ w = w') := by
  obtain ⟨n, hnn⟩ : ∃ n, n = ps.length := ⟨_, rfl⟩
  have HN := hide hnn
  rw [← hnn] at hn ⊢
  have HP := hide hP
  obtain ⟨T, hT⟩ : ∃ T, T = ps.flatten.length := ⟨_, rfl⟩
  have HT := hide hT
  rw [← hT] at hX ⊢
  clear hP hnn hT
  go_enter Try.func47, Try.ntmps47
  go_wp2_with fail
  go_loop [3, 8] (fun s i => ∃ k : Nat, k ≤ n ∧ i = .int .i64 k ∧ s = .int .i64 ((cat ps k).length : Int) ∧ ((cat ps k).length < 64)) (fun _ i => n - (intOf i).toNat)
  case atStart => exact ⟨0, Nat.zero_le _, rfl, rfl, by simp [cat_zero]⟩
  case round =>
    obtain ⟨k, hk, rfl, rfl, h64⟩ := hrel
    by_cases hlt : k < n
    · obtain ⟨sv, hc, ao, cp, rfl, _, _, _⟩ := HP.out.2 k (by rw [← HN.out]; exact hlt)
      have hle := part_le ps k (by rw [← HN.out]; exact hlt)
      rw [← HT.out] at hle
      have HS := hide (cat_succ ps k (by rw [← HN.out]; exact hlt))
      obtain ⟨s, hs⟩ : ∃ s, s = (cat ps k).length := ⟨_, rfl⟩
      obtain ⟨m, hm⟩ : ∃ m, m = (part ps k).length := ⟨_, rfl⟩
      rw [← hm] at hc
      rw [← hs, ← hm] at hle
      rw [← hs] at h64 ⊢
      have HSM := hide (And.intro hs hm)
      clear hs hm
      by_cases hge : 64 ≤ s + m
      · have HB := hide (show haveB T = true by unfold haveB; simp; omega)
        go_wp2_with fail
        go_ret
        exact ⟨by rw [HB.out]; rfl, rfl⟩
      · go_wp2_with fail
        go_round
        case rel => exact ⟨k + 1, by omega, by go_num, by rw [HS.out, List.length_append, ← HSM.out.1, ← HSM.out.2]; go_num, by rw [HS.out, List.length_append, ← HSM.out.1, ← HSM.out.2]; omega⟩
        case measure => simp [intOf]; omega
    · have hkn : cat ps k = ps.flatten := by rw [show k = ps.length from by have := HN.out; omega]; exact cat_all ps
      rw [hkn, ← HT.out] at h64
      rw [hkn]
      have HB := hide (show haveB T = false by unfold haveB; simp; omega)
      clear hkn
      go_wp2_with fail
      go_ret
      exact ⟨by rw [HB.out]; rfl, rfl⟩
end Go.Proofs.Yteocienbfhgmjaa
