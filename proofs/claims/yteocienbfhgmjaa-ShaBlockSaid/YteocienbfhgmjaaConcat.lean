/- slices.Concat of byte slices: its contract. -/
import Derived.Test.YteocienbfhgmjaaProg
import Derived.Test.YteocienbfhgmjaaArr
import Derived.Test.YteocienbfhgmjaaEnd
import Derived.Test.YteocienbfhgmjaaGrow
import Derived.Test.YteocienbfhgmjaaParts
import Derived.WalkKit
import Derived.WalkSpells
import Derived.WalkLawsBesides
namespace Go.Proofs.Yteocienbfhgmjaa
open Go.RowKit

def CatPost (X : List Int) (w : World) (e : Ending) (w' : World) : Prop :=
  ∃ cap, e = .returned (.slice (some ⟨w.heap.size, 0, none⟩) X.length cap) ∧ w'.ownsRow w.heap.size 5 1 (.slice (some ⟨w.heap.size, 0, none⟩) X.length cap) X.length (X.map (.int .u8)) ∧ Below w.heap.size w w'

set_option maxRecDepth 100000 in
set_option maxHeartbeats 1000000 in
theorem concat_any (ps : List (List Int)) (b o c : Nat) (w : World) (hP : PartsAt w b o ps) (hn : ps.length ≤ 1000000) (h0 : 0 < ps.flatten.length) (hX : ps.flatten.length ≤ 140737488355328) :
    Calls Try.prog 48 #[.slice (some ⟨b, o, none⟩) ps.length c] w (CatPost ps.flatten w) := by
  obtain ⟨i0, hi, hz0, hz1, hz2⟩ := info_parts Try.info5
  clear hz0 hz2
  obtain ⟨n, hnn⟩ : ∃ n, n = ps.length := ⟨_, rfl⟩
  have HN := hide hnn
  rw [← hnn] at hn ⊢
  have HP := hide hP
  obtain ⟨T, hT⟩ : ∃ T, T = ps.flatten.length := ⟨_, rfl⟩
  have HT := hide hT
  rw [← hT] at h0 hX
  clear hP hnn hT
  go_enter Try.func48, Try.ntmps48
  go_wp2_with fail
  go_loop [3, 11] (fun s i => ∃ k : Nat, k ≤ n ∧ i = .int .i64 k ∧ s = .int .i64 ((cat ps k).length : Int)) (fun _ i => n - (intOf i).toNat)
  case atStart => exact ⟨0, Nat.zero_le _, rfl, rfl⟩
  case round =>
    obtain ⟨k, hk, rfl, rfl⟩ := hrel
    by_cases hlt : k < n
    · obtain ⟨sv, hc, ao, cp, rfl, _, _, _⟩ := HP.out.2 k (by rw [← HN.out]; exact hlt)
      have hle := part_le ps k (by rw [← HN.out]; exact hlt)
      rw [← HT.out] at hle
      have HS := hide (cat_succ ps k (by rw [← HN.out]; exact hlt))
      obtain ⟨s, hs⟩ : ∃ s, s = (cat ps k).length := ⟨_, rfl⟩
      obtain ⟨m, hm⟩ : ∃ m, m = (part ps k).length := ⟨_, rfl⟩
      rw [← hm] at hc
      rw [← hs, ← hm] at hle
      rw [← hs]
      have HSM := hide (And.intro hs hm)
      clear hs hm
      go_wp2_with fail
      go_round
      case rel => exact ⟨k + 1, by omega, by go_num, by rw [HS.out, List.length_append, ← HSM.out.1, ← HSM.out.2]; go_num⟩
      case measure => simp [intOf]; omega
    · have hkn : cat ps k = ps.flatten := by rw [show k = ps.length from by have := HN.out; omega]; exact cat_all ps
      rw [hkn, ← HT.out]
      clear hkn
      go_wp2_with fail
      refine (grow_any T w h0 hX).mono ?_
      rintro e w1 ⟨cp, rfl, hTc, hown, hB⟩
      have HC := hide hTc
      clear hlt hk
      generalize (k : Int) = kx
      go_wp2_with fail
      go_loopw [6, 27] (fun v i wr => ∃ k : Nat, k ≤ n ∧ i = .int .i64 k ∧ v = .slice (some ⟨w.heap.size, 0, none⟩) (cat ps k).length cp ∧
          wr.ownsRow w.heap.size 5 1 (.slice (some ⟨w.heap.size, 0, none⟩) (cat ps k).length cp) (cat ps k).length ((cat ps k).map (.int .u8)) ∧ Below w.heap.size w wr)
        (fun _ i _ => n - (intOf i).toNat)
      case atStart => exact ⟨0, Nat.zero_le _, rfl, rfl, hown, hB⟩
      case round =>
        clear hown hB hTc w1
        obtain ⟨k, hk, rfl, rfl, hown, hB⟩ := hrel
        by_cases hlt : k < n
        · obtain ⟨sv, hc, ao, cq, rfl, hnone, _, ha⟩ := (HP.out.below hB).2 k (by rw [← HN.out]; exact hlt)
          have hle := part_le ps k (by rw [← HN.out]; exact hlt)
          rw [← HT.out] at hle
          have HS := hide (cat_succ ps k (by rw [← HN.out]; exact hlt))
          have hle2 : (cat ps k).length + (part ps k).length ≤ cp := by have := HC.out; omega
          have HA := hide (slAt_news ha)
          have HNO := hide hnone
          clear ha hnone hle
          go_wp2_with (at_builtin; refine wpList_append_fits_any _ rfl (.tmp 31) (.tmp 32) 28 rfl w.heap.size 5 i0 1 Try.underlying28 hi hz1 w.heap.size _ cp _ rfl hown ao _ cq ((part ps k).map (.int .u8)) rfl (by simp) (fun e => ⟨by rw [(HNO.out e).1]; rfl, (HNO.out e).2⟩) HA.out (ints_oneCell _ _) hle2 ?_; intro w2 hown2 hgrow2)
          have hB2 : Below w.heap.size w w2 := hB.grown hgrow2 hB.size (fun j e => by cases e; exact Nat.le_refl _)
          go_roundw
          case rel => exact ⟨k + 1, by omega, by go_num, by rw [HS.out, List.length_append], by rw [HS.out, List.length_append, List.map_append]; exact hown2, hB2⟩
          case measure => simp [intOf]; omega
        · have hkn : cat ps k = ps.flatten := by rw [show k = ps.length from by have := HN.out; omega]; exact cat_all ps
          rw [hkn] at hown ⊢
          clear hkn
          go_wp2_with fail
          go_ret
          exact ⟨cp, rfl, hown, hB⟩
end Go.Proofs.Yteocienbfhgmjaa
