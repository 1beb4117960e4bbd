/- slices.Concat of byte slices that have no bytes: its contract. -/
import Derived.Test.YteocienbfhgmjaaProg
import Derived.Test.YteocienbfhgmjaaConcat
namespace Go.Proofs.Yteocienbfhgmjaa
open Go.RowKit

theorem run_append_nothing (w : World) (ao : Option Addr) (c : Nat) : (Builtin.append_ #[28, 28] 28 #[.slice none 0 0, .slice ao 0 c]).run Try.prog w = .ok (.slice none 0 0) w := by
  obtain ⟨i0, hi, _, _, _⟩ := info_parts Try.info5
  have hu := run_underlying (P := Try.prog) Try.underlying28
  cases ao with
  | none => simp [Builtin.append_, hu, sizeOf, typeInfo, hi, Builtin.lenOf, Builtin.firstCells]
  | some a =>
    have hl : (loadCells a 0).run Try.prog w = .ok #[] w := run_loadCells_list (P := Try.prog) w a [] (fun j v h => by simp at h)
    simp [Builtin.append_, hu, sizeOf, typeInfo, hi, Builtin.lenOf, Builtin.firstCells, hl]

set_option maxRecDepth 100000 in
set_option maxHeartbeats 1000000 in
theorem concat_zero (ps : List (List Int)) (b o c : Nat) (w : World) (hP : PartsAt w b o ps) (hn : ps.length ≤ 1000000) (hX : ps.flatten.length = 0) :
    Calls Try.prog 48 #[.slice (some ⟨b, o, none⟩) ps.length c] w (fun e w' => e = .returned (.slice none 0 0) ∧ w = w') := by
  have hpart : ∀ k, k < ps.length → (part ps k).length = 0 := fun k hk => by have := part_le ps k hk; omega
  obtain ⟨n, hnn⟩ : ∃ n, n = ps.length := ⟨_, rfl⟩
  have HN := hide hnn
  have HPT := hide hpart
  rw [← hnn] at hn ⊢
  have HP := hide hP
  clear hP hnn hX hpart
  go_enter Try.func48, Try.ntmps48
  go_wp2_with fail
  go_loop [3, 11] (fun s i => ∃ k : Nat, k ≤ n ∧ i = .int .i64 k ∧ s = .int .i64 0) (fun _ i => n - (intOf i).toNat)
  case atStart => exact ⟨0, Nat.zero_le _, rfl, rfl⟩
  case round =>
    obtain ⟨k, hk, rfl, rfl⟩ := hrel
    by_cases hlt : k < n
    · obtain ⟨sv, hc, ao, cp, rfl, _, _, _⟩ := HP.out.2 k (by rw [← HN.out]; exact hlt)
      rw [HPT.out k (by rw [← HN.out]; exact hlt)] at hc
      go_wp2_with fail
      go_round
      case rel => exact ⟨k + 1, by omega, by go_num, rfl⟩
      case measure => simp [intOf]; omega
    · go_wp2_with fail
      refine (grow_none w).mono ?_
      rintro e w1 ⟨rfl, rfl⟩
      clear hlt hk
      generalize (k : Int) = kx
      go_wp2_with fail
      go_loop [6, 27] (fun v i => ∃ k : Nat, k ≤ n ∧ i = .int .i64 k ∧ v = .slice none 0 0) (fun _ i => n - (intOf i).toNat)
      case atStart => exact ⟨0, Nat.zero_le _, rfl, rfl⟩
      case round =>
        obtain ⟨k, hk, rfl, rfl⟩ := hrel
        by_cases hlt : k < n
        · obtain ⟨sv, hc, ao, cp, rfl, _, _, _⟩ := HP.out.2 k (by rw [← HN.out]; exact hlt)
          rw [HPT.out k (by rw [← HN.out]; exact hlt)] at hc
          go_wp2_with (with_reducible refine wpList_append_run rfl (.tmp 31) (.tmp 32) 28 28 28 rfl rfl (.slice none 0 0) (.slice ao 0 cp) _ _ rfl rfl (run_append_nothing _ _ _) ?_)
          go_round
          case rel => exact ⟨k + 1, by omega, by go_num, rfl⟩
          case measure => simp [intOf]; omega
        · go_wp2_with fail
          go_ret
          exact ⟨rfl, rfl⟩
end Go.Proofs.Yteocienbfhgmjaa
