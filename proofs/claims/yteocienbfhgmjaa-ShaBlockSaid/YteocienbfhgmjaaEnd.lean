/- The function End of package sha: its contract. -/
import Derived.Test.YteocienbfhgmjaaProg
import Derived.Test.YteocienbfhgmjaaEndP
import Derived.WalkKit
import Derived.WalkSpells
import Derived.WalkLawsBesides
import Derived.IntWalk
namespace Go.Proofs.Yteocienbfhgmjaa
open Go.RowKit

theorem Try.info5 : (Try.prog.info? 5).map (fun i => (i.zero, i.size, i.bytes)) = some (some (.int .u8 0), 1, 1) := by kernel_rfl

theorem own_start (n : Nat) (w : World) : (w.alloc (.cells ((madeCells #[.int .u8 0] (padZ n + 9)).setIfInBounds 0 (.int .u8 128)) 5)).ownsRow w.heap.size 5 1
    (.slice (some ⟨w.heap.size, 0, none⟩) (1 + padZ n) (padZ n + 9)) (1 + padZ n) ((endP n 0).map (Value.int .u8)) := by
  have hp : padZ n ≤ 63 := by unfold padZ; omega
  refine ⟨by simp [length_endP], .inr ⟨w.heap.size, padZ n + 9, _, rfl, Nat.le_refl _, heap_alloc_new _ _, by omega, by unfold maxLen; omega, by simp [size_madeCells], ?_⟩⟩
  rw [Array.toList_setIfInBounds, toList_madeCells_one]
  simp only [Nat.mul_one, endP, lenBytes, List.range_zero, List.map_nil, List.append_nil, List.map_cons, List.map_replicate]
  rw [show padZ n + 9 = (padZ n + 8) + 1 from by omega, List.replicate_succ, List.set_cons_zero, show 1 + padZ n = padZ n + 1 from by omega, List.take_succ_cons, List.take_replicate]
  congr 2; omega

/-- Behind End(n): a new row of just so many bytes, which are the end of n bytes; nothing that was there has changed. -/
def EndPost (n : Nat) (w : World) (e : Ending) (w' : World) : Prop :=
  e = .returned (.slice (some ⟨w.heap.size, 0, none⟩) (padZ n + 9) (padZ n + 9)) ∧
    w'.ownsRow w.heap.size 5 1 (.slice (some ⟨w.heap.size, 0, none⟩) (padZ n + 9) (padZ n + 9)) (padZ n + 9) ((endS n).map (.int .u8)) ∧ Below w.heap.size w w'

set_option maxRecDepth 100000 in
set_option maxHeartbeats 400000 in
theorem end_any (n : Nat) (w : World) :
    Calls Try.prog 18 #[.int .u64 n] w (EndPost n w) := by
  obtain ⟨i0, hi, hz0, hz1, hz2⟩ := info_parts Try.info5
  have hz : (120 - ((n : Int) % 64 + 1)) % 64 = (padZ n : Int) := by unfold padZ; omega
  have hp : padZ n ≤ 63 := by unfold padZ; omega
  have hmk : ∀ w : World, (Instr.makeSlice 28 (.int .u64 (1 + (padZ n : Int))) (.int .u64 (1 + (padZ n : Int) + 8))).run Try.prog w = .ok (.slice (some ⟨w.heap.size, 0, none⟩) (1 + padZ n) (padZ n + 9)) (w.alloc (.cells (madeCells #[.int .u8 0] (padZ n + 9)) 5)) := by
    intro w
    have h := run_make (P := Try.prog) w 28 5 i0 (.int .u8 0) Try.underlying28 hi hz0 .u64 .u64 (1 + (padZ n : Int)) (1 + (padZ n : Int) + 8) (by omega) (by omega) (by rw [hz2]; omega) (by omega)
    rw [hz1] at h
    have e1 : (1 + (padZ n : Int)).toNat = 1 + padZ n := by omega
    have e2 : (1 + (padZ n : Int) + 8).toNat = padZ n + 9 := by omega
    rw [e1, e2] at h
    simpa [Value.cells] using h
  clear hz0 hz2
  have hm0 : (madeCells #[.int .u8 0] (padZ n + 9))[0]? = some (.int .u8 0) := by
    rw [← Array.getElem?_toList, toList_madeCells_one]; simp
  go_enter Try.func18, Try.ntmps18
  go_wp2_with fail
  go_loopw [5, 21] (fun v i wr => ∃ k : Nat, k ≤ 8 ∧ i = .int .i64 k ∧ v = .slice (some ⟨w.heap.size, 0, none⟩) (1 + padZ n + k) (padZ n + 9) ∧
      wr.ownsRow w.heap.size 5 1 (.slice (some ⟨w.heap.size, 0, none⟩) (1 + padZ n + k) (padZ n + 9)) (1 + padZ n + k) ((endP n k).map (Value.int .u8)) ∧ Below w.heap.size w wr)
    (fun _ i _ => 8 - (intOf i).toNat)
  case atStart => exact ⟨0, by omega, rfl, rfl, own_start n w, (Below.refl _ _).alloc (Nat.le_refl _) _⟩
  case round =>
    obtain ⟨k, hk, rfl, rfl, hown, hB⟩ := hrel
    clear hmk hm0 hz
    by_cases hlt : k < 8
    · go_wp2_with (at_builtin; refine wpList_append_fits _ rfl _ _ 28 rfl w.heap.size 5 i0 1 Try.underlying28 hi hz1 w.heap.size _ _ _ rfl (hown.alloc _) ⟨wr.heap.size, 0, none⟩ 1 1 [.int .u8 (lenByte n k)] rfl rfl (cell_one_new _ _ _) (by simp [Value.oneCell']) (by omega) ?_; intro w1 hown1 hgrow1)
      have hB1 : Below w.heap.size w w1 := (hB.alloc hB.size _).grown hgrow1 (by have := hB.size; simp; omega) (fun j e => by cases e; exact Nat.le_refl _)
      go_roundw
      case rel => exact ⟨k + 1, by omega, by go_num, rfl, by rw [endP_succ, List.map_append]; exact hown1, hB1⟩
      case measure => simp [intOf]; omega
    · go_wp2
      obtain rfl : k = 8 := by omega
      have e9 : 1 + padZ n + 8 = padZ n + 9 := by omega
      rw [e9] at hown
      go_ret
      exact ⟨by show Ending.returned (Value.slice _ (1 + padZ n + 8) _) = _; rw [e9], hown, hB⟩
end Go.Proofs.Yteocienbfhgmjaa
