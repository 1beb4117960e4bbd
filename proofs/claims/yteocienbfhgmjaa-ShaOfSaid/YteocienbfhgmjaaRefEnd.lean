/- The document's End of layer 1: its contract. -/
import Derived.Test.YteocienbfhgmjaaProg
import Derived.Test.YteocienbfhgmjaaEndP
import Derived.Test.YteocienbfhgmjaaEnd
import Derived.Test.YteocienbfhgmjaaArr
import Derived.Test.YteocienbfhgmjaaSum
import Derived.IntWalk
namespace Go.Proofs.Yteocienbfhgmjaa
open Go.RowKit

/-- The end of n bytes, of which k bytes of the number of bits are there yet. -/
def endZ (n k : Nat) : List Int := endP n k ++ List.replicate (8 - k) 0
theorem length_endZ (n k : Nat) (h : k ≤ 8) : (endZ n k).length = padZ n + 9 := by simp [endZ, length_endP]; omega
theorem endZ_succ (n k : Nat) (h : k < 8) : (endZ n k).set (1 + padZ n + k) (lenByte n k) = endZ n (k + 1) := by
  have hl := length_endP n k
  rw [endZ, List.set_append_right _ _ (by omega), hl, Nat.sub_self, endZ, endP_succ, List.append_assoc, show 8 - k = (8 - (k + 1)) + 1 by omega, List.replicate_succ]
  simp

theorem endZ_start (n : Nat) : ((madeCells #[.int .u8 0] (padZ n + 9)).setIfInBounds 0 (.int .u8 128)) = cellsOf .u8 (endZ n 0) := by
  apply Array.ext'
  rw [Array.toList_setIfInBounds, toList_madeCells_one, toArray_cellsOf, endZ, endP, lenBytes]
  simp only [List.range_zero, List.map_nil, List.append_nil, List.map_cons, List.map_append, List.map_replicate, List.cons_append]
  rw [show padZ n + 9 = (padZ n + 8) + 1 by omega, List.replicate_succ, List.set_cons_zero, List.replicate_append_replicate]

theorem slAt_blk {w : World} {g : Nat} {t : TypeId} {xs : List Int} {n cap : Nat} (h : Blk w g t .u8 xs) (hn : n = xs.length) (hc : n ≤ cap) : SlAt w (.slice (some ⟨g, 0, none⟩) n cap) xs := by
  subst hn
  refine ⟨_, cap, rfl, (fun h => by cases h), hc, fun ad had i hi => ?_⟩
  cases had
  refine ⟨rfl, h.lt, ?_⟩
  rw [addr_plain, Nat.zero_add, h.cell i hi]

set_option maxRecDepth 100000 in
set_option maxHeartbeats 400000 in
theorem end_ref (n : Nat) (w : World) : Calls Try.prog 19 #[.int .u64 n] w (EndSl n w) := by
  obtain ⟨i0, hi, hz0, hz1, hz2⟩ := info_parts Try.info5
  have hz : (119 - (n : Int) % 64) % 64 = (padZ n : Int) := by unfold padZ; omega
  have hp : padZ n ≤ 63 := by unfold padZ; omega
  have hmk : ∀ w : World, (Instr.makeSlice 28 (.int .u64 (1 + (padZ n : Int) + 8)) (.int .u64 (1 + (padZ n : Int) + 8))).run Try.prog w = .ok (.slice (some ⟨w.heap.size, 0, none⟩) (padZ n + 9) (padZ n + 9)) (w.alloc (.cells (madeCells #[.int .u8 0] (padZ n + 9)) 5)) := by
    intro w
    have h := run_make (P := Try.prog) w 28 5 i0 (.int .u8 0) Try.underlying28 hi hz0 .u64 .u64 (1 + (padZ n : Int) + 8) (1 + (padZ n : Int) + 8) (by omega) (by omega) (by rw [hz2]; omega) (by omega)
    rw [hz1] at h
    have e2 : (1 + (padZ n : Int) + 8).toNat = padZ n + 9 := by omega
    rw [e2] at h
    simpa [Value.cells] using h
  clear hz0 hz2
  have hm0 : (madeCells #[.int .u8 0] (padZ n + 9))[0]? = some (.int .u8 0) := by
    rw [← Array.getElem?_toList, toList_madeCells_one]; simp
  go_enter Try.func19, Try.ntmps19
  go_wp2_with fail
  rw [hz]
  clear hmk hm0 hz
  generalize (n : Int) % 64 = nr
  go_loopw [5] (fun i wr => ∃ k : Nat, k ≤ 8 ∧ i = .int .u64 (k : Int) ∧ Blk wr w.heap.size 5 .u8 (endZ n k) ∧ Below w.heap.size w wr) (fun i _ => 8 - (intOf i).toNat)
  case atStart => exact ⟨0, by omega, rfl, by rw [endZ_start]; exact Blk.new _ _ _ _, (Below.refl _ _).alloc (Nat.le_refl _) _⟩
  case round =>
    obtain ⟨k, hk, rfl, hb, hB⟩ := hrel
    by_cases hlt : k < 8
    · have hl := length_endZ n k hk
      have hc := hb.cell (1 + padZ n + k) (by omega)
      have hf := hb.free (1 + padZ n + k)
      have Hs := hide (hb.set (1 + padZ n + k) (lenByte n k))
      have HB := hide (hB.setCell (p := ⟨w.heap.size, 1 + padZ n + k, none⟩) (Nat.le_refl _) (.int .u8 (lenByte n k)))
      have hi1 : 1 + padZ n + k < padZ n + 9 := by omega
      clear hb hB hl
      go_wp2_with fail
      go_roundw
      case rel => exact ⟨k + 1, by omega, by go_num, by rw [← endZ_succ n k hlt]; exact Hs.out, HB.out⟩
      case measure => simp [intOf]; omega
    · obtain rfl : k = 8 := by omega
      have hsl : SlAt wr (.slice (some ⟨w.heap.size, 0, none⟩) (padZ n + 9) (padZ n + 9)) (endS n) := slAt_blk (by rw [show endS n = endZ n 8 by simp [endZ, endS]]; exact hb) (length_endS n).symm (Nat.le_refl _)
      have HSL := hide hsl
      have HB := hide hB
      clear hsl hb hB hlt hk
      go_wp2_with fail
      go_ret
      exact ⟨_, rfl, HSL.out, HB.out⟩
end Go.Proofs.Yteocienbfhgmjaa
