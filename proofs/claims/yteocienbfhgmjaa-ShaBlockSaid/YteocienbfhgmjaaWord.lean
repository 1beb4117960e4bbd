/- The function wordBytes of package sha: the bytes of a state. -/
import Derived.Test.YteocienbfhgmjaaProg
import Derived.Test.YteocienbfhgmjaaPlain
import Derived.Test.YteocienbfhgmjaaArr
import Derived.Test.YteocienbfhgmjaaSpread
import Derived.Test.YteocienbfhgmjaaTake
import Derived.WalkKit
import Derived.WalkSpells
import Derived.WalkLawsBesides
namespace Go.Proofs.Yteocienbfhgmjaa
open Go.RowKit

theorem zero36 (w : World) : (zeroValue 36).run Try.prog w = .ok (.agg (cellsOf .u8 zeros32)) w := by kernel_rfl
theorem size36 : (Try.prog.info? 36).map (·.size) = some 32 := by kernel_rfl
theorem sz36 (l : List Int) (h : l.length = 32) : (Try.prog.info? 36).map (·.size) = some (cellsOf .u8 l).size := by rw [size_cellsOf, h]; exact size36
theorem szZ32 (l : List Int) (h : l.length = 32) : (cellsOf .u8 zeros32).size = (cellsOf .u8 l).size := by rw [size_cellsOf, size_cellsOf, h]; rfl

set_option maxRecDepth 100000 in
set_option maxHeartbeats 1000000 in
theorem word_any (sv : List Int) (w : World) (hh : Hid (sv.length = 8)) :
    Calls Try.prog 38 #[.agg (cellsOf .u32 sv)] w (fun e w' => e = .returned (.agg (cellsOf .u8 (outS sv))) ∧ Below w.heap.size w w') := by
  go_enter Try.func38, Try.ntmps38
  go_wp2_with (first | (with_reducible refine wpList_alloc_row rfl 36 rfl (cellsOf .u8 zeros32) zero36 ?_) | (with_reducible refine wpList_load_row rfl 24 _ rfl w.heap.size rfl _ _ (0, 0) _ (heap3_0 _ _ _ _) Try.underlying24 rfl (sz24 sv hh.out) ?_))
  go_loopw [8] (fun i wr => ∃ k : Nat, k ≤ 8 ∧ i = .int .i64 k ∧ Blk wr (w.heap.size + 1 + 1) 36 .u8 (bytesTo sv (4 * k)) ∧ Blk wr (w.heap.size + 1) 36 .u8 zeros32 ∧ Below w.heap.size w wr)
    (fun i _ => 8 - (intOf i).toNat)
  case atStart => exact ⟨0, by omega, rfl, heap3_2 _ _ _ _, heap3_1 _ _ _ _, (((Below.refl _ _).alloc (Nat.le_refl _) _).alloc (by simp) _).alloc (by simp; omega) _⟩
  case round =>
    obtain ⟨k, hk, rfl, hw3, hw2, hB⟩ := hrel
    by_cases hlt : k < 8
    · have hix := run_index_cells (P := Try.prog) 24 23 8 .u32 .u32 Try.underlying24 Try.underlying23 size23 sv hh.out k hlt
      go_wp2_with fail
      clear hix
      obtain ⟨wo, hwo⟩ : ∃ wo, wo = wr := ⟨wr, rfl⟩
      subst hwo
      go_loopw [12] (fun i wr => ∃ j : Nat, j ≤ 4 ∧ i = .int .i64 j ∧ Blk wr (w.heap.size + 1 + 1) 36 .u8 (bytesTo sv (4 * k + j)) ∧ Blk wr (w.heap.size + 1) 36 .u8 zeros32 ∧ Below w.heap.size w wr)
        (fun i _ => 4 - (intOf i).toNat)
      case atStart => exact ⟨0, by omega, rfl, hw3, hw2, hB⟩
      case round =>
        clear hw3 hw2 hB wo
        obtain ⟨j, hj, rfl, hw3, hw2, hB⟩ := hrel
        by_cases hlt2 : j < 4
        · have hc := hw3.cell (4 * k + j) (by rw [length_bytesTo]; omega)
          have hf := hw3.free (4 * k + j)
          have Hs1 := hide (hw3.set (4 * k + j) (byteOf (nth sv k) j))
          have Hs2 := hide (hw2.other ⟨w.heap.size + 1 + 1, 4 * k + j, none⟩ (.int .u8 (byteOf (nth sv k) j)) (by simp))
          have HB := hide (hB.setCell (p := ⟨w.heap.size + 1 + 1, 4 * k + j, none⟩) (by show w.heap.size ≤ w.heap.size + 1 + 1; omega) (.int .u8 (byteOf (nth sv k) j)))
          clear hw3 hw2 hB
          go_wp2_with fail
          go_roundw
          case rel => exact ⟨j + 1, by omega, by go_num, by rw [← Nat.add_assoc, bytesTo_succ sv k j hlt2]; exact Hs1.out, Hs2.out, HB.out⟩
          case measure => simp [intOf]; omega
        · go_wp2_with fail
          go_roundw
          case rel => exact ⟨k + 1, by omega, by go_num, by rw [show 4 * (k + 1) = 4 * k + j from by omega]; exact hw3, hw2, hB⟩
          case measure => simp [intOf]; omega
    · have hw3' : Blk wr (w.heap.size + 1 + 1) 36 .u8 (outS sv) := by
        rw [outS, show 32 = 4 * k from by omega]; exact hw3
      clear hw3
      go_wp2_with (first | (with_reducible refine wpList_load_row rfl 36 (.tmp 3) rfl (w.heap.size + 1 + 1) rfl _ _ (0, 0) _ hw3'.row Try.underlying36 rfl (sz36 _ (length_outS sv)) ?_) | (with_reducible refine wpList_store_row rfl 36 (.tmp 2) (.tmp 28) rfl (w.heap.size + 1) _ rfl rfl _ _ hw2.row (sz36 _ (length_outS sv)) (szZ32 _ (length_outS sv)) (oneCell_cellsOf _ _) ?_))
      refine bodyPost_ret (v := .agg (cellsOf .u8 (outS sv))) (results_cell_row rfl _ _ (w.heap.size + 1) _ _ (0, 0) _ rfl (hw2.setRow (outS sv)).row Try.underlying36 rfl (sz36 _ (length_outS sv))) rfl ?_
      exact ⟨rfl, below_setRow hB (by omega) _⟩
end Go.Proofs.Yteocienbfhgmjaa
