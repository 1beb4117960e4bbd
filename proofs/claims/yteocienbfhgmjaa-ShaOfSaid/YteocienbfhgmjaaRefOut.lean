/- The document's out of layer 1: the bytes of a state. -/
import Derived.Test.YteocienbfhgmjaaProg
import Derived.Test.YteocienbfhgmjaaWord
namespace Go.Proofs.Yteocienbfhgmjaa
open Go.RowKit

theorem bytesTo_four (sv : List Int) (k : Nat) (x : Int) (hx : x = nth sv k) : ((((bytesTo sv (4 * k)).set (4 * k) (x / 16777216 % 256)).set (4 * k + 1) (x / 65536 % 256)).set (4 * k + 2) (x / 256 % 256)).set (4 * k + 3) (x % 256) = bytesTo sv (4 * (k + 1)) := by
  rw [show 4 * (k + 1) = 4 * k + 3 + 1 by omega, bytesTo_succ _ _ _ (by omega), bytesTo_succ _ _ 2 (by omega), bytesTo_succ _ _ 1 (by omega), show 4 * k + 0 + 1 = 4 * k + 1 by rfl, show bytesTo sv (4 * k + 1) = _ from bytesTo_succ sv k 0 (by omega), ← hx]
  simp [byteOf]

set_option maxRecDepth 100000 in
set_option maxHeartbeats 400000 in
theorem out_ref (sv : List Int) (w : World) (hh : Hid (sv.length = 8)) :
    Calls Try.prog 39 #[.agg (cellsOf .u32 sv)] w (fun e w' => e = .returned (.agg (cellsOf .u8 (outS sv))) ∧ Below w.heap.size w w') := by
  go_enter Try.func39, Try.ntmps39
  go_wp2_with (first | (with_reducible refine wpList_alloc_row rfl 36 rfl (cellsOf .u8 zeros32) zero36 ?_))
  go_loopw [4] (fun i wr => ∃ k : Nat, k ≤ 8 ∧ i = .int .i64 k ∧ Blk wr (w.heap.size + 1 + 1) 36 .u8 (bytesTo sv (4 * k)) ∧ Blk wr (w.heap.size + 1) 36 .u8 zeros32 ∧ Blk wr w.heap.size 24 .u32 sv ∧ Below w.heap.size w wr)
    (fun i _ => 8 - (intOf i).toNat)
  case atStart => exact ⟨0, by omega, rfl, heap3_2 _ _ _ _, heap3_1 _ _ _ _, heap3_0 _ _ _ _, (((Below.refl _ _).alloc (Nat.le_refl _) _).alloc (by simp) _).alloc (by simp; omega) _⟩
  case round =>
    obtain ⟨k, hk, rfl, hw3, hw2, hw1, hB⟩ := hrel
    by_cases hlt : k < 8
    · have hc0 := hw1.cell k (by rw [hh.out]; exact hlt)
      obtain ⟨x, hx⟩ : ∃ x, x = nth sv k := ⟨_, rfl⟩
      rw [← hx] at hc0
      have d0 := hw3.cell (4 * k) (by rw [length_bytesTo]; omega)
      have f0 := hw3.free (4 * k)
      have d1 := hw3.cell (4 * k + 1) (by rw [length_bytesTo]; omega)
      have f1 := hw3.free (4 * k + 1)
      have d2 := hw3.cell (4 * k + 2) (by rw [length_bytesTo]; omega)
      have f2 := hw3.free (4 * k + 2)
      have d3 := hw3.cell (4 * k + 3) (by rw [length_bytesTo]; omega)
      have f3 := hw3.free (4 * k + 3)
      have HX := hide hx
      have H3 := hide hw3
      have H2 := hide hw2
      have H1 := hide hw1
      have HB := hide hB
      clear hx hw3 hw2 hw1 hB
      go_wp2_with fail
      have HD := hide (((((H3.out.set (4 * k) (x / 16777216 % 256)).set (4 * k + 1) (x / 65536 % 256)).set (4 * k + 2) (x / 256 % 256)).set (4 * k + 3) (x % 256)))
      go_roundw
      case rel =>
        refine ⟨k + 1, by omega, by go_num, by rw [← bytesTo_four sv k x HX.out]; exact HD.out, ?_, ?_, ?_⟩
        · exact ((((H2.out.other _ _ (by simp)).other _ _ (by simp)).other _ _ (by simp)).other _ _ (by simp))
        · exact ((((H1.out.other _ _ (by simp; omega)).other _ _ (by simp; omega)).other _ _ (by simp; omega)).other _ _ (by simp; omega))
        · exact ((((HB.out.setCell (by simp; omega) _).setCell (by simp; omega) _).setCell (by simp; omega) _).setCell (by simp; omega) _)
      case measure => simp [intOf]; omega
    · have hw3' : Blk wr (w.heap.size + 1 + 1) 36 .u8 (outS sv) := by
        rw [outS, show 32 = 4 * k from by omega]; exact hw3
      clear hw3 hw1
      go_wp2_with (first | (with_reducible refine wpList_load_row rfl 36 (.tmp 3) rfl (w.heap.size + 1 + 1) rfl _ _ (0, 0) _ hw3'.row Try.underlying36 rfl (sz36 _ (length_outS sv)) ?_) | (with_reducible refine wpList_store_row rfl 36 (.tmp 2) (.tmp 43) rfl (w.heap.size + 1) _ rfl rfl _ _ hw2.row (sz36 _ (length_outS sv)) (szZ32 _ (length_outS sv)) (oneCell_cellsOf _ _) ?_))
      refine bodyPost_ret (v := .agg (cellsOf .u8 (outS sv))) (results_cell_row rfl _ _ (w.heap.size + 1) _ _ (0, 0) _ rfl (hw2.setRow (outS sv)).row Try.underlying36 rfl (sz36 _ (length_outS sv))) rfl ?_
      exact ⟨rfl, below_setRow hB (by omega) _⟩
end Go.Proofs.Yteocienbfhgmjaa
