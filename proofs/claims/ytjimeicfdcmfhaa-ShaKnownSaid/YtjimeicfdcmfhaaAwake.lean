/- The law's own function awake: it answers true. -/
import Derived.Test.YtjimeicfdcmfhaaProg
import Derived.Test.YtjimeicfdcmfhaaOf
import Derived.Test.YtjimeicfdcmfhaaGen
import Derived.Test.YtjimeicfdcmfhaaFirst
import Derived.Test.YtjimeicfdcmfhaaFrame
import Derived.Lib.SmallJoins
namespace Go.Proofs.Ytjimeicfdcmfhaa
open Go.RowKit

set_option maxRecDepth 100000 in
theorem abcSum : nth (sumS [97, 98, 99]) 0 = 186 ∧ nth (sumS [97, 98, 99]) 31 = 173 := by decide +kernel

theorem index_first (w : World) : (Instr.index 23 (.agg (cellsOf .u32 firstS)) (.int .i64 0)).run Try.prog w = .ok (.int .u32 1779033703) w :=
  run_index_cells 23 22 8 .u32 .u32 Try.underlying23 Try.underlying22 size23 firstS rfl 0 (by omega) w
theorem index_keys (w : World) : (Instr.index 43 (.agg (cellsOf .u32 keysS)) (.int .i64 0)).run Try.prog w = .ok (.int .u32 1116352408) w :=
  run_index_cells 43 22 64 .u32 .u32 Try.underlying43 Try.underlying22 size23 keysS rfl 0 (by omega) w
theorem len32 {X : List Int} (h : X.length = 32) : zeros32.length = X.length := h.symm
set_option maxRecDepth 100000 in
set_option maxHeartbeats 1000000 in
theorem awake_any (w : World) : Calls Try.prog 9 #[] w (LawPost w) := by
  have kc := fun (w : World) (C : Array Value) (n c g : Nat) (hg : g = w.heap.size) => Joins.run_convert_bytes_const_at (P := Try.prog) w 24 5 C n c g hg Try.underlying24 Try.underlying5
  go_enter Try.func9, Try.ntmps9
  go_wp2_with (with_reducible refine wpList_alloc_row rfl 31 rfl (cellsOf .u8 zeros32) zero36 ?_)
  have hB0 : Below w.heap.size w (((w.alloc (.cells #[.int .u8 97, .int .u8 98] 5 (2, 3))).alloc (.cells #[.int .u8 99] 5 (1, 2))).alloc (.cells #[.slice (some ⟨w.heap.size, 0, none⟩) 2 2, .slice (some ⟨w.heap.size + 1, 0, none⟩) 1 1] 24)) := (((Below.refl _ _).alloc (Nat.le_refl _) _).alloc (by simp) _).alloc (by simp; omega) _
  have hpa : PartsAt (((w.alloc (.cells #[.int .u8 97, .int .u8 98] 5 (2, 3))).alloc (.cells #[.int .u8 99] 5 (1, 2))).alloc (.cells #[.slice (some ⟨w.heap.size, 0, none⟩) 2 2, .slice (some ⟨w.heap.size + 1, 0, none⟩) 1 1] 24)) (w.heap.size + 1 + 1) 0 [[97, 98], [99]] :=
    parts_two ((cell_of_row _ _ 0 _ _ _ (heap3_2 _ _ _ _)).trans rfl) ((cell_of_row _ _ 1 _ _ _ (heap3_2 _ _ _ _)).trans rfl) (by simp) (slAt_lit (xs := [97, 98]) (heap3_0 _ _ _ _) (by simp)) (slAt_lit (xs := [99]) (heap3_1 _ _ _ _) (by simp))
  have HC := hide (of_any [[97, 98], [99]] (w.heap.size + 1 + 1) 0 2 _ hpa (by simp) (by simp) (by simp))
  clear hpa
  refine HC.out.mono ?_
  rintro e w1 ⟨rfl, hB1⟩
  replace hB0 := below_through hB1 hB0
  clear hB1 HC
  rw [show [[97, 98], [99]].flatten = ([97, 98, 99] : List Int) from rfl]
  obtain ⟨h0, h31⟩ := abcSum
  have hl : (sumS [97, 98, 99]).length = 32 := length_outS _
  generalize sumS [97, 98, 99] = X at h0 h31 hl ⊢
  have HL := hide hl
  clear hl
  go_wp2_with (first | (with_reducible refine wpList_alloc_row rfl 31 rfl (cellsOf .u8 zeros32) zero36 ?_) | (with_reducible refine wpList_store_blk rfl 31 (.tmp 1) (.tmp 7) rfl w1.heap.size .u8 X rfl rfl _ _ (Blk.new w1 31 .u8 zeros32) (sz36 X HL.out) (len32 HL.out) ?_))
  intro w2 hb2 hz2 hB2 hk2
  have hB3 : Below w.heap.size w w2 := (hB0.alloc hB0.size _).trans (hB2 _ hB0.size)
  clear hB2 hk2 hB0 hz2
  go_wp2_with fail
  refine (first_any _).mono ?_
  rintro e w3 ⟨rfl, hB⟩
  replace hb2 := hb2.below hB hb2.lt
  replace hB3 := below_through hB hB3
  clear hB
  have hix := index_first
  go_wp2_with fail
  clear hix
  refine (keys_any _).mono ?_
  rintro e w4 ⟨rfl, hB⟩
  replace hb2 := hb2.below hB hb2.lt
  replace hB3 := below_through hB hB3
  clear hB
  have c0 : w4.cell? ⟨w1.heap.size, 0, none⟩ = some (.int .u8 186) := (hb2.cell 0 (by rw [HL.out]; omega)).trans (by rw [h0])
  have c31 : w4.cell? ⟨w1.heap.size, 31, none⟩ = some (.int .u8 173) := (hb2.cell 31 (by rw [HL.out]; omega)).trans (by rw [h31])
  clear hb2
  have hix := index_keys
  go_wp2_with fail
  refine (end_sl 0 _).mono ?_
  rintro e w5 ⟨ap, rfl, _, hB⟩
  replace hB3 := below_through hB hB3
  clear hB hix c0 c31
  go_wp2_with fail
  go_ret
  exact ⟨rfl, hB3⟩
end Go.Proofs.Ytjimeicfdcmfhaa
