/- Block of package sha: its contract. -/
import Derived.Test.YteocienbfhgmjaaProg
import Derived.Test.YteocienbfhgmjaaBlocks2
namespace Go.Proofs.Yteocienbfhgmjaa
open Go.RowKit

theorem parts_one {w : World} {b : Nat} {sv : Value} {xs : List Int} (hc : w.cell? ⟨b, 0, none⟩ = some sv) (hlt : b < w.heap.size) (hs : SlAt w sv xs) : PartsAt w b 0 [xs] := by
  refine ⟨hlt, fun i hi => ?_⟩
  have h0 : i = 0 := by simp at hi; omega
  subst h0
  exact ⟨sv, hc, hs⟩

theorem SlAt.len {w : World} {v : Value} {xs : List Int} (h : SlAt w v xs) : ∃ ao cap, v = .slice ao xs.length cap := by
  obtain ⟨ao, cap, hv, _⟩ := h
  exact ⟨ao, cap, hv⟩

set_option maxRecDepth 100000 in
set_option maxHeartbeats 1000000 in
theorem block_bad (sv bs : List Int) (v : Value) (w : World) (hs : SlAt w v bs) (hl : bs.length ≠ 64) :
    Calls Try.prog 17 #[.agg (cellsOf .u32 sv), v] w (fun e w' => e = .returned (.tuple #[.agg (cellsOf .u32 zeros8), .int .i64 1]) ∧ Below w.heap.size w w') := by
  obtain ⟨ao, cap, rfl⟩ := hs.len
  clear hs
  generalize bs.length = n at hl ⊢
  have hne : ((n : Int) == 64) = false := by rw [beq_eq_false_iff_ne]; omega
  have hne2 : ((n : Int) != 64) = true := by rw [bne_iff_ne]; omega
  clear hl
  go_enter Try.func17, Try.ntmps17
  go_wp2_with (first | (with_reducible refine wpList_alloc_row rfl 24 rfl (cellsOf .u32 zeros8) zero24 ?_) | (refine wpList_store_row rfl 24 (.tmp 4) (.tmp 9) rfl (w.heap.size + 1) (cellsOf .u32 zeros8) rfl rfl _ _ (heap_alloc2_new _ _ _) (sz24 zeros8 rfl) rfl (oneCell_cellsOf _ _) ?_))
  have hb1 : Blk ((w.alloc (.cells (cellsOf .u32 sv) 24)).alloc (.cells (cellsOf .u32 zeros8) 24)) (w.heap.size + 1) 24 .u32 zeros8 := heap_alloc2_new _ _ _
  refine bodyPost_ret (results_cell_tmp rfl _ _ (w.heap.size + 1) _ _ (0, 0) _ rfl (hb1.setRow zeros8).row Try.underlying24 rfl (sz24 zeros8 rfl)) rfl ?_
  exact ⟨rfl, below_setRow (((Below.refl _ _).alloc (Nat.le_refl _) _).alloc (by simp) _) (by omega) _⟩

set_option maxRecDepth 100000 in
set_option maxHeartbeats 1000000 in
theorem block_good (sv bs : List Int) (v : Value) (w : World) (hv : sv.length = 8) (hs : SlAt w v bs) (hl : bs.length = 64) :
    Calls Try.prog 17 #[.agg (cellsOf .u32 sv), v] w (fun e w' => e = .returned (.tuple #[.agg (cellsOf .u32 (takeS sv keysS bs)), .int .i64 0]) ∧ Below w.heap.size w w') := by
  obtain ⟨ao, cap, rfl⟩ := hs.len
  have HS := hide hs
  have HL := hide hl
  rw [hl]
  rw [hl] at HS
  clear hs hl
  go_enter Try.func17, Try.ntmps17
  have hsz := hide (sz24 sv hv)
  go_wp2_with (first | (with_reducible refine wpList_alloc_row rfl 24 rfl (cellsOf .u32 zeros8) zero24 ?_) | (with_reducible refine wpList_load_row rfl 24 (.tmp 2) rfl w.heap.size rfl _ _ (0, 0) _ (heap_alloc2_old _ _ _) Try.underlying24 rfl (hsz.out) ?_))
  have hB0 : Below w.heap.size w (((w.alloc (.cells (cellsOf .u32 sv) 24)).alloc (.cells (cellsOf .u32 zeros8) 24)).alloc (.cells #[.slice ao 64 cap] 28)) := (((Below.refl _ _).alloc (Nat.le_refl _) _).alloc (by simp) _).alloc (by simp; omega) _
  have hb0 : Blk (((w.alloc (.cells (cellsOf .u32 sv) 24)).alloc (.cells (cellsOf .u32 zeros8) 24)).alloc (.cells #[.slice ao 64 cap] 28)) w.heap.size 24 .u32 sv := heap3_0 _ _ _ _
  have hb1 : Blk (((w.alloc (.cells (cellsOf .u32 sv) 24)).alloc (.cells (cellsOf .u32 zeros8) 24)).alloc (.cells #[.slice ao 64 cap] 28)) (w.heap.size + 1) 24 .u32 zeros8 := heap3_1 _ _ _ _
  have hpa : PartsAt (((w.alloc (.cells (cellsOf .u32 sv) 24)).alloc (.cells (cellsOf .u32 zeros8) 24)).alloc (.cells #[.slice ao 64 cap] 28)) (w.heap.size + 1 + 1) 0 [bs] :=
    parts_one ((cell_of_row _ _ 0 _ _ _ (heap3_2 _ _ _ _)).trans rfl) (by simp) (HS.out.below hB0)
  have hfl : [bs].flatten = bs := by simp
  have hc := blocks_own sv [bs] (w.heap.size + 1 + 1) 0 1 _ hv hpa (by simp) (by rw [hfl, HL.out]; omega)
  rw [hfl] at hc
  have HC := hide hc
  clear hc hpa hfl
  refine HC.out.mono ?_
  rintro e w1 ⟨ap, cq, rfl, hxx, hB1⟩
  clear hxx
  have hst : Hid (stAt sv bs (bs.length / 64) = takeS sv keysS bs) := hide (by rw [HL.out, stAt, stAt, Nat.mul_zero, List.drop_zero, List.take_of_length_le (by rw [HL.out]; omega)])
  rw [hst.out]
  replace hb0 := hb0.below hB1 hb0.lt
  replace hb1 := hb1.below hB1 hb1.lt
  replace hB0 := hB0.trans (hB1.mono hB0.size)
  have htl : Hid ((takeS sv keysS bs).length = 8) := hide ((length_takeS _ _ _).trans hv)
  have HV := hide hv
  obtain ⟨res, hres⟩ : ∃ res, res = takeS sv keysS bs := ⟨_, rfl⟩
  rw [← hres] at htl ⊢
  have HRES := hide hres
  generalize bs.length % 64 = q
  clear hB1 HC hst HS HL hv hres
  go_wp2_with ((with_reducible refine wpList_store_blk rfl 24 (.tmp 2) (.tmp 15) rfl w.heap.size .u32 res rfl rfl _ _ hb0 (sz24 _ htl.out) (HV.out.trans htl.out.symm) ?_))
  intro w2 hb2 hz2 hB2 hk2
  replace hb1 := hb1.kept hk2 (by omega)
  replace hB0 := hB0.trans (hB2 _ (Nat.le_refl _))
  clear hB2 hk2 hz2 hb0 w1
  go_wp2_with (first | (with_reducible refine wpList_load_row rfl 24 (.tmp 2) rfl w.heap.size rfl _ _ (0, 0) _ hb2.row Try.underlying24 rfl (sz24 res htl.out) ?_) | (with_reducible refine wpList_store_row rfl 24 (.tmp 4) (.tmp 17) rfl (w.heap.size + 1) _ rfl rfl _ _ hb1.row (sz24 res htl.out) (szZ8 res htl.out) (oneCell_cellsOf _ _) ?_))
  refine bodyPost_ret (results_cell_tmp rfl _ _ (w.heap.size + 1) _ _ (0, 0) _ rfl (hb1.setRow res).row Try.underlying24 rfl (sz24 res htl.out)) rfl ?_
  exact ⟨by rw [← HRES.out]; rfl, below_setRow hB0 (by omega) _⟩
end Go.Proofs.Yteocienbfhgmjaa
