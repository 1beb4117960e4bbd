/- Of of package sha, without parts. -/
import Derived.Test.YtjimeicfdcmfhaaProg
import Derived.Test.YtjimeicfdcmfhaaOf
namespace Go.Proofs.Ytjimeicfdcmfhaa
open Go.RowKit

theorem more_nil (x : List Int) (ev : Value) (w : World) (he : SlAt w ev x) :
    Calls Try.prog 12 #[.slice (some ⟨w.heap.size + 1, 0, none⟩) 2 2] ((w.alloc (.cells #[ev] 24)).alloc (.cells #[.slice none 0 0, .slice (some ⟨w.heap.size, 0, none⟩) 1 1] 39))
      (MorePost2 [] x 1 ((w.alloc (.cells #[ev] 24)).alloc (.cells #[.slice none 0 0, .slice (some ⟨w.heap.size, 0, none⟩) 1 1] 39))) := by
  have hB : Below w.heap.size w ((w.alloc (.cells #[ev] 24)).alloc (.cells #[.slice none 0 0, .slice (some ⟨w.heap.size, 0, none⟩) 1 1] 39)) := ((Below.refl _ _).alloc (Nat.le_refl _) _).alloc (by simp) _
  have hrows : RowsAt ((w.alloc (.cells #[ev] 24)).alloc (.cells #[.slice none 0 0, .slice (some ⟨w.heap.size, 0, none⟩) 1 1] 39)) (w.heap.size + 1) 0 [[], [ev]] := by
    refine ⟨by simp, fun i hi => ?_⟩
    have h : i = 0 ∨ i = 1 := by simp at hi; omega
    rcases h with rfl | rfl
    · exact ⟨_, (cell_of_row _ _ 0 _ _ _ (heap_alloc2_new _ _ _)).trans rfl, none, 0, by simp [partG], (fun _ => by simp [partG]), by simp [partG], fun ad had => by cases had⟩
    · refine ⟨_, (cell_of_row _ _ 1 _ _ _ (heap_alloc2_new _ _ _)).trans rfl, some ⟨w.heap.size, 0, none⟩, 1, by simp [partG], (fun h => by cases h), by simp [partG], fun ad had i u hu => ?_⟩
      cases had
      have hi0 : i = 0 := by
        rcases Nat.eq_zero_or_pos i with h | h
        · exact h
        · rw [show partG [[], [ev]] 1 = [ev] from rfl, List.getElem?_eq_none (by simp; omega)] at hu; cases hu
      subst hi0
      have hu2 : some ev = some u := hu
      cases hu2
      refine ⟨by simp; omega, ?_⟩
      rw [addr_plain]
      exact (cell_of_row _ _ 0 _ _ _ (heap_alloc2_old _ _ _)).trans rfl
  have hone : ∀ q ∈ ([[], [ev]] : List (List Value)), ∀ u ∈ q, u.oneCell' = true := by
    intro q hq u hu
    simp at hq
    rcases hq with rfl | rfl
    · cases hu
    · simp at hu
      subst hu
      exact he.one
  have hc := concat_rows [[], [ev]] (w.heap.size + 1) 0 2 _ hrows (by simp) (by simp) (by simp) hone
  rw [show ([[], [ev]] : List (List Value)).flatten = [ev] from by simp] at hc
  refine hc.mono ?_
  rintro e w' ⟨cap, rfl, hown, hBB⟩
  refine ⟨_, cap, rfl, ⟨(hown.lt _ rfl).2, fun i hi => ?_⟩, hBB⟩
  have hi0 : i = 0 := by simp at hi; omega
  subst hi0
  refine ⟨ev, ?_, he.below (hB.trans (hBB.mono hB.size))⟩
  have := hown.cellAt 0 (by simp)
  exact this

set_option maxRecDepth 100000 in
set_option maxHeartbeats 1000000 in
theorem of_nil (w : World) : Calls Try.prog 7 #[.slice none 0 0] w (fun e w' => e = .returned (.agg (cellsOf .u8 (sumS []))) ∧ Below w.heap.size w w') := by
  go_enter Try.func7, Try.ntmps7
  go_wp2_with (with_reducible refine wpList_alloc_row rfl 31 rfl (cellsOf .u8 zeros32) zero36 ?_)
  go_loop [3, 10] (fun s i => i = .int .i64 0 ∧ s = .int .u64 0) (fun _ _ => 0)
  case atStart => exact ⟨rfl, rfl⟩
  case round =>
    obtain ⟨rfl, rfl⟩ := hrel
    go_wp2_with fail
    refine (first_any _).mono ?_
    rintro e w1 ⟨rfl, hB1⟩
    have HZ1 := hide (blk_through hB1 (Blk.new w 31 .u8 zeros32))
    have HB1 : Hid (Below w.heap.size w w1) := hide (below_through hB1 ((Below.refl _ _).alloc (Nat.le_refl _) _))
    clear hB1
    go_wp2_with fail
    refine (end_sl 0 _).mono ?_
    rintro e w2 ⟨ap, rfl, hsl, hB2⟩
    have HZ2 := hide (blk_through hB2 HZ1.out)
    have HB2 : Hid (Below w.heap.size w w2) := hide (below_through hB2 HB1.out)
    clear hB2
    go_wp2_with fail
    have hBs : Below w.heap.size w ((w2.alloc (.cells #[.slice ap (padZ 0 + 9) (padZ 0 + 9)] 24)).alloc (.cells #[.slice none 0 0, .slice (some ⟨w2.heap.size, 0, none⟩) 1 1] 39)) := (HB2.out.alloc HB2.out.size _).alloc (by have := HB2.out.size; simp; omega) _
    have hZs := (HZ2.out.alloc (.cells #[.slice ap (padZ 0 + 9) (padZ 0 + 9)] 24)).alloc (.cells #[.slice none 0 0, .slice (some ⟨w2.heap.size, 0, none⟩) 1 1] 39)
    have HB3 := hide hBs
    have HZ3 := hide hZs
    clear hBs hZs
    refine (more_nil (endS 0) _ w2 hsl).mono ?_
    rintro e w3 ⟨g, cq, rfl, hpa, hB4⟩
    have HZ4 := hide (blk_through hB4 HZ3.out)
    have HB4 : Hid (Below w.heap.size w w3) := hide (below_through hB4 HB3.out)
    clear hB4 hsl
    have hc := blocks_own firstS [endS 0] g 0 cq w3 rfl hpa (by simp) (by simp [length_endS, padZ])
    rw [show [endS 0].flatten = endS 0 from by simp, show [endS 0].length = 1 from rfl] at hc
    have HC := hide hc
    clear hc hpa
    go_wp2_with fail
    refine HC.out.mono ?_
    rintro e w5 ⟨aq, cr, rfl, hxx, hB5⟩
    clear hxx
    have HZ5 := hide (blk_through hB5 HZ4.out)
    have HB5 : Hid (Below w.heap.size w w5) := hide (below_through hB5 HB4.out)
    clear hB5
    obtain ⟨st, hst⟩ : ∃ st, st = stAt firstS (endS 0) ((endS 0).length / 64) := ⟨_, rfl⟩
    have hl8 : st.length = 8 := by rw [hst]; exact length_stAt _ _ rfl _
    rw [← hst]
    have HST := hide hst
    generalize (endS 0).length % 64 = q
    clear hst
    obtain ⟨b0, b1, b2, b3, b4, b5, b6, b7, rfl⟩ := list8 hl8
    clear hl8
    rw [show cellsOf .u32 [b0, b1, b2, b3, b4, b5, b6, b7] = #[.int .u32 b0, .int .u32 b1, .int .u32 b2, .int .u32 b3, .int .u32 b4, .int .u32 b5, .int .u32 b6, .int .u32 b7] from rfl]
    go_wp2_with fail
    refine (word_any [b0, b1, b2, b3, b4, b5, b6, b7] _ (hide rfl)).mono ?_
    rintro e wD ⟨rfl, hBD⟩
    have hZD : Blk wD w.heap.size 31 .u8 zeros32 := blk_through hBD (HZ5.out.alloc _)
    have hBE : Below w.heap.size w wD := below_through hBD (HB5.out.alloc HB5.out.size _)
    clear hBD
    go_wp2_with (with_reducible refine wpList_store_row rfl 31 (.tmp 2) (.tmp 32) rfl w.heap.size _ rfl rfl _ _ hZD.row (sz36 _ (length_outS _)) (szZ32 _ (length_outS _)) (oneCell_cellsOf _ _) ?_)
    refine bodyPost_ret (v := .agg (cellsOf .u8 (outS [b0, b1, b2, b3, b4, b5, b6, b7]))) (results_cell_row rfl _ _ w.heap.size _ _ (0, 0) _ rfl (hZD.setRow (outS [b0, b1, b2, b3, b4, b5, b6, b7])).row Try.underlying31 rfl (sz36 _ (length_outS _))) rfl ?_
    exact ⟨by rw [HST.out, sumS]; rfl, below_setRow hBE (by omega) _⟩
end Go.Proofs.Ytjimeicfdcmfhaa
