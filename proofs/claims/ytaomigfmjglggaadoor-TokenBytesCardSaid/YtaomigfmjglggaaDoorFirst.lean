/- First and Keys of package sha: their contracts. -/
import Derived.RangeFuncNested
import Derived.RangeFuncBound
import Derived.RangeFuncCalls
import Derived.RangeFuncLeaves
import Derived.Shelf.Abstract
import Derived.Shelf.RegionOpen
import Derived.WalkKit
import Derived.OwnWalkIn
import Derived.TacticsInMore
import Derived.LoopNIn
import Derived.LoopIn
import Derived.Test.YtaomigfmjglggaaDoorProg
import Derived.Test.YtaomigfmjglggaaDoorBase
import Derived.Test.YtaomigfmjglggaaDoorRoots
import Derived.Test.YtaomigfmjglggaaDoorRoots2
import Derived.Test.YtaomigfmjglggaaDoorTake
import Derived.Deep.RegionHeld
namespace Go.Proofs.YtaomigfmjglggaaDoor
open Go.RowKit Go.Shelf
attribute [local go_sem] Oper.semAt_some

/-- What the places hold behind some primes. -/
def fillR (root : Nat → Nat) (z : List Int) (pre : List (Nat × Nat)) : List Int := pre.foldl (fun l x => l.set x.1 ((root x.2 : Nat) : Int)) z
theorem fillR_snoc (root : Nat → Nat) (z : List Int) (pre : List (Nat × Nat)) (x : Nat × Nat) : fillR root z (pre ++ [x]) = (fillR root z pre).set x.1 ((root x.2 : Nat) : Int) := by simp [fillR]
theorem length_fillR (root : Nat → Nat) (z : List Int) (pre : List (Nat × Nat)) : (fillR root z pre).length = z.length := by
  induction pre generalizing z with
  | nil => rfl
  | cons x pre ih => exact (ih _).trans (List.length_set ..)
theorem fill_first : fillR sqRoot zeros8 (placed ((primesTo 312).take 8)) = firstS := by decide +kernel
theorem fill_keys : fillR cbRoot zeros64 (placed ((primesTo 312).take 64)) = keysS := by decide +kernel
theorem length_firstS : firstS.length = 8 := rfl
theorem length_keysS : keysS.length = 64 := rfl

set_option maxRecDepth 100000 in
theorem primes_any (m : Int) (w : World) :
    Calls Tryd.prog 103 #[.int .i64 m] w fun e w' => e = .returned (.func (.func 112) #[] #[.pointer (some ⟨w.heap.size, 0, none⟩)]) ∧ w.alloc (.cells #[.int .i64 m] 3) = w' := by
  go_enter Tryd.func103, Tryd.ntmps103
  go_wp2
  go_ret
  exact ⟨rfl, rfl⟩

set_option maxRecDepth 100000 in
set_option maxHeartbeats 1000000 in
theorem first_any (w : World) : Calls Tryd.prog 88 #[] w fun e w' => e = .returned (.agg (cellsOf .u32 firstS)) ∧ Below w.heap.size w w' := by
  refine (callsIn_wide (n := 3)).1 ?_
  refine callsIn_of_wp_marks Tryd.func88 rfl trivial ?_ rfl
  simp only [Tryd.ntmps88, List.size_toArray, List.length_nil, Nat.reduceSub, Array.replicate_succ, Array.replicate_zero, List.push_toArray, List.append_toArray, List.nil_append, List.cons_append]
  gi_wp2_with (with_reducible refine wpListIn_alloc_row rfl 124 rfl (cellsOf .u32 zeros8) zero24 ?_)
  refine ⟨trivial, ?_⟩
  refine (callsIn_wide.2 (primes_any 8 _)).mono ?_
  rintro e w' ⟨rfl, hw'⟩
  have h0 : Blk w' w.heap.size 124 .u32 zeros8 := by rw [← hw']; exact heap3_0 _ _ _ _
  have h1 : Blk w' (w.heap.size + 1) 124 .u32 zeros8 := by rw [← hw']; exact heap3_1 _ _ _ _
  have h2 : w'.cell? ⟨w.heap.size + 1 + 1, 0, none⟩ = some (.int .i64 8) := by rw [← hw']; exact (cell_of_row _ _ 0 _ _ _ (heap3_2 _ _ _ _)).trans rfl
  have hB0 : Below w.heap.size w w' := by rw [← hw']; exact (((Below.refl _ _).alloc (Nat.le_refl _) _).alloc (by simp) _).alloc (by simp; omega) _
  have hsz : w.heap.size + 1 + 1 < w'.heap.size := by rw [← hw']; simp
  clear hw'
  gi_wp2_with fail
  refine wpIn_rangeFunc_ownF rfl (by omega) (gf := 112) (lb := #[.pointer (some ⟨w.heap.size + 1 + 1, 0, none⟩)]) rfl trivial (enters_of Tryd.func112 (by kernel_rfl) rfl)
    (primes_stops 8 (by omega) (w.heap.size + 1 + 1) w' hsz h2) kpB_t (kpB_b hsz) (Below.refl _ _) (fun _ => rfl)
    (fun pre W => (Blk W (w.heap.size + 1) 124 .u32 (fillR sqRoot zeros8 (pre.map Subtype.val)) ∧ Blk W w.heap.size 124 .u32 zeros8 ∧ W.cell? ⟨w.heap.size + 1 + 1, 0, none⟩ = some (.int .i64 8)) ∧ Below w.heap.size w W)
    (fun _ _ _ => False)
    (OwnFrom.and (OwnFrom.and (Own.from (blk_own _ _ _ (fun pre : List (PR 8) => fillR sqRoot zeros8 (pre.map Subtype.val))) _) (OwnFrom.and (Own.from (blk_own _ _ _ (fun _ : List (PR 8) => zeros8)) _) (Own.from (fun _ _ _ _ hs hg hr => cell_kept hs hg hr) _))) (ownFrom_below (Nat.le_refl _) (by omega)))
    (fun _ _ _ _ _ hs _ _ => hs)
    ⟨⟨h1, h0, h2⟩, hB0⟩
    (fun x => { tmps := #[.pointer (some ⟨w.heap.size, 0, none⟩), .pointer (some ⟨w.heap.size + 1, 0, none⟩), .int .i64 (x.1.1 : Int), .int .u32 (x.1.2 : Int), .func (.func 112) #[] #[.pointer (some ⟨w.heap.size + 1 + 1, 0, none⟩)], .int .i64 (x.1.1 : Int), .int .u32 (x.1.2 : Int), undef, undef, undef, undef, undef], defers := [] }) ?assign ?body ?done ?stop
  case assign =>
    intro l x W K hK
    simp only [encP]
    gi_wp2
    exact hK
  case body =>
    rintro l pre x W ⟨⟨hb1, hb0, hb2⟩, hB⟩ _
    gi_wp2_with fail
    refine ⟨trivial, ?_⟩
    refine (CallsIn.inRound l (callsIn_wide.2 (sqBits_any x.1.2 W x.2.2))).mono ?_
    rintro e w3 ⟨rfl, hB3⟩
    have hb1' := hb1.below hB3 hb1.lt
    have hb0' := hb0.below hB3 hb0.lt
    have hlt2 := block_lt_of_cell hb2
    have Hc2 := hide ((World.cell?_setCell_far w3 ⟨w.heap.size + 1, x.1.1, none⟩ ⟨w.heap.size + 1 + 1, 0, none⟩ (.int .u32 ((sqRoot x.1.2 : Nat) : Int)) (by simp)).trans ((hB3.cell (p := ⟨w.heap.size + 1 + 1, 0, none⟩) hlt2).trans hb2))
    have HKP := hide (show KpB (w.heap.size + 1 + 1) W (w3.setCell ⟨w.heap.size + 1, x.1.1, none⟩ (.int .u32 ((sqRoot x.1.2 : Nat) : Int))) from (Below.heap_setCell _ _ _ _ (by simp)).trans (hB3.block _ hlt2))
    have hlen : (fillR sqRoot zeros8 (pre.map Subtype.val)).length = 8 := (length_fillR _ _ _).trans rfl
    have hx8 : ((x.1.1 : Nat) : Int) < 8 := by have := x.2.1; omega
    have hc := hb1'.cell x.1.1 (by rw [hlen]; exact x.2.1)
    have hf := hb1'.free x.1.1
    have Hs1 := hide (hb1'.set x.1.1 ((sqRoot x.1.2 : Nat) : Int))
    have Hs0 := hide (hb0'.other ⟨w.heap.size + 1, x.1.1, none⟩ (.int .u32 ((sqRoot x.1.2 : Nat) : Int)) (by simp))
    have HB := hide ((hB.trans (hB3.mono (by have := hb0.lt; omega))).setCell (p := ⟨w.heap.size + 1, x.1.1, none⟩) (by show w.heap.size ≤ w.heap.size + 1; omega) (.int .u32 ((sqRoot x.1.2 : Nat) : Int)))
    have HK := hide ((keepsOthers_of_below hB3).trans (KeepsOthers.setCell w3 ⟨w.heap.size + 1, x.1.1, none⟩ (.int .u32 ((sqRoot x.1.2 : Nat) : Int))))
    clear hb1 hb0 hb2 hlt2 hb1' hb0' hlen hB
    gi_wp2_with fail
    exact ⟨HK.out, HKP.out, ⟨by rw [List.map_append, List.map_cons, List.map_nil, fillR_snoc]; exact Hs1.out, Hs0.out, Hc2.out⟩, HB.out⟩
  case done =>
    rintro D ys W hD hys ⟨⟨hb1, hb0, hb2⟩, hB⟩ hK
    have hb1' : Blk W (w.heap.size + 1) 124 .u32 firstS := by rw [← fill_first, ← hys]; exact hb1
    have hDB : D ≠ w.heap.size := by omega
    have hK' : (W.setRow w.heap.size (cellsOf .u32 firstS)).heap[D]? = some (.deferred (some [])) := by rw [_root_.Go.setRow_other _ _ _ _ hDB]; exact hK
    have HR := hide ((World.putObj_heap_other (o := .deferred none) (Ne.symm hDB)).trans (hb0.setRow firstS).row)
    have HBL := hide ((below_setRow hB (Nat.le_refl _) (cellsOf .u32 firstS)).trans (belowK_b (w := w) (Nat.le_refl _) _ D _ (.deferred none) (by omega) hK' rfl rfl))
    have HK := hide hK'
    clear hys hb1 hb2 hK' hK hDB
    gi_wp2_with (first | (with_reducible refine wpListIn_load_row rfl 124 (.tmp 1) rfl (w.heap.size + 1) rfl _ _ (0, 0) _ hb1'.row Tryd.underlying124 rfl (sz24 firstS length_firstS) ?_) | (with_reducible refine wpListIn_store_row rfl 124 (.tmp 0) (.tmp 11) rfl w.heap.size _ rfl rfl _ _ hb0.row (sz24 firstS length_firstS) (szZ8 firstS length_firstS) (oneCell_cellsOf _ _) ?_))
    refine ⟨by simp, .inl ⟨_, _, rfl, run_takeDeferred HK.out, ?_⟩⟩
    exact ⟨_, results_cell_row rfl _ _ w.heap.size _ _ (0, 0) _ rfl HR.out Tryd.underlying124 rfl (sz24 firstS length_firstS), rfl, HBL.out⟩
  case stop =>
    rintro D c pre W _ _ h _
    exact h.elim
end Go.Proofs.YtaomigfmjglggaaDoor
namespace Go.Proofs.YtaomigfmjglggaaDoor
open Go.RowKit Go.Shelf
attribute [local go_sem] Oper.semAt_some

theorem szZ64 (l : List Int) (h : l.length = 64) : (cellsOf .u32 zeros64).size = (cellsOf .u32 l).size := by rw [size_cellsOf, size_cellsOf, h]; rfl

set_option maxRecDepth 100000 in
set_option maxHeartbeats 1000000 in
theorem keys_any (w : World) : Calls Tryd.prog 101 #[] w fun e w' => e = .returned (.agg (cellsOf .u32 keysS)) ∧ Below w.heap.size w w' := by
  refine (callsIn_wide (n := 3)).1 ?_
  refine callsIn_of_wp_marks Tryd.func101 rfl trivial ?_ rfl
  simp only [Tryd.ntmps101, List.size_toArray, List.length_nil, Nat.reduceSub, Array.replicate_succ, Array.replicate_zero, List.push_toArray, List.append_toArray, List.nil_append, List.cons_append]
  gi_wp2_with (with_reducible refine wpListIn_alloc_row rfl 141 rfl (cellsOf .u32 zeros64) zero26 ?_)
  refine ⟨trivial, ?_⟩
  refine (callsIn_wide.2 (primes_any 64 _)).mono ?_
  rintro e w' ⟨rfl, hw'⟩
  have h0 : Blk w' w.heap.size 141 .u32 zeros64 := by rw [← hw']; exact heap3_0 _ _ _ _
  have h1 : Blk w' (w.heap.size + 1) 141 .u32 zeros64 := by rw [← hw']; exact heap3_1 _ _ _ _
  have h2 : w'.cell? ⟨w.heap.size + 1 + 1, 0, none⟩ = some (.int .i64 64) := by rw [← hw']; exact (cell_of_row _ _ 0 _ _ _ (heap3_2 _ _ _ _)).trans rfl
  have hB0 : Below w.heap.size w w' := by rw [← hw']; exact (((Below.refl _ _).alloc (Nat.le_refl _) _).alloc (by simp) _).alloc (by simp; omega) _
  have hsz : w.heap.size + 1 + 1 < w'.heap.size := by rw [← hw']; simp
  clear hw'
  gi_wp2_with fail
  refine wpIn_rangeFunc_ownF rfl (by omega) (gf := 112) (lb := #[.pointer (some ⟨w.heap.size + 1 + 1, 0, none⟩)]) rfl trivial (enters_of Tryd.func112 (by kernel_rfl) rfl)
    (primes_stops 64 (by omega) (w.heap.size + 1 + 1) w' hsz h2) kpB_t (kpB_b hsz) (Below.refl _ _) (fun _ => rfl)
    (fun pre W => (Blk W (w.heap.size + 1) 141 .u32 (fillR cbRoot zeros64 (pre.map Subtype.val)) ∧ Blk W w.heap.size 141 .u32 zeros64 ∧ W.cell? ⟨w.heap.size + 1 + 1, 0, none⟩ = some (.int .i64 64)) ∧ Below w.heap.size w W)
    (fun _ _ _ => False)
    (OwnFrom.and (OwnFrom.and (Own.from (blk_own _ _ _ (fun pre : List (PR 64) => fillR cbRoot zeros64 (pre.map Subtype.val))) _) (OwnFrom.and (Own.from (blk_own _ _ _ (fun _ : List (PR 64) => zeros64)) _) (Own.from (fun _ _ _ _ hs hg hr => cell_kept hs hg hr) _))) (ownFrom_below (Nat.le_refl _) (by omega)))
    (fun _ _ _ _ _ hs _ _ => hs)
    ⟨⟨h1, h0, h2⟩, hB0⟩
    (fun x => { tmps := #[.pointer (some ⟨w.heap.size, 0, none⟩), .pointer (some ⟨w.heap.size + 1, 0, none⟩), .int .i64 (x.1.1 : Int), .int .u32 (x.1.2 : Int), .func (.func 112) #[] #[.pointer (some ⟨w.heap.size + 1 + 1, 0, none⟩)], .int .i64 (x.1.1 : Int), .int .u32 (x.1.2 : Int), undef, undef, undef, undef, undef], defers := [] }) ?assign ?body ?done ?stop
  case assign =>
    intro l x W K hK
    simp only [encP]
    gi_wp2
    exact hK
  case body =>
    rintro l pre x W ⟨⟨hb1, hb0, hb2⟩, hB⟩ _
    gi_wp2_with fail
    refine ⟨trivial, ?_⟩
    refine (CallsIn.inRound l (callsIn_wide.2 (cbBits_any x.1.2 W x.2.2))).mono ?_
    rintro e w3 ⟨rfl, hB3⟩
    have hb1' := hb1.below hB3 hb1.lt
    have hb0' := hb0.below hB3 hb0.lt
    have hlt2 := block_lt_of_cell hb2
    have Hc2 := hide ((World.cell?_setCell_far w3 ⟨w.heap.size + 1, x.1.1, none⟩ ⟨w.heap.size + 1 + 1, 0, none⟩ (.int .u32 ((cbRoot x.1.2 : Nat) : Int)) (by simp)).trans ((hB3.cell (p := ⟨w.heap.size + 1 + 1, 0, none⟩) hlt2).trans hb2))
    have HKP := hide (show KpB (w.heap.size + 1 + 1) W (w3.setCell ⟨w.heap.size + 1, x.1.1, none⟩ (.int .u32 ((cbRoot x.1.2 : Nat) : Int))) from (Below.heap_setCell _ _ _ _ (by simp)).trans (hB3.block _ hlt2))
    have hlen : (fillR cbRoot zeros64 (pre.map Subtype.val)).length = 64 := (length_fillR _ _ _).trans rfl
    have hx8 : ((x.1.1 : Nat) : Int) < 64 := by have := x.2.1; omega
    have hc := hb1'.cell x.1.1 (by rw [hlen]; exact x.2.1)
    have hf := hb1'.free x.1.1
    have Hs1 := hide (hb1'.set x.1.1 ((cbRoot x.1.2 : Nat) : Int))
    have Hs0 := hide (hb0'.other ⟨w.heap.size + 1, x.1.1, none⟩ (.int .u32 ((cbRoot x.1.2 : Nat) : Int)) (by simp))
    have HB := hide ((hB.trans (hB3.mono (by have := hb0.lt; omega))).setCell (p := ⟨w.heap.size + 1, x.1.1, none⟩) (by show w.heap.size ≤ w.heap.size + 1; omega) (.int .u32 ((cbRoot x.1.2 : Nat) : Int)))
    have HK := hide ((keepsOthers_of_below hB3).trans (KeepsOthers.setCell w3 ⟨w.heap.size + 1, x.1.1, none⟩ (.int .u32 ((cbRoot x.1.2 : Nat) : Int))))
    clear hb1 hb0 hb2 hlt2 hb1' hb0' hlen hB
    gi_wp2_with fail
    exact ⟨HK.out, HKP.out, ⟨by rw [List.map_append, List.map_cons, List.map_nil, fillR_snoc]; exact Hs1.out, Hs0.out, Hc2.out⟩, HB.out⟩
  case done =>
    rintro D ys W hD hys ⟨⟨hb1, hb0, hb2⟩, hB⟩ hK
    have hb1' : Blk W (w.heap.size + 1) 141 .u32 keysS := by rw [← fill_keys, ← hys]; exact hb1
    have hDB : D ≠ w.heap.size := by omega
    have hK' : (W.setRow w.heap.size (cellsOf .u32 keysS)).heap[D]? = some (.deferred (some [])) := by rw [_root_.Go.setRow_other _ _ _ _ hDB]; exact hK
    have HR := hide ((World.putObj_heap_other (o := .deferred none) (Ne.symm hDB)).trans (hb0.setRow keysS).row)
    have HBL := hide ((below_setRow hB (Nat.le_refl _) (cellsOf .u32 keysS)).trans (belowK_b (w := w) (Nat.le_refl _) _ D _ (.deferred none) (by omega) hK' rfl rfl))
    have HK := hide hK'
    clear hys hb1 hb2 hK' hK hDB
    gi_wp2_with (first | (with_reducible refine wpListIn_load_row rfl 141 (.tmp 1) rfl (w.heap.size + 1) rfl _ _ (0, 0) _ hb1'.row Tryd.underlying141 rfl (sz26 keysS length_keysS) ?_) | (with_reducible refine wpListIn_store_row rfl 141 (.tmp 0) (.tmp 11) rfl w.heap.size _ rfl rfl _ _ hb0.row (sz26 keysS length_keysS) (szZ64 keysS length_keysS) (oneCell_cellsOf _ _) ?_))
    refine ⟨by simp, .inl ⟨_, _, rfl, run_takeDeferred HK.out, ?_⟩⟩
    exact ⟨_, results_cell_row rfl _ _ w.heap.size _ _ (0, 0) _ rfl HR.out Tryd.underlying141 rfl (sz26 keysS length_keysS), rfl, HBL.out⟩
  case stop =>
    rintro D c pre W _ _ h _
    exact h.elim
end Go.Proofs.YtaomigfmjglggaaDoor
