/- The document's Of and Sum of layer 1. -/
import Derived.Test.YtjfidelegmjnkaaProg
import Derived.Test.YtjfidelegmjnkaaRefBlocks
import Derived.Test.YtjfidelegmjnkaaRefS
import Derived.Test.YtjfidelegmjnkaaApp
import Derived.Test.YtjfidelegmjnkaaOf
import Derived.Test.YtjfidelegmjnkaaGen
namespace Go.Proofs.Ytjfidelegmjnkaa
open Go.RowKit

theorem endS_le (n : Nat) : (endS n).length ≤ 72 := by rw [length_endS]; unfold padZ; omega

set_option maxRecDepth 100000 in
set_option maxHeartbeats 1000000 in
theorem ofR_any (X : List Int) (v : Value) (w : World) (hX : SlAt w v X) (hb : ∀ x ∈ X, 0 ≤ x ∧ x < 256) (hl : X.length ≤ 100000) :
    Calls Try.prog 19 #[v] w (fun e w' => e = .returned (.agg (cellsOf .u8 (sumS X))) ∧ Below w.heap.size w w') := by
  obtain ⟨i0, hi, hz0, hz1, hz2⟩ := info_parts Try.info5
  obtain ⟨n, hn⟩ : ∃ n, n = X.length := ⟨_, rfl⟩
  obtain ⟨ao, cap, rfl⟩ := hX.len
  have HX := hide hX
  have HN := hide hn
  have HBY := hide hb
  rw [← hn] at HX hl ⊢
  clear hX hn hb
  have HI := hide hi
  have HZ0 := hide hz0
  have HZ1 := hide hz1
  have HZ2 := hide hz2
  clear hi hz0 hz1 hz2
  go_enter Try.func19, Try.ntmps19
  go_wp2_with (first | (with_reducible refine wpList_alloc_row rfl 25 rfl (cellsOf .u8 zeros32) zero36 ?_))
  have hB0 : Below w.heap.size w (w.alloc (.cells (cellsOf .u8 zeros32) 25)) := (Below.refl _ _).alloc (Nat.le_refl _) _
  have hb0 : Blk (w.alloc (.cells (cellsOf .u8 zeros32) 25)) w.heap.size 25 .u8 zeros32 := Blk.new _ _ _ _
  refine (begin_ref _).mono ?_
  rintro e w1 ⟨rfl, hBX⟩
  have HB1 := hide (below_through hBX hB0)
  have Hb1 := hide (blk_through hBX hb0)
  clear hBX hB0 hb0
  go_wp2_with (first
    | (at_builtin
       obtain ⟨v1, w2, hrun, hown, hgr, hat⟩ := append_sl (P := Try.prog) (w := w1.alloc (.cells #[] 5)) (t := 22) (e := 5) Try.underlying22 HI.out HZ0.out HZ1.out HZ2.out w1.heap.size (.slice (some ⟨w1.heap.size, 0, none⟩) 0 0) 0 [] (own_empty w1 _) (.slice ao n cap) X (HX.out.below (HB1.out.alloc HB1.out.size _)) (by rw [← HN.out]; omega) (by simp) 22
       refine wpList_append_run rfl (.tmp 7) (.tmp 8) 22 22 22 rfl rfl _ _ v1 w2 rfl rfl hrun ?_
       have HOWN := hide hown
       have HGR := hide hgr
       have HAT := hide hat
       clear hrun hown hgr hat))
  have hB2 : Below w.heap.size w w2 := (HB1.out.alloc HB1.out.size _).grown HGR.out (by have := HB1.out.size; simp; omega) (fun k e => by simp [Value.ownBlock] at e; rw [← e]; exact HB1.out.size)
  have hb2 : Blk w2 w.heap.size 25 .u8 zeros32 := (HGR.out.block w.heap.size (by have := Hb1.out.lt; simp; omega) (fun e => by simp [Value.ownBlock] at e; have := Hb1.out.lt; omega)).trans (Hb1.out.alloc _)
  have hs12 : w1.heap.size ≤ w2.heap.size := by have := HGR.out.size; simp at this; omega
  refine (end_ref n w2).mono ?_
  rintro e w3 ⟨ap, rfl, hsl, hBX⟩
  have HB3 := hide (below_through hBX hB2)
  have Hb3 := hide (blk_through hBX hb2)
  have HOWN3 := hide (ownsRow_below HOWN.out hBX)
  have HSL3 := hide hsl
  have hs13 : w1.heap.size ≤ w3.heap.size := Nat.le_trans hs12 hBX.size
  clear hBX hB2 hb2 hsl HOWN HGR hs12
  go_wp2_with (first
    | (at_builtin
       obtain ⟨v2, w4, hrun, hown, hgr, hat⟩ := append_sl (P := Try.prog) (w := w3) (t := 22) (e := 5) Try.underlying22 HI.out HZ0.out HZ1.out HZ2.out w1.heap.size v1 (0 + X.length) ([] ++ X) HOWN3.out _ (endS n) HSL3.out (by have := endS_le n; have := HN.out; omega) hs13 22
       refine wpList_append_run rfl (.tmp 9) (.tmp 13) 22 22 22 rfl rfl _ _ v2 w4 rfl rfl hrun ?_
       have HOWN4 := hide hown
       have HGR4 := hide hgr
       clear hrun hown hgr hat))
  have hrow1 : ∀ k, v1.ownBlock = some k → w1.heap.size ≤ k := fun k hk => by
    rcases HAT.out with e | e
    · rw [e] at hk; simp [Value.ownBlock] at hk; omega
    · rw [e] at hk; simp at hk; omega
  have hw1 : w.heap.size < w1.heap.size := Hb1.out.lt
  have hB4 : Below w.heap.size w w4 := HB3.out.grown HGR4.out HB3.out.size (fun k e => by have := hrow1 k e; omega)
  have hb4 : Blk w4 w.heap.size 25 .u8 zeros32 := (HGR4.out.block w.heap.size Hb3.out.lt (fun e => by have := hrow1 _ e.symm; omega)).trans Hb3.out
  have hsl4 : SlAt w4 v2 (X ++ endS n) := by have := slAt_ownV HOWN4.out; rwa [List.nil_append] at this
  have HBL := hide (blocks_ref firstS (X ++ endS n) v2 w4 rfl hsl4 (fun x hx => (List.mem_append.1 hx).elim (HBY.out x) (endS_bytes n x)) (by rw [List.length_append]; have := endS_le n; have := HN.out; omega))
  have HB4 := hide hB4
  have Hb4 := hide hb4
  clear hB4 hb4 hsl4 HOWN4 HGR4 HAT HOWN3 HSL3 HB3 Hb3 HB1 Hb1 hs13
  refine HBL.out.mono ?_
  rintro e w5 ⟨bv, rfl, _, hBX⟩
  have HB5 := hide (below_through hBX HB4.out)
  have Hb5 := hide (blk_through hBX Hb4.out)
  clear hBX HBL HB4 Hb4
  obtain ⟨st, hst⟩ : ∃ st, st = stAt firstS (X ++ endS n) ((X ++ endS n).length / 64) := ⟨_, rfl⟩
  have hl8 : st.length = 8 := by rw [hst]; exact length_stAt _ _ rfl _
  rw [← hst]
  have HST := hide hst
  have HL8 := hide hl8
  clear hst hl8
  go_wp2_with (first | (with_reducible refine wpList_alloc_row rfl 44 rfl (cellsOf .u32 zeros8) zero24 ?_) | (with_reducible refine wpList_store_row rfl 44 (.tmp 3) (.tmp 16) rfl w5.heap.size (cellsOf .u32 st) rfl rfl _ _ (heap_alloc_new _ _) (sz24 st HL8.out) (szZ8 st HL8.out) (oneCell_cellsOf _ _) ?_) | (with_reducible refine wpList_load_row rfl 44 (.tmp 3) rfl w5.heap.size rfl _ _ (0, 0) _ (setRow_heap _ _ _ _ _ _ (heap_alloc_new _ _)) Try.underlying44 rfl (sz24 st HL8.out) ?_))
  have hB6 : Below w.heap.size w ((w5.alloc (.cells (cellsOf .u32 zeros8) 44)).setRow w5.heap.size (cellsOf .u32 st)) := below_setRow (HB5.out.alloc HB5.out.size _) HB5.out.size _
  have hb6 : Blk ((w5.alloc (.cells (cellsOf .u32 zeros8) 44)).setRow w5.heap.size (cellsOf .u32 st)) w.heap.size 25 .u8 zeros32 := (Hb5.out.alloc _).rowOther _ _ (Nat.ne_of_lt Hb5.out.lt)
  refine (out_ref st _ (hide HL8.out)).mono ?_
  rintro e w7 ⟨rfl, hBX⟩
  have hB7 := below_through hBX hB6
  have hb7 := blk_through hBX hb6
  clear hBX hB6 hb6 HB5 Hb5
  go_wp2_with (first | (with_reducible refine wpList_store_row rfl 25 (.tmp 2) (.tmp 19) rfl w.heap.size _ rfl rfl _ _ hb7.row (sz36 _ (length_outS _)) (szZ32 _ (length_outS _)) (oneCell_cellsOf _ _) ?_))
  refine bodyPost_ret (v := .agg (cellsOf .u8 (outS st))) (results_cell_row rfl _ _ w.heap.size _ _ (0, 0) _ rfl (hb7.setRow (outS st)).row Try.underlying25 rfl (sz36 _ (length_outS _))) rfl ?_
  exact ⟨by rw [HST.out, sumS, ← HN.out], below_setRow hB7 (Nat.le_refl _) _⟩
end Go.Proofs.Ytjfidelegmjnkaa
