/- The function takeBlock of package sha: the state behind a block. -/
import Derived.Test.YtaomigfmjglggaaDoorProg
import Derived.Test.YtaomigfmjglggaaDoorBase
import Derived.Test.YtaomigfmjglggaaDoorCat
import Derived.Test.YtaomigfmjglggaaDoorSpread
import Derived.WalkKit
import Derived.WalkSpells
import Derived.WalkLawsBesides
import Derived.Deep.DeepCutAuto
import Derived.Deep.QuietTactic
import Derived.BigQuiet
import Derived.StillTailTactics
namespace Go.Proofs.YtaomigfmjglggaaDoor
open Go.RowKit

def zeros8 : List Int := List.replicate 8 0
theorem zero24 (w : World) : (zeroValue 124).run Tryd.prog w = .ok (.agg (cellsOf .u32 zeros8)) w := by kernel_rfl
theorem size24 : (Tryd.prog.info? 124).map (·.size) = some 8 := by kernel_rfl
theorem size23 : (Tryd.prog.info? 28).map (·.size) = some 1 := by kernel_rfl
theorem sz24 (l : List Int) (h : l.length = 8) : (Tryd.prog.info? 124).map (·.size) = some (cellsOf .u32 l).size := by rw [size_cellsOf, h]; exact size24
theorem sz26 (l : List Int) (h : l.length = 64) : (Tryd.prog.info? 141).map (·.size) = some (cellsOf .u32 l).size := by rw [size_cellsOf, h]; exact size26
theorem sz74 (l : List Int) (h : l.length = 64) : (Tryd.prog.info? 122).map (·.size) = some (cellsOf .u8 l).size := by rw [size_cellsOf, h]; exact size74
theorem szEq {k : IntKind} (a b : List Int) (h : a.length = b.length) : (cellsOf k a).size = (cellsOf k b).size := by rw [size_cellsOf, size_cellsOf, h]

theorem szZ8 (l : List Int) (h : l.length = 8) : (cellsOf .u32 zeros8).size = (cellsOf .u32 l).size := by rw [size_cellsOf, size_cellsOf, h]; rfl

theorem heap4 (w : World) (a b c d : Obj) : ((((w.alloc a).alloc b).alloc c).alloc d).heap[w.heap.size]? = some a ∧ ((((w.alloc a).alloc b).alloc c).alloc d).heap[w.heap.size + 1]? = some b ∧
    ((((w.alloc a).alloc b).alloc c).alloc d).heap[w.heap.size + 1 + 1]? = some c ∧ ((((w.alloc a).alloc b).alloc c).alloc d).heap[w.heap.size + 1 + 1 + 1]? = some d := by
  refine ⟨?_, ?_, ?_, ?_⟩
  · rw [Below.heap_alloc _ _ _ (by simp; omega), heap3_0]
  · rw [Below.heap_alloc _ _ _ (by simp), heap3_1]
  · rw [Below.heap_alloc _ _ _ (by simp), heap3_2]
  · have := heap_alloc_new (((w.alloc a).alloc b).alloc c) d
    simpa using this

set_option maxRecDepth 100000 in
set_option maxHeartbeats 2000000 in
theorem take_any (sv ks bs : List Int) (w : World) (hh : Hid (sv.length = 8)) (hk : Hid (ks.length = 64)) (hb : Hid (bs.length = 64)) :
    Calls Tryd.prog 102 #[.agg (cellsOf .u32 sv), .agg (cellsOf .u32 ks), .agg (cellsOf .u8 bs)] w (fun e w' => e = .returned (.agg (cellsOf .u32 (takeS sv ks bs))) ∧ Below w.heap.size w w') := by
  go_enter Tryd.func102, Tryd.ntmps102
  go_wp2_with (first | (with_reducible refine wpList_alloc_row rfl 124 rfl (cellsOf .u32 zeros8) zero24 ?_) | (with_reducible refine wpList_load_row rfl 122 _ rfl (w.heap.size + 1 + 1) rfl _ _ (0, 0) _ (heap4 _ _ _ _ _).2.2.1 Tryd.underlying122 rfl (sz74 bs hb.out) ?_))
  obtain ⟨h0, h1, h2, h3⟩ := heap4 w (.cells (cellsOf .u32 sv) 124) (.cells (cellsOf .u32 ks) 141) (.cells (cellsOf .u8 bs) 122) (.cells (cellsOf .u32 zeros8) 124)
  have hB0 : Below w.heap.size w ((((w.alloc (.cells (cellsOf .u32 sv) 124)).alloc (.cells (cellsOf .u32 ks) 141)).alloc (.cells (cellsOf .u8 bs) 122)).alloc (.cells (cellsOf .u32 zeros8) 124)) :=
    ((((Below.refl _ _).alloc (Nat.le_refl _) _).alloc (by simp) _).alloc (by simp; omega) _).alloc (by simp; omega) _
  have hS0 : w.heap.size + 4 = ((((w.alloc (.cells (cellsOf .u32 sv) 124)).alloc (.cells (cellsOf .u32 ks) 141)).alloc (.cells (cellsOf .u8 bs) 122)).alloc (.cells (cellsOf .u32 zeros8) 124)).heap.size := by simp
  generalize ((((w.alloc (.cells (cellsOf .u32 sv) 124)).alloc (.cells (cellsOf .u32 ks) 141)).alloc (.cells (cellsOf .u8 bs) 122)).alloc (.cells (cellsOf .u32 zeros8) 124)) = w0 at h0 h1 h2 h3 hB0 hS0 ⊢
  have hh0 : Blk w0 w.heap.size 124 .u32 sv := h0
  have hh1 : Blk w0 (w.heap.size + 1) 141 .u32 ks := h1
  have hh3 : Blk w0 (w.heap.size + 1 + 1 + 1) 124 .u32 zeros8 := h3
  clear h0 h1 h2 h3
  refine (spread_any bs w0 hb.out).mono ?_
  rintro e w1 ⟨rfl, hB1⟩
  have hs1 : w.heap.size + 4 ≤ w1.heap.size := by have := hB1.size; omega
  replace hh0 := hh0.below hB1 (by omega)
  replace hh1 := hh1.below hB1 (by omega)
  replace hh3 := hh3.below hB1 (by omega)
  have hB := hB0.trans (hB1.mono (by omega))
  clear hB1 hB0 hS0
  obtain ⟨n1, hn1⟩ : ∃ n1, n1 = w1.heap.size := ⟨_, rfl⟩
  rw [← hn1] at hs1
  go_wp2_with ((with_reducible refine wpList_alloc_blk rfl 141 rfl .u32 zeros64 zero26 ?_))
  intro w2 hb2 hz2 hB2
  rw [← hn1] at hb2 hz2 hB2 ⊢
  replace hh0 := hh0.below hB2 (by omega)
  replace hh1 := hh1.below hB2 (by omega)
  replace hh3 := hh3.below hB2 (by omega)
  replace hB := hB.trans (hB2.mono (by omega))
  clear hB2 hn1 w1
  refine wpList_store_blk rfl 141 (.tmp 7) (.tmp 23) rfl n1 .u32 (wordsS bs) rfl rfl _ _ hb2 (sz26 _ (length_wordsS bs)) (length_wordsS bs).symm ?_
  intro w3 hb3 hz3 hB3 hk3
  replace hh0 := hh0.kept hk3 (by omega)
  replace hh1 := hh1.kept hk3 (by omega)
  replace hh3 := hh3.kept hk3 (by omega)
  replace hB := hB.trans (hB3 w.heap.size (by omega))
  rw [hz2] at hz3
  clear hB3 hk3 hb2 hz2 w2
  go_wp2_with (first | (with_reducible refine wpList_load_row rfl 124 (.tmp 3) rfl w.heap.size rfl _ _ (0, 0) _ hh0.row Tryd.underlying124 rfl (sz24 sv hh.out) ?_) | (with_reducible refine wpList_alloc_blk rfl 124 rfl .u32 zeros8 zero24 ?_))
  intro w4 hb4 hz4 hB4
  replace hh0 := hh0.below hB4 (by omega)
  replace hh1 := hh1.below hB4 (by omega)
  replace hh3 := hh3.below hB4 (by omega)
  replace hb3 := hb3.below hB4 (by omega)
  replace hB := hB.trans (hB4.mono (by omega))
  clear hB4 hz3 w3
  refine wpList_store_blk rfl 124 (.tmp 8) (.tmp 24) rfl (n1 + 1) .u32 sv rfl rfl _ _ hb4 (sz24 sv hh.out) hh.out.symm ?_
  intro w5 hb5 hz5 hB5 hk5
  replace hh0 := hh0.kept hk5 (by omega)
  replace hh1 := hh1.kept hk5 (by omega)
  replace hh3 := hh3.kept hk5 (by omega)
  replace hb3 := hb3.kept hk5 (by omega)
  replace hB := hB.trans (hB5 w.heap.size (by omega))
  clear hB5 hk5 hb4 hz4 hz5 w4
  have hn : w.heap.size + 1 + 1 + 1 < n1 := by omega
  clear hs1
  go_wp2_with (first | (with_reducible refine wpList_load_row rfl 141 (.tmp 4) rfl (w.heap.size + 1) rfl _ _ (0, 0) _ hh1.row Tryd.underlying141 rfl (sz26 ks hk.out) ?_))
  go_loopw [26] (fun i wr => ∃ k : Nat, k ≤ 64 ∧ i = .int .i64 k ∧ Blk wr (n1 + 1) 124 .u32 (roundsS sv ks (wordsS bs) k) ∧ Blk wr n1 141 .u32 (wordsS bs) ∧ Blk wr w.heap.size 124 .u32 sv ∧ Blk wr (w.heap.size + 1 + 1 + 1) 124 .u32 zeros8 ∧ Below w.heap.size w wr)
    (fun i _ => 64 - (intOf i).toNat)
  case atStart => exact ⟨0, by omega, rfl, hb5, hb3, hh0, hh3, hB⟩
  case round =>
    clear hh0 hh1 hh3 hb3 hb5 hB w5
    obtain ⟨k, hk0, rfl, hbs, hbw, hh0, hh3, hB⟩ := hrel
    by_cases hlt : k < 64
    · have hix := run_index_cells (P := Tryd.prog) 141 28 64 .u32 .u32 Tryd.underlying141 Tryd.underlying28 size23 ks hk.out k hlt
      obtain ⟨st, hst⟩ : ∃ st, st = roundsS sv ks (wordsS bs) k := ⟨_, rfl⟩
      rw [← hst] at hbs
      have hl : st.length = 8 := by rw [hst, length_roundsS _ _ _ hh.out]
      have Hst := hide hst
      have Hl := hide hl
      have hc0 := hbs.cell 0 (by omega)
      have hc1 := hbs.cell 1 (by omega)
      have hc2 := hbs.cell 2 (by omega)
      have hc3 := hbs.cell 3 (by omega)
      have hc4 := hbs.cell 4 (by omega)
      have hc5 := hbs.cell 5 (by omega)
      have hc6 := hbs.cell 6 (by omega)
      have hc7 := hbs.cell 7 (by omega)
      have hcw := hbw.cell k (by rw [length_wordsS]; exact hlt)
      have hk64 : (k : Int) < 64 := by omega
      clear hst hl
      go_wp2_with fail
      go_quiet (fail)
      go_wp2_with fail
      go_quiet ((go_at_call 111; exact quiet_add_left (turn_int _ _ _ _ _ (by decide) (by decide) (by decide) (by decide) (by decide) (by decide))))
      go_wp2_with fail
      refine (turn_int _ _ _ _ _ (by decide) (by decide) (by decide) (by decide) (by decide) (by decide)).mono ?_
      rintro e wq ⟨rfl, hwq⟩
      replace hbs : Blk wq (n1 + 1) 124 .u32 st := by rw [← hwq]; exact hbs
      replace hbw : Blk wq n1 141 .u32 (wordsS bs) := by rw [← hwq]; exact hbw
      replace hh0 : Blk wq w.heap.size 124 .u32 sv := by rw [← hwq]; exact hh0
      replace hh3 : Blk wq (w.heap.size + 1 + 1 + 1) 124 .u32 zeros8 := by rw [← hwq]; exact hh3
      replace hB : Below w.heap.size w wq := by rw [← hwq]; exact below_drewN hB _
      clear hc0 hc1 hc2 hc3 hc4 hc5 hc6 hc7 hcw hix hwq wr
      go_upto_region 10 with (first | (refine wpList_store_blk rfl 124 (.tmp 8) (.tmp 90) rfl (n1 + 1) .u32 (stepS st (nth ks k) (nth (wordsS bs) k)) rfl rfl _ _ hbs (sz24 _ rfl) Hl.out ?_))
      intro w6 hb6 _hz6 hB6 hk6
      replace hbw := hbw.kept hk6 (by omega)
      replace hh0 := hh0.kept hk6 (by omega)
      replace hh3 := hh3.kept hk6 (by omega)
      replace hB := hB.trans (hB6 w.heap.size (by omega))
      clear hB6 hk6 hbs _hz6 wq
      go_wp2_with fail
      go_roundw
      case rel => exact ⟨k + 1, by omega, by go_num, by rw [roundsS, ← Hst.out]; exact hb6, hbw, hh0, hh3, hB⟩
      case measure => simp [intOf]; omega
    · have Hr : Blk wr (n1 + 1) 124 .u32 (roundsS sv ks (wordsS bs) 64) := by
        rw [show (64 : Nat) = k from by omega]; exact hbs
      have Hl : Hid ((roundsS sv ks (wordsS bs) 64).length = 8) := hide (length_roundsS _ _ _ hh.out 64)
      have Hgoal : Hid (takeS sv ks bs = addUp sv (roundsS sv ks (wordsS bs) 64) 8) := hide rfl
      generalize roundsS sv ks (wordsS bs) 64 = rs at Hr Hl Hgoal ⊢
      clear hbw hk0 hbs
      go_wp2_with (first | (with_reducible refine wpList_load_row rfl 124 (.tmp 8) rfl (n1 + 1) rfl _ _ (0, 0) _ Hr.row Tryd.underlying124 rfl (sz24 rs Hl.out) ?_))
      clear hlt Hr
      generalize (k : Int) = kx
      obtain ⟨wo, hwo⟩ : ∃ wo, wo = wr := ⟨wr, rfl⟩
      subst hwo
      go_loopw [93] (fun i wr => ∃ j : Nat, j ≤ 8 ∧ i = .int .i64 j ∧ Blk wr w.heap.size 124 .u32 (addUp sv rs j) ∧ Blk wr (w.heap.size + 1 + 1 + 1) 124 .u32 zeros8 ∧ Below w.heap.size w wr)
        (fun i _ => 8 - (intOf i).toNat)
      case atStart => exact ⟨0, by omega, rfl, hh0, hh3, hB⟩
      case round =>
        clear hh0 hh3 hB wo
        obtain ⟨j, hj, rfl, hh0, hh3, hB⟩ := hrel
        by_cases hlt : j < 8
        · have hix := run_index_cells (P := Tryd.prog) 124 28 8 .u32 .u32 Tryd.underlying124 Tryd.underlying28 size23 rs Hl.out j hlt
          have hc := hh0.cell j (by rw [length_addUp, hh.out]; exact hlt)
          have hf := hh0.free j
          have Hs1 := hide (hh0.set j ((nth (addUp sv rs j) j + nth rs j) % 4294967296))
          have Hs2 := hide (hh3.other ⟨w.heap.size, j, none⟩ (.int .u32 ((nth (addUp sv rs j) j + nth rs j) % 4294967296)) (by simp; omega))
          have HB := hide (hB.setCell (p := ⟨w.heap.size, j, none⟩) (Nat.le_refl _) (.int .u32 ((nth (addUp sv rs j) j + nth rs j) % 4294967296)))
          clear hh0 hh3 hB
          go_wp2_with fail
          go_roundw
          case rel => exact ⟨j + 1, by omega, by go_num, Hs1.out, Hs2.out, HB.out⟩
          case measure => simp [intOf]; omega
        · have Hr : Blk wr w.heap.size 124 .u32 (takeS sv ks bs) := by
            rw [Hgoal.out, show (8 : Nat) = j from by omega]; exact hh0
          have Ht : Hid ((takeS sv ks bs).length = 8) := hide ((length_takeS sv ks bs).trans hh.out)
          obtain ⟨res, hres⟩ : ∃ res, res = takeS sv ks bs := ⟨_, rfl⟩
          rw [← hres] at Hr Ht
          have HRES := hide hres
          clear hh0 Hgoal hres
          go_wp2_with (first | (with_reducible refine wpList_load_row rfl 124 (.tmp 3) rfl w.heap.size rfl _ _ (0, 0) _ Hr.row Tryd.underlying124 rfl (sz24 res Ht.out) ?_) | (with_reducible refine wpList_store_row rfl 124 (.tmp 6) (.tmp 104) rfl (w.heap.size + 1 + 1 + 1) _ rfl rfl _ _ hh3.row (sz24 res Ht.out) (szZ8 res Ht.out) (oneCell_cellsOf _ _) ?_))
          refine bodyPost_ret (v := .agg (cellsOf .u32 res)) (results_cell_row rfl _ _ (w.heap.size + 1 + 1 + 1) _ _ (0, 0) _ rfl (hh3.setRow res).row Tryd.underlying124 rfl (sz24 res Ht.out)) rfl ?_
          exact ⟨by rw [HRES.out], below_setRow hB (by omega) _⟩
end Go.Proofs.YtaomigfmjglggaaDoor
