/- The function spread of package sha: the words of a block. -/
import Derived.Test.YtaomigfmjglggaaDoorProg
import Derived.Test.YtaomigfmjglggaaDoorBase
import Derived.Test.YtaomigfmjglggaaDoorCat
import Derived.WalkKit
import Derived.WalkSpells
import Derived.WalkLawsBesides
import Derived.Deep.DeepCutAuto
import Derived.Deep.QuietTactic
import Derived.BigQuiet
import Derived.StillTailTactics
namespace Go.Proofs.YtaomigfmjglggaaDoor
open Go.RowKit

theorem zero26 (w : World) : (zeroValue 141).run Tryd.prog w = .ok (.agg (cellsOf .u32 zeros64)) w := by kernel_rfl
theorem size74 : (Tryd.prog.info? 122).map (·.size) = some 64 := by kernel_rfl
theorem size26 : (Tryd.prog.info? 141).map (·.size) = some 64 := by kernel_rfl

theorem szW (bs : List Int) : (Tryd.prog.info? 141).map (·.size) = some (cellsOf .u32 (wordsS bs)).size := by rw [size_cellsOf, length_wordsS]; exact size26
theorem szZ (bs : List Int) : (cellsOf .u32 zeros64).size = (cellsOf .u32 (wordsS bs)).size := by rw [size_cellsOf, size_cellsOf, length_wordsS]; rfl

theorem heap3_0 (w : World) (a b c : Obj) : (((w.alloc a).alloc b).alloc c).heap[w.heap.size]? = some a := by
  rw [Below.heap_alloc _ _ _ (by simp; omega), Below.heap_alloc _ _ _ (by simp), heap_alloc_new]
theorem heap3_1 (w : World) (a b c : Obj) : (((w.alloc a).alloc b).alloc c).heap[w.heap.size + 1]? = some b := by
  rw [Below.heap_alloc _ _ _ (by simp), heap_alloc2_new]
theorem heap3_2 (w : World) (a b c : Obj) : (((w.alloc a).alloc b).alloc c).heap[w.heap.size + 1 + 1]? = some c := by
  have := heap_alloc_new ((w.alloc a).alloc b) c
  simpa using this

set_option maxRecDepth 100000 in
set_option maxHeartbeats 600000 in
theorem spread_any (bs : List Int) (w : World) (hlen : bs.length = 64) :
    Calls Tryd.prog 110 #[.agg (cellsOf .u8 bs)] w (fun e w' => e = .returned (.agg (cellsOf .u32 (wordsS bs))) ∧ Below w.heap.size w w') := by
  have hsz : (Tryd.prog.info? 122).map (·.size) = some (cellsOf .u8 bs).size := by rw [size_cellsOf, hlen]; exact size74
  have HL := hide hlen
  clear hlen
  go_enter Tryd.func110, Tryd.ntmps110
  go_wp2_with (first | (with_reducible refine wpList_alloc_row rfl 141 rfl (cellsOf .u32 zeros64) zero26 ?_) | (with_reducible refine wpList_load_row rfl 122 _ rfl w.heap.size rfl _ _ (0, 0) _ (heap3_0 _ _ _ _) Tryd.underlying122 rfl hsz ?_))
  go_loopw [10] (fun i wr => ∃ k : Nat, k ≤ 64 ∧ i = .int .i64 k ∧ Blk wr (w.heap.size + 1 + 1) 141 .u32 (packW bs k) ∧ Blk wr (w.heap.size + 1) 141 .u32 zeros64 ∧ Below w.heap.size w wr)
    (fun i _ => 64 - (intOf i).toNat)
  case atStart => exact ⟨0, by omega, rfl, heap3_2 _ _ _ _, heap3_1 _ _ _ _, (((Below.refl _ _).alloc (Nat.le_refl _) _).alloc (by simp) _).alloc (by simp; omega) _⟩
  case round =>
    obtain ⟨k, hk, rfl, hw3, hw2, hB⟩ := hrel
    by_cases hlt : k < 64
    · have hix := run_index_cells (P := Tryd.prog) 122 5 64 .u8 .u8 Tryd.underlying122 Tryd.underlying5 size5 bs HL.out k hlt
      have hc := hw3.cell (k / 4) (by rw [length_packW]; omega)
      have hf := hw3.free (k / 4)
      have hs1 := hw3.set (k / 4) (packV bs k)
      have hs2 := hw2.other ⟨w.heap.size + 1 + 1, k / 4, none⟩ (.int .u32 (packV bs k)) (by simp)
      have hB1 := hB.setCell (p := ⟨w.heap.size + 1 + 1, k / 4, none⟩) (by show w.heap.size ≤ w.heap.size + 1 + 1; omega) (.int .u32 (packV bs k))
      have Hs1 := hide hs1
      have Hs2 := hide hs2
      clear hs1 hs2 hw3 hw2
      go_wp2_with fail
      go_roundw
      case rel => exact ⟨k + 1, by omega, by go_num, Hs1.out, Hs2.out, hB1⟩
      case measure => simp [intOf]; omega
    · go_wp2_with fail
      have hw3' : Blk wr (w.heap.size + 1 + 1) 141 .u32 (sched (packW bs 64) 16) := by
        rw [sched_16, show (64 : Nat) = k from by omega]; exact hw3
      clear hsz HL hw3 hlt hk
      generalize (k : Int) = kx
      obtain ⟨wo, hwo⟩ : ∃ wo, wo = wr := ⟨wr, rfl⟩
      subst hwo
      go_loopw [6] (fun i wr => ∃ k : Nat, 16 ≤ k ∧ k ≤ 64 ∧ i = .int .i64 k ∧ Blk wr (w.heap.size + 1 + 1) 141 .u32 (sched (packW bs 64) k) ∧ Blk wr (w.heap.size + 1) 141 .u32 zeros64 ∧ Below w.heap.size w wr)
        (fun i _ => 64 - (intOf i).toNat)
      case atStart => exact ⟨16, by omega, by omega, rfl, hw3', hw2, hB⟩
      case round =>
        obtain ⟨k, hk0, hk, rfl, hw3, hw2, hB⟩ := hrel
        by_cases hlt : k < 64
        · have hl : (sched (packW bs 64) k).length = 64 := by rw [length_sched, length_packW]
          have hc15 := hw3.cell (k - 15) (by omega)
          have hc2 := hw3.cell (k - 2) (by omega)
          have Hl := hide hl
          have HW := hide hw3
          have HW2 := hide hw2
          clear hl hw3 hw2 hw3'
          have a15 : IntKind.i64.wrap ((k : Int) - 15) = (k : Int) - 15 := IntWalk.i64_in _ (by omega)
          have b15 : 0 ≤ (k : Int) - 15 := by omega
          have b15' : (15 : Int) ≤ (k : Int) := by omega
          have d15 : (k : Int) - 15 < 64 := by omega
          have e15 : ((k : Int) - 15).toNat = k - 15 := by omega
          have a2 : IntKind.i64.wrap ((k : Int) - 2) = (k : Int) - 2 := IntWalk.i64_in _ (by omega)
          have b2 : 0 ≤ (k : Int) - 2 := by omega
          have b2' : (2 : Int) ≤ (k : Int) := by omega
          have d2 : (k : Int) - 2 < 64 := by omega
          have e2 : ((k : Int) - 2).toNat = k - 2 := by omega
          go_wp2_with fail
          go_quiet ((go_at_call 119; exact quiet_left (ror_int _ _ _ (by decide) (by decide))))
          go_wp2_with fail
          go_quiet ((go_at_call 119; exact quiet_add_left (ror_int _ _ _ (by decide) (by decide))))
          have a7 : IntKind.i64.wrap ((k : Int) - 7) = (k : Int) - 7 := IntWalk.i64_in _ (by omega)
          have b7 : 0 ≤ (k : Int) - 7 := by omega
          have b7' : (7 : Int) ≤ (k : Int) := by omega
          have d7 : (k : Int) - 7 < 64 := by omega
          have e7 : ((k : Int) - 7).toNat = k - 7 := by omega
          have a16 : IntKind.i64.wrap ((k : Int) - 16) = (k : Int) - 16 := IntWalk.i64_in _ (by omega)
          have b16 : 0 ≤ (k : Int) - 16 := by omega
          have b16' : (16 : Int) ≤ (k : Int) := by omega
          have d16 : (k : Int) - 16 < 64 := by omega
          have e16 : ((k : Int) - 16).toNat = k - 16 := by omega
          go_wp2_with fail
          generalize hwd : World.drewN (World.drewN wr _) _ = wd
          have hw3 : Blk wd (w.heap.size + 1 + 1) 141 .u32 (sched (packW bs 64) k) := by rw [← hwd]; exact HW.out
          have hw2 : Blk wd (w.heap.size + 1) 141 .u32 zeros64 := by rw [← hwd]; exact HW2.out
          have hBd : Below w.heap.size w wd := by rw [← hwd]; exact below_drewN (below_drewN hB _) _
          have hl := Hl.out
          have hc7 := hw3.cell (k - 7) (by omega)
          have hc16 := hw3.cell (k - 16) (by omega)
          have hck := hw3.cell k (by omega)
          have hf := hw3.free k
          clear hl hwd HW HW2 hB hc15 hc2
          have HW3 := hide hw3
          have HW2 := hide hw2
          have HBd := hide hBd
          clear hw3 hw2 hBd
          go_still_tail 15, (by kernel_rfl)
          clear hc7 hc16 hck hf
          change wpList _ _ _ _ _ wd.drew
          have hw3 : Blk wd.drew (w.heap.size + 1 + 1) 141 .u32 (sched (packW bs 64) k) := HW3.out
          have hw2 : Blk wd.drew (w.heap.size + 1) 141 .u32 zeros64 := HW2.out
          have hBd : Below w.heap.size w wd.drew := HBd.out.drew
          clear HW3 HW2 HBd
          generalize wd.drew = we at hw3 hw2 hBd ⊢
          clear wd
          have hck := hw3.cell k (by have := Hl.out; omega)
          have hf := hw3.free k
          have Hs1 := hide (hw3.set k (schedVal (sched (packW bs 64) k) k))
          have Hs2 := hide (hw2.other ⟨w.heap.size + 1 + 1, k, none⟩ (.int .u32 (schedVal (sched (packW bs 64) k) k)) (by simp))
          have hB1 := hide (hBd.setCell (p := ⟨w.heap.size + 1 + 1, k, none⟩) (by show w.heap.size ≤ w.heap.size + 1 + 1; omega) (.int .u32 (schedVal (sched (packW bs 64) k) k)))
          clear hw3 hw2 hBd
          go_wp2_with fail
          go_roundw
          case rel => exact ⟨k + 1, by omega, by omega, by go_num, by rw [sched_succ _ _ hk0]; exact Hs1.out, Hs2.out, hB1.out⟩
          case measure => simp [intOf]; omega
        · have hw3' : Blk wr (w.heap.size + 1 + 1) 141 .u32 (wordsS bs) := by
            rw [wordsS, show sched (packW bs 64) 64 = sched (packW bs 64) k from by rw [show k = 64 from by omega]]; exact hw3
          clear hw3 hk0
          go_wp2_with (first | (with_reducible refine wpList_load_row rfl 141 (.tmp 3) rfl (w.heap.size + 1 + 1) rfl _ _ (0, 0) _ hw3'.row Tryd.underlying141 rfl (szW bs) ?_) | (with_reducible refine wpList_store_row rfl 141 (.tmp 2) (.tmp 79) rfl (w.heap.size + 1) _ rfl rfl _ _ hw2.row (szW bs) (szZ bs) (oneCell_cellsOf _ _) ?_))
          refine bodyPost_ret (v := .agg (cellsOf .u32 (wordsS bs))) (results_cell_row rfl _ _ (w.heap.size + 1) _ _ (0, 0) _ rfl (hw2.setRow (wordsS bs)).row Tryd.underlying141 rfl (szW bs)) rfl ?_
          exact ⟨rfl, below_setRow hB (by omega) _⟩
end Go.Proofs.YtaomigfmjglggaaDoor
