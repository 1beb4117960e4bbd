/- Words' bytes, ends, rows of parts: what Of and Sum of package sha share. -/
import Derived.Test.YtaomigfmjglggaaDoorProg
import Derived.Test.YtaomigfmjglggaaDoorFirst
import Derived.Test.YtaomigfmjglggaaDoorBlocks
import Derived.Test.YtaomigfmjglggaaDoorBase
import Derived.Test.YtaomigfmjglggaaDoorSpread
import Derived.Test.YtaomigfmjglggaaDoorTake
import Derived.WalkKit
import Derived.WalkSpells
import Derived.WalkLawsBesides
import Derived.Test.YtaomigfmjglggaaDoorCat
import Derived.Deep.RegionHeld3
namespace Go.Proofs.YtaomigfmjglggaaDoor
open Go.RowKit

theorem firstLit : cellsOf .u32 firstS = #[.int .u32 0x6a09e667, .int .u32 0xbb67ae85, .int .u32 0x3c6ef372, .int .u32 0xa54ff53a, .int .u32 0x510e527f, .int .u32 0x9b05688c, .int .u32 0x1f83d9ab, .int .u32 0x5be0cd19] := rfl
theorem parts_two {w : World} {b : Nat} {s1 s2 : Value} {x1 x2 : List Int} (h1 : w.cell? ⟨b, 0, none⟩ = some s1) (h2 : w.cell? ⟨b, 1, none⟩ = some s2) (hlt : b < w.heap.size) (a1 : SlAt w s1 x1) (a2 : SlAt w s2 x2) : PartsAt w b 0 [x1, x2] := by
  refine ⟨hlt, fun i hi => ?_⟩
  have h : i = 0 ∨ i = 1 := by simp at hi; omega
  rcases h with rfl | rfl
  · exact ⟨s1, h1, a1⟩
  · exact ⟨s2, h2, a2⟩

theorem ownsRow_setRow {w : World} {base : Nat} {e : TypeId} {size : Nat} {v : Value} {n : Nat} {xs : List Value} {g : Nat} (h : w.ownsRow base e size v n xs) (hg : g < base) (cs : Array Value) : (w.setRow g cs).ownsRow base e size v n xs :=
  h.kept (row := some g) ⟨rfl, rfl, rfl, by rw [size_setRow]; exact Nat.le_refl _, fun k _ hk => _root_.Go.setRow_other w g k cs (fun e => hk (by rw [e]))⟩ (.inr (fun e => by have := (h.lt g e).1; omega))


theorem zero36 (w : World) : (zeroValue 29).run Tryd.prog w = .ok (.agg (cellsOf .u8 zeros32)) w := by kernel_rfl
theorem size36 : (Tryd.prog.info? 29).map (·.size) = some 32 := by kernel_rfl
theorem sz36 (l : List Int) (h : l.length = 32) : (Tryd.prog.info? 29).map (·.size) = some (cellsOf .u8 l).size := by rw [size_cellsOf, h]; exact size36
theorem szZ32 (l : List Int) (h : l.length = 32) : (cellsOf .u8 zeros32).size = (cellsOf .u8 l).size := by rw [size_cellsOf, size_cellsOf, h]; rfl

set_option maxRecDepth 100000 in
set_option maxHeartbeats 1000000 in
theorem word_any (sv : List Int) (w : World) (hh : Hid (sv.length = 8)) :
    Calls Tryd.prog 91 #[.agg (cellsOf .u32 sv)] w (fun e w' => e = .returned (.agg (cellsOf .u8 (outS sv))) ∧ Below w.heap.size w w') := by
  go_enter Tryd.func91, Tryd.ntmps91
  go_wp2_with (first | (with_reducible refine wpList_alloc_row rfl 29 rfl (cellsOf .u8 zeros32) zero36 ?_) | (with_reducible refine wpList_load_row rfl 124 _ rfl w.heap.size rfl _ _ (0, 0) _ (heap3_0 _ _ _ _) Tryd.underlying124 rfl (sz24 sv hh.out) ?_))
  go_loopw [8] (fun i wr => ∃ k : Nat, k ≤ 8 ∧ i = .int .i64 k ∧ Blk wr (w.heap.size + 1 + 1) 29 .u8 (bytesTo sv (4 * k)) ∧ Blk wr (w.heap.size + 1) 29 .u8 zeros32 ∧ Below w.heap.size w wr)
    (fun i _ => 8 - (intOf i).toNat)
  case atStart => exact ⟨0, by omega, rfl, heap3_2 _ _ _ _, heap3_1 _ _ _ _, (((Below.refl _ _).alloc (Nat.le_refl _) _).alloc (by simp) _).alloc (by simp; omega) _⟩
  case round =>
    obtain ⟨k, hk, rfl, hw3, hw2, hB⟩ := hrel
    by_cases hlt : k < 8
    · have hix := run_index_cells (P := Tryd.prog) 124 28 8 .u32 .u32 Tryd.underlying124 Tryd.underlying28 size23 sv hh.out k hlt
      go_wp2_with fail
      clear hix
      obtain ⟨wo, hwo⟩ : ∃ wo, wo = wr := ⟨wr, rfl⟩
      subst hwo
      go_loopw [12] (fun i wr => ∃ j : Nat, j ≤ 4 ∧ i = .int .i64 j ∧ Blk wr (w.heap.size + 1 + 1) 29 .u8 (bytesTo sv (4 * k + j)) ∧ Blk wr (w.heap.size + 1) 29 .u8 zeros32 ∧ Below w.heap.size w wr)
        (fun i _ => 4 - (intOf i).toNat)
      case atStart => exact ⟨0, by omega, rfl, hw3, hw2, hB⟩
      case round =>
        clear hw3 hw2 hB wo
        obtain ⟨j, hj, rfl, hw3, hw2, hB⟩ := hrel
        by_cases hlt2 : j < 4
        · have hc := hw3.cell (4 * k + j) (by rw [length_bytesTo]; omega)
          have hf := hw3.free (4 * k + j)
          have Hs1 := hide (hw3.set (4 * k + j) (byteOf (nth sv k) j))
          have Hs2 := hide (hw2.other ⟨w.heap.size + 1 + 1, 4 * k + j, none⟩ (.int .u8 (byteOf (nth sv k) j)) (by simp))
          have HB := hide (hB.setCell (p := ⟨w.heap.size + 1 + 1, 4 * k + j, none⟩) (by show w.heap.size ≤ w.heap.size + 1 + 1; omega) (.int .u8 (byteOf (nth sv k) j)))
          clear hw3 hw2 hB
          go_wp2_with fail
          go_roundw
          case rel => exact ⟨j + 1, by omega, by go_num, by rw [← Nat.add_assoc, bytesTo_succ sv k j hlt2]; exact Hs1.out, Hs2.out, HB.out⟩
          case measure => simp [intOf]; omega
        · go_wp2_with fail
          go_roundw
          case rel => exact ⟨k + 1, by omega, by go_num, by rw [show 4 * (k + 1) = 4 * k + j from by omega]; exact hw3, hw2, hB⟩
          case measure => simp [intOf]; omega
    · have hw3' : Blk wr (w.heap.size + 1 + 1) 29 .u8 (outS sv) := by
        rw [outS, show 32 = 4 * k from by omega]; exact hw3
      clear hw3
      go_wp2_with (first | (with_reducible refine wpList_load_row rfl 29 (.tmp 3) rfl (w.heap.size + 1 + 1) rfl _ _ (0, 0) _ hw3'.row Tryd.underlying29 rfl (sz36 _ (length_outS sv)) ?_) | (with_reducible refine wpList_store_row rfl 29 (.tmp 2) (.tmp 28) rfl (w.heap.size + 1) _ rfl rfl _ _ hw2.row (sz36 _ (length_outS sv)) (szZ32 _ (length_outS sv)) (oneCell_cellsOf _ _) ?_))
      refine bodyPost_ret (v := .agg (cellsOf .u8 (outS sv))) (results_cell_row rfl _ _ (w.heap.size + 1) _ _ (0, 0) _ rfl (hw2.setRow (outS sv)).row Tryd.underlying29 rfl (sz36 _ (length_outS sv))) rfl ?_
      exact ⟨rfl, below_setRow hB (by omega) _⟩


theorem parts_built {w : World} {t : TypeId} {b : Nat} {s1 s2 : Value} {x1 x2 : List Int} (hb : b = w.heap.size) (a1 : SlAt w s1 x1) (a2 : SlAt w s2 x2) : PartsAt (w.alloc (.cells #[s1, s2] t)) b 0 [x1, x2] := by
  subst hb
  have hB : Below w.heap.size w (w.alloc (.cells #[s1, s2] t)) := (Below.refl _ _).alloc (Nat.le_refl _) _
  exact parts_two ((cell_of_row _ _ 0 _ _ _ (heap_alloc_new _ _)).trans rfl) ((cell_of_row _ _ 1 _ _ _ (heap_alloc_new _ _)).trans rfl) (by simp) (a1.below hB) (a2.below hB)

/-- Behind End(n): a slice that reads as the end of n bytes. -/
def EndSl (n : Nat) (w : World) (e : Ending) (w' : World) : Prop :=
  ∃ ap, e = .returned (.slice ap (padZ n + 9) (padZ n + 9)) ∧ SlAt w' (.slice ap (padZ n + 9) (padZ n + 9)) (endS n) ∧ Below w.heap.size w w'

theorem end_sl (n : Nat) (w : World) : Calls Tryd.prog 90 #[.int .u64 n] w (EndSl n w) := by
  refine (end_any n w).mono ?_
  rintro e w' ⟨rfl, ho, hb⟩
  exact ⟨_, rfl, slAt_owned ho (length_endS n) (Nat.le_refl _), hb⟩

theorem new8 {W W' : World} {t : TypeId} (h : Below (W.alloc (.cells (cellsOf .u32 zeros8) t)).heap.size (W.alloc (.cells (cellsOf .u32 zeros8) t)) W') : Blk W' W.heap.size t .u32 zeros8 := (Blk.new W t .u32 zeros8).below h (by simp)

end Go.Proofs.YtaomigfmjglggaaDoor
