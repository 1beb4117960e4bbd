/- The document's small functions of layer 1, and the plain mathematics of its words of a block. -/
import Derived.Test.YtaomigfmjglggaaDoorBase
import Derived.Laws.BitsLemmas
import Derived.Lib.EndianBits
import Derived.Test.YtaomigfmjglggaaDoorProg
import Derived.Test.YtaomigfmjglggaaDoorTake
import Derived.Test.YtaomigfmjglggaaDoorCat
import Derived.Test.YtaomigfmjglggaaDoorSumW
import Derived.IntWalk
namespace Go.Proofs.YtaomigfmjglggaaDoor
open Go.RowKit

/-- Four bytes as a word, as the document's answer puts them together. -/
def word4 (b0 b1 b2 b3 : Int) : Int :=
  bits BinOp.or .u32 (bits BinOp.or .u32 (bits BinOp.or .u32 (b0 % 4294967296 * 16777216 % 4294967296) (b1 % 4294967296 * 65536 % 4294967296)) (b2 % 4294967296 * 256 % 4294967296)) (b3 % 4294967296)
/-- The first k words of a block. -/
def refW (bs : List Int) : Nat → List Int
  | 0 => zeros64
  | k + 1 => (refW bs k).set k (word4 (nth bs (4 * k)) (nth bs (4 * k + 1)) (nth bs (4 * k + 2)) (nth bs (4 * k + 3)))
theorem length_refW (bs : List Int) : ∀ k, (refW bs k).length = 64
  | 0 => rfl
  | k + 1 => by rw [refW, List.length_set, length_refW bs k]

theorem or_sum (i : Nat) (x y : Int) (hx0 : 0 ≤ x) (hx : x % 2 ^ i = 0) (hx1 : x < 4294967296) (hy0 : 0 ≤ y) (hy : y < 2 ^ i) (hy1 : y < 4294967296) : bits BinOp.or .u32 x y = x + y :=
  bits_join .u32 32 (by decide) wraps_u32 i x y hx0 hx hx1 hy0 hy hy1

theorem word4_sum (b0 b1 b2 b3 : Int) (h0 : 0 ≤ b0 ∧ b0 < 256) (h1 : 0 ≤ b1 ∧ b1 < 256) (h2 : 0 ≤ b2 ∧ b2 < 256) (h3 : 0 ≤ b3 ∧ b3 < 256) : word4 b0 b1 b2 b3 = b0 * 16777216 + b1 * 65536 + b2 * 256 + b3 := by
  unfold word4
  rw [show b0 % 4294967296 * 16777216 % 4294967296 = b0 * 16777216 by omega, show b1 % 4294967296 * 65536 % 4294967296 = b1 * 65536 by omega, show b2 % 4294967296 * 256 % 4294967296 = b2 * 256 by omega, show b3 % 4294967296 = b3 by omega,
    or_sum 24 (b0 * 16777216) (b1 * 65536) (by omega) (by omega) (by omega) (by omega) (by omega) (by omega), or_sum 16 (b0 * 16777216 + b1 * 65536) (b2 * 256) (by omega) (by omega) (by omega) (by omega) (by omega) (by omega),
    or_sum 8 (b0 * 16777216 + b1 * 65536 + b2 * 256) b3 (by omega) (by omega) (by omega) (by omega) (by omega) (by omega)]

theorem packStep_sum (old b : Int) (h0 : 0 ≤ old) (h1 : old < 16777216) (h2 : 0 ≤ b ∧ b < 256) : packStep old b = old * 256 + b := by
  unfold packStep
  rw [show old * 256 % 4294967296 = old * 256 by omega, show b % 4294967296 = b by omega, or_sum 8 _ _ (by omega) (by omega) (by omega) (by omega) (by omega) (by omega)]

theorem nth_set_self (l : List Int) (i : Nat) (v : Int) (h : i < l.length) : nth (l.set i v) i = v := by simp [nth, List.getD, h]
theorem nth_set_ne (l : List Int) (i j : Nat) (v : Int) (h : i ≠ j) : nth (l.set i v) j = nth l j := by simp [nth, List.getD, List.getElem?_set_ne h]

theorem nth_zeros (n j : Nat) : nth (List.replicate n 0) j = 0 := by
  unfold nth
  rw [List.getD, List.getElem?_replicate]
  split <;> rfl

theorem packW_refW (bs : List Int) (hb : ∀ i, 0 ≤ nth bs i ∧ nth bs i < 256) : ∀ k, k ≤ 16 → packW bs (4 * k) = refW bs k ∧ ∀ j, k ≤ j → nth (refW bs k) j = 0
  | 0, _ => ⟨rfl, fun j _ => nth_zeros 64 j⟩
  | k + 1, hk => by
    obtain ⟨h1, h2⟩ := packW_refW bs hb k (by omega)
    have hl := length_refW bs k
    have b0 := hb (4 * k)
    have b1 := hb (4 * k + 1)
    have b2 := hb (4 * k + 2)
    have b3 := hb (4 * k + 3)
    refine ⟨?_, fun j hj => ?_⟩
    · rw [show 4 * (k + 1) = 4 * k + 1 + 1 + 1 + 1 by omega, packW, packW, packW, packW, h1, show (4 * k + 1 + 1 + 1) / 4 = k by omega, show (4 * k + 1 + 1) / 4 = k by omega, show (4 * k + 1) / 4 = k by omega, show 4 * k / 4 = k by omega,
        h2 k (Nat.le_refl _), nth_set_self _ _ _ (by first | omega | (simp only [List.length_set]; omega)), packStep_sum _ _ (by omega) (by omega) b0, List.set_set, nth_set_self _ _ _ (by first | omega | (simp only [List.length_set]; omega)), packStep_sum _ _ (by omega) (by omega) b1, List.set_set, nth_set_self _ _ _ (by first | omega | (simp only [List.length_set]; omega)),
        packStep_sum _ _ (by omega) (by omega) b2, List.set_set, packStep_sum _ _ (by omega) (by omega) b3, refW, word4_sum _ _ _ _ b0 b1 b2 b3]
      congr 1
      rw [show 4 * k + 1 + 1 = 4 * k + 2 from rfl, show 4 * k + 2 + 1 = 4 * k + 3 from rfl]
      omega
    · rw [refW, nth_set_ne _ _ _ _ (by omega)]
      exact h2 j (by omega)

theorem sched_ref (bs : List Int) (hb : ∀ i, 0 ≤ nth bs i ∧ nth bs i < 256) : refW bs 16 = packW bs 64 := (packW_refW bs hb 16 (Nat.le_refl _)).1.symm

theorem nth_bytes {xs : List Int} (h : ∀ x ∈ xs, 0 ≤ x ∧ x < 256) (i : Nat) : 0 ≤ nth xs i ∧ nth xs i < 256 := by
  unfold nth
  rcases Nat.lt_or_ge i xs.length with hi | hi
  · have := h xs[i] (List.getElem_mem hi)
    simp [List.getD, hi]
    exact this
  · simp [List.getD, hi]

theorem addUp8 (x0 x1 x2 x3 x4 x5 x6 x7 y0 y1 y2 y3 y4 y5 y6 y7 : Int) : addUp [x0, x1, x2, x3, x4, x5, x6, x7] [y0, y1, y2, y3, y4, y5, y6, y7] 8 =
    [(x0 + y0) % 4294967296, (x1 + y1) % 4294967296, (x2 + y2) % 4294967296, (x3 + y3) % 4294967296, (x4 + y4) % 4294967296, (x5 + y5) % 4294967296, (x6 + y6) % 4294967296, (x7 + y7) % 4294967296] := rfl
end Go.Proofs.YtaomigfmjglggaaDoor
namespace Go.Proofs.YtaomigfmjglggaaDoor
open Go.RowKit

theorem bits_or_comm (k : IntKind) (x y : Int) : bits .or k x y = bits .or k y x := by simp only [bits, BitVec.or_comm]

theorem ror_ref (x : Int) (n : Nat) (w : World) (h0 : 1 ≤ n) (h1 : n ≤ 31) :
    Calls Tryd.prog 117 #[.int .u32 x, .int .u64 n] w fun e w' => e = .returned (.int .u32 (rorS x n)) ∧ w = w' := by
  have hw : IntKind.u64.wrap (32 - (n : Int)) = ((32 - n : Nat) : Int) := by rw [IntKind.wrap_u64]; omega
  go_enter Tryd.func117, Tryd.ntmps117
  go_wp2
  go_ret
  exact ⟨congrArg (fun v => Ending.returned (Value.int .u32 v)) (bits_or_comm _ _ _), rfl⟩

set_option maxRecDepth 100000 in
set_option maxHeartbeats 2000000 in
theorem table_ref (w : World) : Calls Tryd.prog 106 #[] w fun e w' => e = .returned (.agg (cellsOf .u32 keysS)) ∧ Below w.heap.size w w' := by
  go_enter Tryd.func106, Tryd.ntmps106
  go_wp2_with (first | (with_reducible refine wpList_alloc_row rfl 141 rfl (cellsOf .u32 zeros64) zero26 ?_) | (refine wpList_store_row rfl 141 (.tmp 0) (.tmp 1) rfl w.heap.size (cellsOf .u32 keysS) rfl rfl _ _ (heap_alloc_new _ _) (sz26 keysS rfl) rfl (oneCell_cellsOf _ _) ?_))
  refine bodyPost_ret (results_cell_row rfl _ _ w.heap.size _ (cellsOf .u32 keysS) (0, 0) _ rfl (setRow_heap _ _ _ _ _ _ (heap_alloc_new _ _)) Tryd.underlying141 rfl (sz26 keysS rfl)) rfl ?_
  exact ⟨rfl, below_setRow ((Below.refl _ _).alloc (Nat.le_refl _) _) (Nat.le_refl _) _⟩

set_option maxRecDepth 100000 in
theorem begin_ref (w : World) : Calls Tryd.prog 94 #[] w fun e w' => e = .returned (.agg (cellsOf .u32 firstS)) ∧ Below w.heap.size w w' := by
  go_enter Tryd.func94, Tryd.ntmps94
  go_wp2_with (first | (with_reducible refine wpList_alloc_row rfl 124 rfl (cellsOf .u32 zeros8) zero24 ?_) | (refine wpList_store_row rfl 124 (.tmp 0) (.tmp 1) rfl w.heap.size (cellsOf .u32 firstS) rfl rfl _ _ (heap_alloc_new _ _) (sz24 firstS rfl) rfl (oneCell_cellsOf _ _) ?_))
  refine bodyPost_ret (results_cell_row rfl _ _ w.heap.size _ (cellsOf .u32 firstS) (0, 0) _ rfl (setRow_heap _ _ _ _ _ _ (heap_alloc_new _ _)) Tryd.underlying124 rfl (sz24 firstS rfl)) rfl ?_
  exact ⟨rfl, below_setRow ((Below.refl _ _).alloc (Nat.le_refl _) _) (Nat.le_refl _) _⟩
end Go.Proofs.YtaomigfmjglggaaDoor
namespace Go.Proofs.YtaomigfmjglggaaDoor
open Go.RowKit

/-- The end of n bytes, of which k bytes of the number of bits are there yet. -/
def endZ (n k : Nat) : List Int := endP n k ++ List.replicate (8 - k) 0
theorem length_endZ (n k : Nat) (h : k ≤ 8) : (endZ n k).length = padZ n + 9 := by simp [endZ, length_endP]; omega
theorem endZ_succ (n k : Nat) (h : k < 8) : (endZ n k).set (1 + padZ n + k) (lenByte n k) = endZ n (k + 1) := by
  have hl := length_endP n k
  rw [endZ, List.set_append_right _ _ (by omega), hl, Nat.sub_self, endZ, endP_succ, List.append_assoc, show 8 - k = (8 - (k + 1)) + 1 by omega, List.replicate_succ]
  simp

theorem endZ_start (n : Nat) : ((madeCells #[.int .u8 0] (padZ n + 9)).setIfInBounds 0 (.int .u8 128)) = cellsOf .u8 (endZ n 0) := by
  apply Array.ext'
  rw [Array.toList_setIfInBounds, toList_madeCells_one, toArray_cellsOf, endZ, endP, lenBytes]
  simp only [List.range_zero, List.map_nil, List.append_nil, List.map_cons, List.map_append, List.map_replicate, List.cons_append]
  rw [show padZ n + 9 = (padZ n + 8) + 1 by omega, List.replicate_succ, List.set_cons_zero, List.replicate_append_replicate]

theorem slAt_blk {w : World} {g : Nat} {t : TypeId} {xs : List Int} {n cap : Nat} (h : Blk w g t .u8 xs) (hn : n = xs.length) (hc : n ≤ cap) : SlAt w (.slice (some ⟨g, 0, none⟩) n cap) xs := by
  subst hn
  refine ⟨_, cap, rfl, (fun h => by cases h), hc, fun ad had i hi => ?_⟩
  cases had
  refine ⟨rfl, h.lt, ?_⟩
  rw [addr_plain, Nat.zero_add, h.cell i hi]

set_option maxRecDepth 100000 in
set_option maxHeartbeats 400000 in
theorem end_ref (n : Nat) (w : World) : Calls Tryd.prog 95 #[.int .u64 n] w (EndSl n w) := by
  obtain ⟨i0, hi, hz0, hz1, hz2⟩ := info_parts Tryd.info5
  have hz : (119 - (n : Int) % 64) % 64 = (padZ n : Int) := by unfold padZ; omega
  have hp : padZ n ≤ 63 := by unfold padZ; omega
  have hmk : ∀ w : World, (Instr.makeSlice 22 (.int .u64 (1 + (padZ n : Int) + 8)) (.int .u64 (1 + (padZ n : Int) + 8))).run Tryd.prog w = .ok (.slice (some ⟨w.heap.size, 0, none⟩) (padZ n + 9) (padZ n + 9)) (w.alloc (.cells (madeCells #[.int .u8 0] (padZ n + 9)) 5)) := by
    intro w
    have h := run_make (P := Tryd.prog) w 22 5 i0 (.int .u8 0) Tryd.underlying22 hi hz0 .u64 .u64 (1 + (padZ n : Int) + 8) (1 + (padZ n : Int) + 8) (by omega) (by omega) (by rw [hz2]; omega) (by omega)
    rw [hz1] at h
    have e2 : (1 + (padZ n : Int) + 8).toNat = padZ n + 9 := by omega
    rw [e2] at h
    simpa [Value.cells] using h
  clear hz0 hz2
  have hm0 : (madeCells #[.int .u8 0] (padZ n + 9))[0]? = some (.int .u8 0) := by
    rw [← Array.getElem?_toList, toList_madeCells_one]; simp
  go_enter Tryd.func95, Tryd.ntmps95
  go_wp2_with fail
  rw [hz]
  clear hmk hm0 hz
  generalize (n : Int) % 64 = nr
  go_loopw [5] (fun i wr => ∃ k : Nat, k ≤ 8 ∧ i = .int .u64 (k : Int) ∧ Blk wr w.heap.size 5 .u8 (endZ n k) ∧ Below w.heap.size w wr) (fun i _ => 8 - (intOf i).toNat)
  case atStart => exact ⟨0, by omega, rfl, by rw [endZ_start]; exact Blk.new _ _ _ _, (Below.refl _ _).alloc (Nat.le_refl _) _⟩
  case round =>
    obtain ⟨k, hk, rfl, hb, hB⟩ := hrel
    by_cases hlt : k < 8
    · have hl := length_endZ n k hk
      have hc := hb.cell (1 + padZ n + k) (by omega)
      have hf := hb.free (1 + padZ n + k)
      have Hs := hide (hb.set (1 + padZ n + k) (lenByte n k))
      have HB := hide (hB.setCell (p := ⟨w.heap.size, 1 + padZ n + k, none⟩) (Nat.le_refl _) (.int .u8 (lenByte n k)))
      have hi1 : 1 + padZ n + k < padZ n + 9 := by omega
      clear hb hB hl
      go_wp2_with fail
      go_roundw
      case rel => exact ⟨k + 1, by omega, by go_num, by rw [← endZ_succ n k hlt]; exact Hs.out, HB.out⟩
      case measure => simp [intOf]; omega
    · obtain rfl : k = 8 := by omega
      have hsl : SlAt wr (.slice (some ⟨w.heap.size, 0, none⟩) (padZ n + 9) (padZ n + 9)) (endS n) := slAt_blk (by rw [show endS n = endZ n 8 by simp [endZ, endS]]; exact hb) (length_endS n).symm (Nat.le_refl _)
      have HSL := hide hsl
      have HB := hide hB
      clear hsl hb hB hlt hk
      go_wp2_with fail
      go_ret
      exact ⟨_, rfl, HSL.out, HB.out⟩
end Go.Proofs.YtaomigfmjglggaaDoor
namespace Go.Proofs.YtaomigfmjglggaaDoor
open Go.RowKit

theorem bytesTo_four (sv : List Int) (k : Nat) (x : Int) (hx : x = nth sv k) : ((((bytesTo sv (4 * k)).set (4 * k) (x / 16777216 % 256)).set (4 * k + 1) (x / 65536 % 256)).set (4 * k + 2) (x / 256 % 256)).set (4 * k + 3) (x % 256) = bytesTo sv (4 * (k + 1)) := by
  rw [show 4 * (k + 1) = 4 * k + 3 + 1 by omega, bytesTo_succ _ _ _ (by omega), bytesTo_succ _ _ 2 (by omega), bytesTo_succ _ _ 1 (by omega), show 4 * k + 0 + 1 = 4 * k + 1 by rfl, show bytesTo sv (4 * k + 1) = _ from bytesTo_succ sv k 0 (by omega), ← hx]
  simp [byteOf]

set_option maxRecDepth 100000 in
set_option maxHeartbeats 400000 in
theorem out_ref (sv : List Int) (w : World) (hh : Hid (sv.length = 8)) :
    Calls Tryd.prog 96 #[.agg (cellsOf .u32 sv)] w (fun e w' => e = .returned (.agg (cellsOf .u8 (outS sv))) ∧ Below w.heap.size w w') := by
  go_enter Tryd.func96, Tryd.ntmps96
  go_wp2_with (first | (with_reducible refine wpList_alloc_row rfl 29 rfl (cellsOf .u8 zeros32) zero36 ?_))
  go_loopw [4] (fun i wr => ∃ k : Nat, k ≤ 8 ∧ i = .int .i64 k ∧ Blk wr (w.heap.size + 1 + 1) 29 .u8 (bytesTo sv (4 * k)) ∧ Blk wr (w.heap.size + 1) 29 .u8 zeros32 ∧ Blk wr w.heap.size 124 .u32 sv ∧ Below w.heap.size w wr)
    (fun i _ => 8 - (intOf i).toNat)
  case atStart => exact ⟨0, by omega, rfl, heap3_2 _ _ _ _, heap3_1 _ _ _ _, heap3_0 _ _ _ _, (((Below.refl _ _).alloc (Nat.le_refl _) _).alloc (by simp) _).alloc (by simp; omega) _⟩
  case round =>
    obtain ⟨k, hk, rfl, hw3, hw2, hw1, hB⟩ := hrel
    by_cases hlt : k < 8
    · have hc0 := hw1.cell k (by rw [hh.out]; exact hlt)
      obtain ⟨x, hx⟩ : ∃ x, x = nth sv k := ⟨_, rfl⟩
      rw [← hx] at hc0
      have d0 := hw3.cell (4 * k) (by rw [length_bytesTo]; omega)
      have f0 := hw3.free (4 * k)
      have d1 := hw3.cell (4 * k + 1) (by rw [length_bytesTo]; omega)
      have f1 := hw3.free (4 * k + 1)
      have d2 := hw3.cell (4 * k + 2) (by rw [length_bytesTo]; omega)
      have f2 := hw3.free (4 * k + 2)
      have d3 := hw3.cell (4 * k + 3) (by rw [length_bytesTo]; omega)
      have f3 := hw3.free (4 * k + 3)
      have HX := hide hx
      have H3 := hide hw3
      have H2 := hide hw2
      have H1 := hide hw1
      have HB := hide hB
      clear hx hw3 hw2 hw1 hB
      go_wp2_with fail
      have HD := hide (((((H3.out.set (4 * k) (x / 16777216 % 256)).set (4 * k + 1) (x / 65536 % 256)).set (4 * k + 2) (x / 256 % 256)).set (4 * k + 3) (x % 256)))
      go_roundw
      case rel =>
        refine ⟨k + 1, by omega, by go_num, by rw [← bytesTo_four sv k x HX.out]; exact HD.out, ?_, ?_, ?_⟩
        · exact ((((H2.out.other _ _ (by simp)).other _ _ (by simp)).other _ _ (by simp)).other _ _ (by simp))
        · exact ((((H1.out.other _ _ (by simp; omega)).other _ _ (by simp; omega)).other _ _ (by simp; omega)).other _ _ (by simp; omega))
        · exact ((((HB.out.setCell (by simp; omega) _).setCell (by simp; omega) _).setCell (by simp; omega) _).setCell (by simp; omega) _)
      case measure => simp [intOf]; omega
    · have hw3' : Blk wr (w.heap.size + 1 + 1) 29 .u8 (outS sv) := by
        rw [outS, show 32 = 4 * k from by omega]; exact hw3
      clear hw3 hw1
      go_wp2_with (first | (with_reducible refine wpList_load_row rfl 29 (.tmp 3) rfl (w.heap.size + 1 + 1) rfl _ _ (0, 0) _ hw3'.row Tryd.underlying29 rfl (sz36 _ (length_outS sv)) ?_) | (with_reducible refine wpList_store_row rfl 29 (.tmp 2) (.tmp 43) rfl (w.heap.size + 1) _ rfl rfl _ _ hw2.row (sz36 _ (length_outS sv)) (szZ32 _ (length_outS sv)) (oneCell_cellsOf _ _) ?_))
      refine bodyPost_ret (v := .agg (cellsOf .u8 (outS sv))) (results_cell_row rfl _ _ (w.heap.size + 1) _ _ (0, 0) _ rfl (hw2.setRow (outS sv)).row Tryd.underlying29 rfl (sz36 _ (length_outS sv))) rfl ?_
      exact ⟨rfl, below_setRow hB (by omega) _⟩
end Go.Proofs.YtaomigfmjglggaaDoor
