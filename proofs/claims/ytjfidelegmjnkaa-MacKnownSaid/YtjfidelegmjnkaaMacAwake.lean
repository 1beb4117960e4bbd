/- The law's own function awake of layer 2: it answers true. -/
import Derived.Test.YtjfidelegmjnkaaProg
import Derived.Test.YtjfidelegmjnkaaMacOf
import Derived.Test.YtjfidelegmjnkaaMacEq
import Derived.Test.YtjfidelegmjnkaaFrame
import Derived.Test.YtjfidelegmjnkaaGen
import Derived.Lib.SmallJoins
namespace Go.Proofs.Ytjfidelegmjnkaa
open Go.RowKit

set_option maxRecDepth 100000 in
theorem jefe : (nth (macS [74, 101, 102, 101] [119, 104, 97, 116, 32, 100, 111, 32, 121, 97, 32, 119, 97, 110, 116, 32, 102, 111, 114, 32, 110, 111, 116, 104, 105, 110, 103, 63]) 0 = 91 ∧ nth (macS [74, 101, 102, 101] [119, 104, 97, 116, 32, 100, 111, 32, 121, 97, 32, 119, 97, 110, 116, 32, 102, 111, 114, 32, 110, 111, 116, 104, 105, 110, 103, 63]) 1 = 220) ∧ nth (macS [74, 101, 102, 101] [119, 104, 97, 116, 32, 100, 111, 32, 121, 97, 32, 119, 97, 110, 116, 32, 102, 111, 114, 32, 110, 111, 116, 104, 105, 110, 103, 63]) 31 = 67 := by decide +kernel

theorem macS_range (k m : List Int) : ∀ x ∈ macS k m, 0 ≤ x ∧ x < 256 := by rw [macS]; exact sumS_range _

theorem diff_self (X : List Int) (h : X.length = 32) (hb : ∀ i, i < 32 → 0 ≤ nth X i ∧ nth X i < 256) : (diffTo X X 32 == 0) = true := by
  rw [diffTo_all X X h h hb hb]
  simp

set_option maxRecDepth 100000 in
set_option maxHeartbeats 1000000 in
theorem awake_any (w : World) : Calls Try.prog 8 #[] w (LawPost w) := by
  have kc := fun (w : World) (C : Array Value) (n c g : Nat) (hg : g = w.heap.size) => Joins.run_convert_bytes_const_at (P := Try.prog) w 22 5 C n c g hg Try.underlying22 Try.underlying5
  go_enter Try.func8, Try.ntmps8
  go_wp2_with (with_reducible refine wpList_alloc_row rfl 25 rfl (cellsOf .u8 zeros32) zero36 ?_)
  have hB0 : Below w.heap.size w ((((w.alloc (.cells (cellsOf .u8 [74, 101, 102, 101]) 5 (4, 5))).alloc (.cells (cellsOf .u8 [119, 104, 97, 116, 32, 100, 111, 32, 121, 97, 32, 119, 97, 110, 116, 32]) 5 (16, 17))).alloc (.cells (cellsOf .u8 [102, 111, 114, 32, 110, 111, 116, 104, 105, 110, 103, 63]) 5 (12, 13))).alloc (.cells #[.slice (some ⟨w.heap.size + 1, 0, none⟩) 16 16, .slice (some ⟨w.heap.size + 1 + 1, 0, none⟩) 12 12] 22)) :=
    ((((Below.refl _ _).alloc (Nat.le_refl _) _).alloc (by simp) _).alloc (by simp; omega) _).alloc (by simp; omega) _
  have h0 := heap4_0 w (.cells (cellsOf .u8 [74, 101, 102, 101]) 5 (4, 5)) (.cells (cellsOf .u8 [119, 104, 97, 116, 32, 100, 111, 32, 121, 97, 32, 119, 97, 110, 116, 32]) 5 (16, 17)) (.cells (cellsOf .u8 [102, 111, 114, 32, 110, 111, 116, 104, 105, 110, 103, 63]) 5 (12, 13)) (.cells #[.slice (some ⟨w.heap.size + 1, 0, none⟩) 16 16, .slice (some ⟨w.heap.size + 1 + 1, 0, none⟩) 12 12] 22)
  have h1 := heap4_1 w (.cells (cellsOf .u8 [74, 101, 102, 101]) 5 (4, 5)) (.cells (cellsOf .u8 [119, 104, 97, 116, 32, 100, 111, 32, 121, 97, 32, 119, 97, 110, 116, 32]) 5 (16, 17)) (.cells (cellsOf .u8 [102, 111, 114, 32, 110, 111, 116, 104, 105, 110, 103, 63]) 5 (12, 13)) (.cells #[.slice (some ⟨w.heap.size + 1, 0, none⟩) 16 16, .slice (some ⟨w.heap.size + 1 + 1, 0, none⟩) 12 12] 22)
  have h2 := heap4_2 w (.cells (cellsOf .u8 [74, 101, 102, 101]) 5 (4, 5)) (.cells (cellsOf .u8 [119, 104, 97, 116, 32, 100, 111, 32, 121, 97, 32, 119, 97, 110, 116, 32]) 5 (16, 17)) (.cells (cellsOf .u8 [102, 111, 114, 32, 110, 111, 116, 104, 105, 110, 103, 63]) 5 (12, 13)) (.cells #[.slice (some ⟨w.heap.size + 1, 0, none⟩) 16 16, .slice (some ⟨w.heap.size + 1 + 1, 0, none⟩) 12 12] 22)
  have h3 := heap4_3 w (.cells (cellsOf .u8 [74, 101, 102, 101]) 5 (4, 5)) (.cells (cellsOf .u8 [119, 104, 97, 116, 32, 100, 111, 32, 121, 97, 32, 119, 97, 110, 116, 32]) 5 (16, 17)) (.cells (cellsOf .u8 [102, 111, 114, 32, 110, 111, 116, 104, 105, 110, 103, 63]) 5 (12, 13)) (.cells #[.slice (some ⟨w.heap.size + 1, 0, none⟩) 16 16, .slice (some ⟨w.heap.size + 1 + 1, 0, none⟩) 12 12] 22)
  change Calls Try.prog 9 _ ((((w.alloc (.cells (cellsOf .u8 [74, 101, 102, 101]) 5 (4, 5))).alloc (.cells (cellsOf .u8 [119, 104, 97, 116, 32, 100, 111, 32, 121, 97, 32, 119, 97, 110, 116, 32]) 5 (16, 17))).alloc (.cells (cellsOf .u8 [102, 111, 114, 32, 110, 111, 116, 104, 105, 110, 103, 63]) 5 (12, 13))).alloc (.cells #[.slice (some ⟨w.heap.size + 1, 0, none⟩) 16 16, .slice (some ⟨w.heap.size + 1 + 1, 0, none⟩) 12 12] 22)) _
  generalize ((((w.alloc (.cells (cellsOf .u8 [74, 101, 102, 101]) 5 (4, 5))).alloc (.cells (cellsOf .u8 [119, 104, 97, 116, 32, 100, 111, 32, 121, 97, 32, 119, 97, 110, 116, 32]) 5 (16, 17))).alloc (.cells (cellsOf .u8 [102, 111, 114, 32, 110, 111, 116, 104, 105, 110, 103, 63]) 5 (12, 13))).alloc (.cells #[.slice (some ⟨w.heap.size + 1, 0, none⟩) 16 16, .slice (some ⟨w.heap.size + 1 + 1, 0, none⟩) 12 12] 22)) = w0 at hB0 h0 h1 h2 h3 ⊢
  have hpa : PartsAt w0 (w.heap.size + 1 + 1 + 1) 0 [[119, 104, 97, 116, 32, 100, 111, 32, 121, 97, 32, 119, 97, 110, 116, 32], [102, 111, 114, 32, 110, 111, 116, 104, 105, 110, 103, 63]] :=
    parts_two ((cell_of_row _ _ 0 _ _ _ h3).trans rfl) ((cell_of_row _ _ 1 _ _ _ h3).trans rfl) (Array.getElem?_eq_some_iff.1 h3).1 (slAt_lit h1 (by simp)) (slAt_lit h2 (by simp))
  have HC := hide (macOf_any [74, 101, 102, 101] _ [[119, 104, 97, 116, 32, 100, 111, 32, 121, 97, 32, 119, 97, 110, 116, 32], [102, 111, 114, 32, 110, 111, 116, 104, 105, 110, 103, 63]] (w.heap.size + 1 + 1 + 1) 0 2 _ (slAt_lit h0 (Nat.le_refl _)) (by simp) hpa (by simp) (by simp) (by simp))
  clear hpa h0 h1 h2 h3
  refine HC.out.mono ?_
  rintro e w1 ⟨rfl, hB1⟩
  replace hB0 := below_through hB1 hB0
  clear hB1 HC w0
  rw [show [[119, 104, 97, 116, 32, 100, 111, 32, 121, 97, 32, 119, 97, 110, 116, 32], [102, 111, 114, 32, 110, 111, 116, 104, 105, 110, 103, 63]].flatten = ([119, 104, 97, 116, 32, 100, 111, 32, 121, 97, 32, 119, 97, 110, 116, 32, 102, 111, 114, 32, 110, 111, 116, 104, 105, 110, 103, 63] : List Int) from rfl]
  obtain ⟨⟨j0, j1⟩, j31⟩ := jefe
  have hl := hide (length_macS [74, 101, 102, 101] [119, 104, 97, 116, 32, 100, 111, 32, 121, 97, 32, 119, 97, 110, 116, 32, 102, 111, 114, 32, 110, 111, 116, 104, 105, 110, 103, 63])
  have hr := hide (macS_range [74, 101, 102, 101] [119, 104, 97, 116, 32, 100, 111, 32, 121, 97, 32, 119, 97, 110, 116, 32, 102, 111, 114, 32, 110, 111, 116, 104, 105, 110, 103, 63])
  generalize macS [74, 101, 102, 101] [119, 104, 97, 116, 32, 100, 111, 32, 121, 97, 32, 119, 97, 110, 116, 32, 102, 111, 114, 32, 110, 111, 116, 104, 105, 110, 103, 63] = X at j0 j1 j31 hl hr ⊢
  go_wp2_with (first
    | (with_reducible refine wpList_alloc_row rfl 25 rfl (cellsOf .u8 zeros32) zero36 ?_)
    | (with_reducible refine wpList_store_blk rfl 25 (.tmp 1) (.tmp 9) rfl w1.heap.size .u8 X rfl rfl _ _ (Blk.new w1 25 .u8 zeros32) (sz36 X hl.out) (zl32 hl.out) ?_))
  intro w2 hb2 hz2 hB2 hk2
  have hB3 : Below w.heap.size w w2 := (hB0.alloc hB0.size _).trans (hB2 _ hB0.size)
  clear hB2 hk2 hB0 hz2
  generalize w1.heap.size = g at hb2 ⊢
  have c0 := hb2.cell 0 (by rw [hl.out]; omega)
  have c1 := hb2.cell 1 (by rw [hl.out]; omega)
  have c31 := hb2.cell 31 (by rw [hl.out]; omega)
  rw [j0] at c0
  rw [j1] at c1
  rw [j31] at c31
  clear kc
  go_wp2_with (first | (refine wpList_load_row_w (by rfl) 25 (.tmp 1) rfl g rfl _ _ (0, 0) _ hb2.row Try.underlying25 rfl (sz36 X hl.out) ?_))
  refine (equal_any X X w2 hl hl).mono ?_
  rw [diff_self X hl.out (fun i _ => nth_range hr.out i)]
  rintro e w3 ⟨rfl, hBX⟩
  have hB4 := below_through hBX hB3
  clear hBX hB3 hb2 c0 c1 c31
  go_wp2_with fail
  go_ret
  exact ⟨rfl, hB4⟩
end Go.Proofs.Ytjfidelegmjnkaa
