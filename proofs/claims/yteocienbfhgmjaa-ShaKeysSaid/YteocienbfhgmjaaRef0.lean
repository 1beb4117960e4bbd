/- The small functions of the document's answer for layer 1: turning a word, the tables, the first state. -/
import Derived.Test.YteocienbfhgmjaaProg
import Derived.Test.YteocienbfhgmjaaPlain
import Derived.Test.YteocienbfhgmjaaPrimeP
import Derived.Test.YteocienbfhgmjaaTake
namespace Go.Proofs.Yteocienbfhgmjaa
open Go.RowKit

theorem bits_or_comm (k : IntKind) (x y : Int) : bits .or k x y = bits .or k y x := by simp only [bits, BitVec.or_comm]

theorem ror_ref (x : Int) (n : Nat) (w : World) (h0 : 1 ≤ n) (h1 : n ≤ 31) :
    Calls Try.prog 36 #[.int .u32 x, .int .u64 n] w fun e w' => e = .returned (.int .u32 (rorS x n)) ∧ w = w' := by
  have hw : IntKind.u64.wrap (32 - (n : Int)) = ((32 - n : Nat) : Int) := by rw [IntKind.wrap_u64]; omega
  go_enter Try.func36, Try.ntmps36
  go_wp2
  go_ret
  exact ⟨congrArg (fun v => Ending.returned (Value.int .u32 v)) (bits_or_comm _ _ _), rfl⟩

set_option maxRecDepth 100000 in
set_option maxHeartbeats 2000000 in
theorem table_ref (w : World) : Calls Try.prog 29 #[] w fun e w' => e = .returned (.agg (cellsOf .u32 keysS)) ∧ Below w.heap.size w w' := by
  go_enter Try.func29, Try.ntmps29
  go_wp2_with (first | (with_reducible refine wpList_alloc_row rfl 26 rfl (cellsOf .u32 zeros64) zero26 ?_) | (refine wpList_store_row rfl 26 (.tmp 0) (.tmp 1) rfl w.heap.size (cellsOf .u32 keysS) rfl rfl _ _ (heap_alloc_new _ _) (sz26 keysS rfl) rfl (oneCell_cellsOf _ _) ?_))
  refine bodyPost_ret (results_cell_row rfl _ _ w.heap.size _ (cellsOf .u32 keysS) (0, 0) _ rfl (setRow_heap _ _ _ _ _ _ (heap_alloc_new _ _)) Try.underlying26 rfl (sz26 keysS rfl)) rfl ?_
  exact ⟨rfl, below_setRow ((Below.refl _ _).alloc (Nat.le_refl _) _) (Nat.le_refl _) _⟩

set_option maxRecDepth 100000 in
theorem begin_ref (w : World) : Calls Try.prog 30 #[] w fun e w' => e = .returned (.agg (cellsOf .u32 firstS)) ∧ Below w.heap.size w w' := by
  go_enter Try.func30, Try.ntmps30
  go_wp2_with (first | (with_reducible refine wpList_alloc_row rfl 24 rfl (cellsOf .u32 zeros8) zero24 ?_) | (refine wpList_store_row rfl 24 (.tmp 0) (.tmp 1) rfl w.heap.size (cellsOf .u32 firstS) rfl rfl _ _ (heap_alloc_new _ _) (sz24 firstS rfl) rfl (oneCell_cellsOf _ _) ?_))
  refine bodyPost_ret (results_cell_row rfl _ _ w.heap.size _ (cellsOf .u32 firstS) (0, 0) _ rfl (setRow_heap _ _ _ _ _ _ (heap_alloc_new _ _)) Try.underlying24 rfl (sz24 firstS rfl)) rfl ?_
  exact ⟨rfl, below_setRow ((Below.refl _ _).alloc (Nat.le_refl _) _) (Nat.le_refl _) _⟩
end Go.Proofs.Yteocienbfhgmjaa
