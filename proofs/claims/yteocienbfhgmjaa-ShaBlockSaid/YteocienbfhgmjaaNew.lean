/- New of package sha: its contract. -/
import Derived.Test.YteocienbfhgmjaaProg
import Derived.Test.YteocienbfhgmjaaFirst
import Derived.Test.YteocienbfhgmjaaBlocks2
namespace Go.Proofs.Yteocienbfhgmjaa
open Go.RowKit

/-- A Sha's value: its state, its rest, how many bytes it has. -/
def shaV (h : List Int) (rest : Value) (n : Int) : Value := .agg (cellsOf .u32 h ++ #[rest, .int .u64 n])

theorem firstLit : cellsOf .u32 firstS = #[.int .u32 0x6a09e667, .int .u32 0xbb67ae85, .int .u32 0x3c6ef372, .int .u32 0xa54ff53a, .int .u32 0x510e527f, .int .u32 0x9b05688c, .int .u32 0x1f83d9ab, .int .u32 0x5be0cd19] := rfl

theorem newOne : (#[.int .u32 0x6a09e667, .int .u32 0xbb67ae85, .int .u32 0x3c6ef372, .int .u32 0xa54ff53a, .int .u32 0x510e527f, .int .u32 0x9b05688c, .int .u32 0x1f83d9ab, .int .u32 0x5be0cd19, .slice none 0 0, .int .u64 0] : Array Value).all (·.oneCell') = true := by simp [Value.oneCell']
theorem size41 : (Try.prog.info? 41).map (·.size) = some 10 := by kernel_rfl

set_option maxRecDepth 100000 in
set_option maxHeartbeats 1000000 in
theorem new_any (w : World) : Calls Try.prog 25 #[] w (fun e w' => e = .returned (shaV firstS (.slice none 0 0) 0) ∧ Below w.heap.size w w') := by
  go_enter Try.func25, Try.ntmps25
  go_wp2_with fail
  refine (first_any _).mono ?_
  rw [firstLit]
  rintro e w1 ⟨rfl, hB1⟩
  have hb : w1.heap[w.heap.size]? = some (.cells #[.int .u32 0, .int .u32 0, .int .u32 0, .int .u32 0, .int .u32 0, .int .u32 0, .int .u32 0, .int .u32 0, .slice none 0 0, .int .u64 0] 41) := (hB1.block _ (by simp)).trans (heap_alloc_new _ _)
  have hB0 : Below w.heap.size w w1 := ((Below.refl _ _).alloc (Nat.le_refl _) _).trans (hB1.mono (by simp))
  clear hB1
  go_wp2_with (refine wpList_store_row rfl 41 (.tmp 0) (.tmp 2) rfl w.heap.size #[.int .u32 0x6a09e667, .int .u32 0xbb67ae85, .int .u32 0x3c6ef372, .int .u32 0xa54ff53a, .int .u32 0x510e527f, .int .u32 0x9b05688c, .int .u32 0x1f83d9ab, .int .u32 0x5be0cd19, .slice none 0 0, .int .u64 0] rfl rfl _ _ hb size41 rfl newOne ?_)
  refine bodyPost_ret (results_cell_row rfl _ _ w.heap.size _ #[.int .u32 0x6a09e667, .int .u32 0xbb67ae85, .int .u32 0x3c6ef372, .int .u32 0xa54ff53a, .int .u32 0x510e527f, .int .u32 0x9b05688c, .int .u32 0x1f83d9ab, .int .u32 0x5be0cd19, .slice none 0 0, .int .u64 0] (0, 0) _ rfl (setRow_heap _ _ _ _ _ _ hb) Try.underlying41 rfl size41) rfl ?_
  exact ⟨rfl, below_setRow hB0 (Nat.le_refl _) _⟩
end Go.Proofs.Yteocienbfhgmjaa
