/- Package code: the operations of a writer: U8, Raw, U32, Uint. -/
import Derived.Test.YtdlhengfhmkpdaaDoorCdW
namespace Go.Proofs.YtdlhengfhmkpdaaDoor
open Go.RowKit

set_option maxRecDepth 100000 in
theorem u8_any (x : Int) (W : World) (B : Nat) (F : Nat → Prop) (g : Nat) (xs : List Int) (h : Wr W B F g xs) (hb : xs.length + 1 ≤ 140737488355328) :
    Calls Tryd.prog 55 #[.pointer (some ⟨g, 0, none⟩), .int .u8 x] W (WrPost W B F g (xs ++ [x])) := by
  have hB0 : Below W.heap.size W (W.alloc (.cells (cellsOf .u8 [x]) 5)) := (Below.refl _ _).alloc (Nat.le_refl _) _
  have HA := hide (add_any _ B F g xs (h.keep (Keep.of_below (F := fun _ => False) hB0) (fun _ _ => id)) (.slice (some ⟨W.heap.size, 0, none⟩) 1 1) [x] (slAt_lit (heap_alloc_new _ _) (by simp)) (off_new h.ge (Nat.le_refl _)) hb)
  have HF := hide h.ge
  have HB := hide h.hB
  have HB0 := hide hB0
  clear h hB0
  rw [show cellsOf .u8 [x] = #[.int .u8 x] from rfl] at HA HB0
  go_enter Tryd.func55, Tryd.ntmps55
  go_wp2_with fail
  refine HA.out.mono ?_
  intro e w' hp
  have hq := hp.pre HB0.out HF.out HB.out
  obtain ⟨rfl, _⟩ := hp
  have HQ := hide hq
  clear hq
  go_wp2_with fail
  first | go_end0 | refine bodyPost_ret (results_none rfl _ _ _) rfl ?_
  exact HQ.out

set_option maxRecDepth 100000 in
theorem raw_any (sv : Value) (ys : List Int) (W : World) (B : Nat) (F : Nat → Prop) (g : Nat) (xs : List Int) (h : Wr W B F g xs) (hs : SlAt W sv ys) (ho : Off F sv) (hb : xs.length + ys.length ≤ 140737488355328) :
    Calls Tryd.prog 59 #[.pointer (some ⟨g, 0, none⟩), sv] W (WrPost W B F g (xs ++ ys)) := by
  have HA := hide (add_any _ B F g xs h sv ys hs ho hb)
  clear h hs ho
  go_enter Tryd.func59, Tryd.ntmps59
  go_wp2_with fail
  refine HA.out.mono ?_
  intro e w' hp
  have HQ := hide hp
  obtain ⟨rfl, _⟩ := hp
  go_wp2_with fail
  first | go_end0 | refine bodyPost_ret (results_none rfl _ _ _) rfl ?_
  exact HQ.out
end Go.Proofs.YtdlhengfhmkpdaaDoor
