/- slices.Clone of bytes. -/
import Derived.Test.YtdlhengfhmkpdaaDoorCd
import Derived.Lib.SliceRun
namespace Go.Proofs.YtdlhengfhmkpdaaDoor
open Go.RowKit

set_option maxRecDepth 100000 in
/-- A copy, in memory of its own. -/
theorem clone_any (sv : Value) (xs : List Int) (w : World) (hs : SlAt w sv xs) (hb : xs.length ≤ 140737488355328) :
    Calls Tryd.prog 62 #[sv] w (fun e w' => ∃ v', e = .returned v' ∧ Row w' w.heap.size v' xs ∧ Below w.heap.size w w') := by
  obtain ⟨ao, cap, rfl⟩ := hs.len
  have q22 : ∀ (w : World) (a : Option Addr) (n c n' c' : Nat), (binOp .eql 22 (.slice a n c) (.slice none n' c')).run Tryd.prog w = .ok (.bool a.isNone) w := fun w a n c n' c' => Lib.run_eql_slice_nil w _ _ a n c n' c' Tryd.underlying22
  have HS := hide hs
  clear hs
  cases ao with
  | none =>
    have hx : xs = [] := by
      obtain ⟨ao', cap', hv, hn, _⟩ := HS.out
      injection hv with e1
      exact (hn e1.symm).1
    subst hx
    go_enter Tryd.func62, Tryd.ntmps62
    go_wp2_with fail
    go_ret
    exact ⟨_, rfl, Row.nil _ _, Below.refl _ _⟩
  | some ad =>
    have hB0 : Below w.heap.size w (w.alloc (.cells #[] 5)) := (Below.refl _ _).alloc (Nat.le_refl _) _
    obtain ⟨v', w', hrun, hrow, hk, _⟩ := append_keep (w.alloc (.cells #[] 5)) w.heap.size (.slice (some ⟨w.heap.size, 0, none⟩) 0 0) [] (Row.empty w) (.slice (some ad) xs.length cap) xs (HS.out.below hB0) (by simpa using hb) (by simp)
    have HR := hide hrow
    have HB := hide (hk.through hB0 (fun k e => by simp [Value.ownBlock] at e; omega) (by simp))
    clear hrow hk hB0
    go_enter Tryd.func62, Tryd.ntmps62
    go_wp2_with (first | (at_builtin; with_reducible refine wpList_append_run rfl (.tmp 5) (.tmp 6) 22 22 22 rfl rfl (.slice (some ⟨w.heap.size, 0, none⟩) 0 0) (.slice (some ad) xs.length cap) v' w' rfl rfl hrun ?_))
    go_ret
    exact ⟨v', rfl, HR.out, HB.out⟩

set_option maxRecDepth 100000 in
theorem newWriter_any (w : World) :
    Calls Tryd.prog 54 #[] w (fun e w' => e = .returned (.pointer (some ⟨w.heap.size, 0, none⟩)) ∧ w' = w.alloc (.cells #[.pointer none, .int .i64 0] 120)) := by
  go_enter Tryd.func54, Tryd.ntmps54
  go_wp2_with fail
  go_ret
  exact ⟨rfl, rfl⟩

set_option maxRecDepth 100000 in
theorem bytes_nil (w : World) :
    Calls Tryd.prog 61 #[.pointer none] w (fun e w' => e = .returned (.slice none 0 0) ∧ w' = w) := by
  go_enter Tryd.func61, Tryd.ntmps61
  go_wp2_with fail
  go_ret
  exact ⟨rfl, rfl⟩

set_option maxRecDepth 100000 in
theorem bytes_empty (g : Nat) (w : World) (hg : w.heap[g]? = some (.cells #[.pointer none, .int .i64 0] 120 (0, 0))) :
    Calls Tryd.prog 61 #[.pointer (some ⟨g, 0, none⟩)] w (fun e w' => e = .returned (.slice none 0 0) ∧ w' = w) := by
  have hc : w.cell? ⟨g, 0, none⟩ = some (.pointer none) := (cell_of_row w g 0 _ _ _ hg).trans rfl
  go_enter Tryd.func61, Tryd.ntmps61
  go_wp2_with fail
  go_ret
  exact ⟨rfl, rfl⟩
end Go.Proofs.YtdlhengfhmkpdaaDoor
