/- Package code: Bytes and add. -/
import Derived.Test.YtdlhengfhmkpdaaDoorCdClone
import Derived.StillTailTactics
namespace Go.Proofs.YtdlhengfhmkpdaaDoor
open Go.RowKit
set_option maxRecDepth 100000 in
theorem bytes_some (W : World) (B : Nat) (g q : Nat) (v : Value) (xs : List Int) (hg : W.heap[g]? = some (.cells #[.pointer (some ⟨q, 0, none⟩), .int .i64 xs.length] 120 (0, 0))) (hq : W.heap[q]? = some (.cells #[v] 22 (0, 0))) (hr : Row W B v xs) (hb : xs.length ≤ 140737488355328) :
    Calls Tryd.prog 61 #[.pointer (some ⟨g, 0, none⟩)] W (fun e w' => ∃ v', e = .returned v' ∧ Row w' W.heap.size v' xs ∧ Below W.heap.size W w') := by
  have hc0 : W.cell? ⟨g, 0, none⟩ = some (.pointer (some ⟨q, 0, none⟩)) := (cell_of_row W g 0 _ _ _ hg).trans rfl
  have hc1 : W.cell? ⟨g, 1, none⟩ = some (.int .i64 xs.length) := (cell_of_row W g 1 _ _ _ hg).trans rfl
  have hcq : W.cell? ⟨q, 0, none⟩ = some v := (cell_of_row W q 0 _ _ _ hq).trans rfl
  obtain ⟨ao, cap, rfl⟩ := hr.slAt.len
  have hle := hr.slAt.le.1
  have hcut := run_cut_h (P := Tryd.prog) Tryd.underlying22 size5 ao xs.length cap xs.length hle
  have HC := hide (fun w0 h => clone_any (.slice ao xs.length cap) xs w0 (hr.slAt.below h) hb)
  clear hr hle hg hq
  go_enter Tryd.func61, Tryd.ntmps61
  go_wp2_with fail
  go_still_tail 11, (by kernel_rfl)
  clear hc0 hc1 hcq hcut
  change wpList _ _ _ _ _ W.drew
  have HC2 := hide (HC.out W.drew (Below.refl _ _).drew)
  clear HC
  go_wp2_with fail
  refine HC2.out.mono ?_
  rintro e w' ⟨v', rfl, hr, hB⟩
  have HR := hide (hr.base (Nat.le_refl _))
  have HB := hide ((Below.refl W.heap.size W).drew.trans hB)
  clear hr hB HC2
  go_wp2_with fail
  go_ret
  exact ⟨_, rfl, HR.out, HB.out⟩

/-- What a writer has. -/
theorem bytes_any (W : World) (B : Nat) (F : Nat → Prop) (g : Nat) (xs : List Int) (h : Wr W B F g xs) (hb : xs.length ≤ 140737488355328) :
    Calls Tryd.prog 61 #[.pointer (some ⟨g, 0, none⟩)] W (fun e w' => ∃ v', e = .returned v' ∧ Row w' W.heap.size v' xs ∧ Below W.heap.size W w') := by
  rcases h.shape with ⟨rfl, hg⟩ | ⟨q, v, hq, hFq, hg, hqq, hr, hv⟩
  · refine (bytes_empty g W hg).mono ?_
    rintro e w' ⟨rfl, rfl⟩
    exact ⟨_, rfl, Row.nil _ _, Below.refl _ _⟩
  · exact bytes_some W B g q v xs hg hqq hr hb

set_option maxRecDepth 100000 in
theorem add_nil (sv : Value) (W : World) :
    Calls Tryd.prog 90 #[.pointer none, sv] W (fun e w' => e = .returned (.tuple #[]) ∧ w' = W) := by
  go_enter Tryd.func90, Tryd.ntmps90
  go_wp2_with fail
  first | go_end0 | refine bodyPost_ret (results_none rfl _ _ _) rfl ?_
  exact ⟨rfl, rfl⟩
end Go.Proofs.YtdlhengfhmkpdaaDoor
