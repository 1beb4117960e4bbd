/- Package code: add, where a writer has a row. -/
import Derived.Test.YtdlhengfhmkpdaaDoorCdAdd
import Derived.BigQuiet
import Derived.Deep.RegionLaw
import Derived.Deep.QuietTactic
namespace Go.Proofs.YtdlhengfhmkpdaaDoor
open Go.RowKit
theorem drewN_below (W : World) (n : Nat) : Below W.heap.size W (W.drewN n) := ⟨rfl, rfl, rfl, Nat.le_refl _, fun _ _ => rfl⟩

theorem add_done (W Wd w1 : World) (B g q : Nat) (v v' : Value) (zs : List Int) (m : Int) (hd : Below W.heap.size W Wd) (hs : Wd.heap.size = W.heap.size) (hqg : q ≠ g) (hgl : g < W.heap.size) (hql : q < W.heap.size) (hv : ∀ k, v.ownBlock = some k → k ≠ g ∧ k ≠ q)
    (hg1 : w1.heap[g]? = some (.cells #[.pointer (some ⟨q, 0, none⟩), .int .i64 m] 120 (0, 0))) (hq1 : w1.heap[q]? = some (.cells #[v] 22 (0, 0)))
    (hrow : Row w1 B v' zs) (hk : Keep (fun k => v.ownBlock = some k) Wd w1) (hat : v'.ownBlock = v.ownBlock ∨ v'.ownBlock = some Wd.heap.size) (n : Int) (hn : n = zs.length) :
    ∃ u, ((w1.setCell ⟨q, 0, none⟩ v').setCell ⟨g, 1, none⟩ (.int .i64 n)).heap[g]? = some (.cells #[.pointer (some ⟨q, 0, none⟩), .int .i64 zs.length] 120 (0, 0)) ∧ ((w1.setCell ⟨q, 0, none⟩ v').setCell ⟨g, 1, none⟩ (.int .i64 n)).heap[q]? = some (.cells #[u] 22 (0, 0)) ∧ Row ((w1.setCell ⟨q, 0, none⟩ v').setCell ⟨g, 1, none⟩ (.int .i64 n)) B u zs ∧
      (u.ownBlock = v.ownBlock ∨ u.ownBlock = some W.heap.size) ∧ Keep (fun k => k = g ∨ k = q ∨ v.ownBlock = some k) W ((w1.setCell ⟨q, 0, none⟩ v').setCell ⟨g, 1, none⟩ (.int .i64 n)) := by
  subst hn
  have hno : Off (fun k => k = g ∨ k = q) v' := fun k e h => by
    rcases hat with h1 | h1
    · have := hv k (h1 ▸ e); rcases h with rfl | rfl <;> simp_all
    · rw [h1, hs] at e; injection e with e; rcases h with rfl | rfl <;> omega
  have k1 : Keep (fun k => k = g ∨ k = q) w1 (w1.setCell ⟨q, 0, none⟩ v') := Keep.set _ _ _ (.inr rfl)
  have k2 : Keep (fun k => k = g ∨ k = q) (w1.setCell ⟨q, 0, none⟩ v') ((w1.setCell ⟨q, 0, none⟩ v').setCell ⟨g, 1, none⟩ (.int .i64 zs.length)) := Keep.set _ _ _ (.inl rfl)
  have k3 := k1.trans k2 (fun _ h => .inl h)
  refine ⟨v', ?_, ?_, hrow.keep k3 hno, by rw [hs] at hat; exact hat, ?_⟩
  · have h1 : (w1.setCell ⟨q, 0, none⟩ v').heap[g]? = some (.cells #[.pointer (some ⟨q, 0, none⟩), .int .i64 m] 120 (0, 0)) := (Below.heap_setCell _ _ _ _ (fun e => hqg e.symm)).trans hg1
    rw [heap_setCell_same _ g 1 _ _ _ h1]
    rfl
  · rw [Below.heap_setCell _ _ _ _ hqg, heap_setCell_same _ q 0 _ _ _ hq1]
    rfl
  · have k4 : Keep (fun k => k = g ∨ k = q ∨ v.ownBlock = some k) W Wd := Keep.of_below hd
    refine (k4.trans hk (fun x e => .inl (.inr (.inr e)))).trans k3 (fun x e => .inl ?_)
    rcases e with rfl | rfl
    · exact .inl rfl
    · exact .inr (.inl rfl)

set_option maxRecDepth 100000 in
theorem add_some (W : World) (B : Nat) (g q : Nat) (v : Value) (xs : List Int) (hg : W.heap[g]? = some (.cells #[.pointer (some ⟨q, 0, none⟩), .int .i64 xs.length] 120 (0, 0))) (hq : W.heap[q]? = some (.cells #[v] 22 (0, 0))) (hr : Row W B v xs)
   (hqg : q ≠ g) (hB : B ≤ W.heap.size) (hgl : g < W.heap.size) (hql : q < W.heap.size) (hv : ∀ k, v.ownBlock = some k → k ≠ g ∧ k ≠ q) (sv : Value) (ys : List Int) (hs : SlAt W sv ys) (hb : xs.length + ys.length ≤ 140737488355328) :
    Calls Tryd.prog 90 #[.pointer (some ⟨g, 0, none⟩), sv] W (fun e w' => e = .returned (.tuple #[]) ∧ ∃ v', w'.heap[g]? = some (.cells #[.pointer (some ⟨q, 0, none⟩), .int .i64 (xs ++ ys).length] 120 (0, 0)) ∧ w'.heap[q]? = some (.cells #[v'] 22 (0, 0)) ∧ Row w' B v' (xs ++ ys) ∧
      (v'.ownBlock = v.ownBlock ∨ v'.ownBlock = some W.heap.size) ∧ Keep (fun k => k = g ∨ k = q ∨ v.ownBlock = some k) W w') := by
  have hc0 : W.cell? ⟨g, 0, none⟩ = some (.pointer (some ⟨q, 0, none⟩)) := (cell_of_row W g 0 _ _ _ hg).trans rfl
  have hc1 : W.cell? ⟨g, 1, none⟩ = some (.int .i64 xs.length) := (cell_of_row W g 1 _ _ _ hg).trans rfl
  have hcq : W.cell? ⟨q, 0, none⟩ = some v := (cell_of_row W q 0 _ _ _ hq).trans rfl
  have HS := hide hs
  have HR := hide hr
  have HV := hide hv
  have HG := hide hg
  have HQ := hide hq
  obtain ⟨ao, cap, rfl⟩ := hr.slAt.len
  clear hs hr hv hg hq
  go_enter Tryd.func90, Tryd.ntmps90
  go_wp2_with fail
  go_quiet (fail)
  go_wp2_with fail
  have hc0' : (W.drewN nq).cell? ⟨g, 0, none⟩ = some (.pointer (some ⟨q, 0, none⟩)) := hc0
  have hcq' : (W.drewN nq).cell? ⟨q, 0, none⟩ = some (.slice ao xs.length cap) := hcq
  obtain ⟨v', w1, hrun, hrow, hk, hat⟩ := append_keep (W.drewN nq).drew B (.slice ao xs.length cap) xs HR.out sv ys HS.out hb hB
  obtain ⟨ao', cap', rfl⟩ := hrow.slAt.len
  have hg1 : w1.heap[g]? = some (.cells #[.pointer (some ⟨q, 0, none⟩), .int .i64 xs.length] 120 (0, 0)) := (hk.block g hgl (fun e => (HV.out g e).1 rfl)).trans HG.out
  have hq1 : w1.heap[q]? = some (.cells #[.slice ao xs.length cap] 22 (0, 0)) := (hk.block q hql (fun e => (HV.out q e).2 rfl)).trans HQ.out
  have d0 : w1.cell? ⟨g, 0, none⟩ = some (.pointer (some ⟨q, 0, none⟩)) := (cell_of_row w1 g 0 _ _ _ hg1).trans rfl
  have d1 : w1.cell? ⟨g, 1, none⟩ = some (.int .i64 xs.length) := (cell_of_row w1 g 1 _ _ _ hg1).trans rfl
  have dq : w1.cell? ⟨q, 0, none⟩ = some (.slice ao xs.length cap) := (cell_of_row w1 q 0 _ _ _ hq1).trans rfl
  have f1 := frozen_of_row w1 g 1 _ _ hg1
  have fq := frozen_of_row w1 q 0 _ _ hq1
  have HRUN := hide hrun
  have HR1 := hide hrow
  have HK := hide hk
  have HA := hide hat
  have HG1 := hide hg1
  have HQ1 := hide hq1
  clear hrun hrow hk hat hg1 hq1
  go_region_law (refine step_append_run rfl (.tmp 40) (.tmp 41) 22 22 22 rfl rfl (.slice ao xs.length cap) sv _ _ rfl rfl HRUN.out ?_)
  all_goals go_wp2_with fail
  all_goals
    first | go_end0 | refine bodyPost_ret (results_none rfl _ _ _) rfl ?_
    rw [List.length_append] at HR1 HA
    refine ⟨rfl, add_done W (W.drewN nq).drew _ B g q (.slice ao xs.length cap) (.slice ao' (xs.length + ys.length) cap') (xs ++ ys) xs.length (drewN_below W nq).drew rfl hqg hgl hql HV.out HG1.out HQ1.out HR1.out HK.out HA.out ((xs.length : Int) + (ys.length : Int)) (by simp)⟩
end Go.Proofs.YtdlhengfhmkpdaaDoor
