/- Package code: add, where a writer has no row yet. -/
import Derived.Test.YtdlhengfhmkpdaaDoorCdSome
namespace Go.Proofs.YtdlhengfhmkpdaaDoor
open Go.RowKit
set_option maxRecDepth 100000 in
theorem add_first (W : World) (B : Nat) (g : Nat) (hg : W.heap[g]? = some (.cells #[.pointer none, .int .i64 0] 120 (0, 0)))
   (hB : B ≤ W.heap.size) (hgl : g < W.heap.size) (sv : Value) (ys : List Int) (hs : SlAt W sv ys) (ho : Off (fun k => k = g) sv) (hb : ys.length ≤ 140737488355328) :
    Calls Tryd.prog 90 #[.pointer (some ⟨g, 0, none⟩), sv] W (fun e w' => e = .returned (.tuple #[]) ∧ ∃ v', w'.heap[g]? = some (.cells #[.pointer (some ⟨W.heap.size, 0, none⟩), .int .i64 ys.length] 120 (0, 0)) ∧ w'.heap[W.heap.size]? = some (.cells #[v'] 22 (0, 0)) ∧ Row w' B v' ys ∧
      (∀ k, v'.ownBlock = some k → W.heap.size < k) ∧ Keep (fun k => k = g) W w') := by
  have hc0 : W.cell? ⟨g, 0, none⟩ = some (.pointer none) := (cell_of_row W g 0 _ _ _ hg).trans rfl
  have HBY := hide (fun w0 h => bytes_empty g w0 h)
  have HS := hide hs
  have HO := hide ho
  have HG := hide hg
  clear hs hg ho
  go_enter Tryd.func90, Tryd.ntmps90
  go_wp2_with fail
  go_quiet (fail)
  have hg2 : (W.drewN nq).heap[g]? = _ := HG.out
  have HBd := hide (drewN_below W nq)
  have HSZ : Hid ((W.drewN nq).heap.size = W.heap.size) := hide rfl
  generalize W.drewN nq = Wd at hg2 HBd HSZ ⊢
  have hgl2 : g < Wd.heap.size := by rw [HSZ.out]; exact hgl
  have HC2 := hide (HBY.out Wd hg2)
  clear HBY hc0
  go_wp2_with fail
  refine HC2.out.mono ?_
  rintro e w1 ⟨rfl, rfl⟩
  clear HC2
  have hg3 : (w1.alloc (.cells #[.slice none 0 0] 22)).heap[g]? = some (.cells #[.pointer none, .int .i64 0] 120 (0, 0)) := (Below.heap_alloc _ _ g hgl2).trans hg2
  have f0 := frozen_of_row _ g 0 _ _ hg3
  have hc0 : (w1.alloc (.cells #[.slice none 0 0] 22)).cell? ⟨g, 0, none⟩ = some (.pointer none) := (cell_of_row _ g 0 _ _ _ hg3).trans rfl
  go_wp2_with fail
  have h4g : ((w1.setCell ⟨g, 0, none⟩ (.pointer (some ⟨w1.heap.size, 0, none⟩))).alloc (.cells #[.slice none 0 0] 22)).heap[g]? = some (.cells #[.pointer (some ⟨w1.heap.size, 0, none⟩), .int .i64 0] 120 (0, 0)) := by
    rw [Below.heap_alloc _ _ g (by simpa using hgl2), heap_setCell_same _ g 0 _ _ _ hg2]
    rfl
  have h4q : ((w1.setCell ⟨g, 0, none⟩ (.pointer (some ⟨w1.heap.size, 0, none⟩))).alloc (.cells #[.slice none 0 0] 22)).heap[w1.heap.size]? = some (.cells #[.slice none 0 0] 22 (0, 0)) := by
    have := heap_alloc_new (w1.setCell ⟨g, 0, none⟩ (.pointer (some ⟨w1.heap.size, 0, none⟩))) (.cells #[.slice none 0 0] 22)
    simpa using this
  have HK4 : Hid (Keep (fun k => k = g) W ((w1.setCell ⟨g, 0, none⟩ (.pointer (some ⟨w1.heap.size, 0, none⟩))).alloc (.cells #[.slice none 0 0] 22))) :=
    hide (((Keep.of_below HBd.out : Keep (fun k => k = g) W w1).trans (Keep.set (F := fun k => k = g) w1 ⟨g, 0, none⟩ (.pointer (some ⟨w1.heap.size, 0, none⟩)) rfl) (fun _ h => .inl h)).trans (Keep.alloc (fun k => k = g) _ _) (fun _ h => .inl h))
  have HS4 : Hid (((w1.setCell ⟨g, 0, none⟩ (.pointer (some ⟨w1.heap.size, 0, none⟩))).alloc (.cells #[.slice none 0 0] 22)).heap.size = W.heap.size + 1) := hide (by simp [HSZ.out])
  generalize (w1.setCell ⟨g, 0, none⟩ (.pointer (some ⟨w1.heap.size, 0, none⟩))).alloc (.cells #[.slice none 0 0] 22) = W4 at h4g h4q HK4 HS4 ⊢
  have hqg : w1.heap.size ≠ g := fun e => by omega
  have hq4 : w1.heap.size < W4.heap.size := by rw [HS4.out, HSZ.out]; omega
  have hg4 : g < W4.heap.size := by rw [HS4.out]; omega
  have hB4 : B ≤ W4.heap.size := by rw [HS4.out]; omega
  have HSV := hide (HSZ.out)
  generalize w1.heap.size = q at h4g h4q hqg hq4 HSV ⊢
  clear hg2 HBd HSZ hgl2 hg3 f0 hc0
  have hc0' : W4.cell? ⟨g, 0, none⟩ = some (.pointer (some ⟨q, 0, none⟩)) := (cell_of_row _ g 0 _ _ _ h4g).trans rfl
  have hcq' : W4.cell? ⟨q, 0, none⟩ = some (.slice none 0 0) := (cell_of_row _ q 0 _ _ _ h4q).trans rfl
  go_wp2_with fail
  obtain ⟨v', w2, hrun, hrow, hk, hat⟩ := append_keep W4.drew B (.slice none 0 0) [] (Row.nil _ _) sv ys (HS.out.keep HK4.out.drewR HO.out) (by simpa using hb) hB4
  rw [List.nil_append] at hrow
  obtain ⟨ao', cap', rfl⟩ := hrow.slAt.len
  have hg1 : w2.heap[g]? = some (.cells #[.pointer (some ⟨q, 0, none⟩), .int .i64 0] 120 (0, 0)) := (hk.block g hg4 (fun e => by simp [Value.ownBlock] at e)).trans h4g
  have hq1 : w2.heap[q]? = some (.cells #[.slice none 0 0] 22 (0, 0)) := (hk.block q hq4 (fun e => by simp [Value.ownBlock] at e)).trans h4q
  have d0 : w2.cell? ⟨g, 0, none⟩ = some (.pointer (some ⟨q, 0, none⟩)) := (cell_of_row w2 g 0 _ _ _ hg1).trans rfl
  have d1 : w2.cell? ⟨g, 1, none⟩ = some (.int .i64 0) := (cell_of_row w2 g 1 _ _ _ hg1).trans rfl
  have dq : w2.cell? ⟨q, 0, none⟩ = some (.slice none 0 0) := (cell_of_row w2 q 0 _ _ _ hq1).trans rfl
  have f1 := frozen_of_row w2 g 1 _ _ hg1
  have fq := frozen_of_row w2 q 0 _ _ hq1
  have HRUN := hide hrun
  have HR1 := hide hrow
  have HKK := hide hk
  have HA := hide hat
  have HG1 := hide hg1
  have HQ1 := hide hq1
  have HQG := hide hqg
  clear hrun hrow hk hat hg1 hq1 h4g h4q
  go_region_law (refine step_append_run rfl (.tmp 40) (.tmp 41) 22 22 22 rfl rfl (.slice none 0 0) sv _ _ rfl rfl HRUN.out ?_)
  all_goals go_wp2_with fail
  all_goals
    first | go_end0 | refine bodyPost_ret (results_none rfl _ _ _) rfl ?_
    obtain ⟨u, e1, e2, e3, e4, e5⟩ := add_done W4 W4.drew _ B g q (.slice none 0 0) (.slice ao' ys.length cap') ys 0 (Below.refl _ _).drew rfl HQG.out hg4 hq4 (fun k e => by simp [Value.ownBlock] at e) HG1.out HQ1.out HR1.out HKK.out HA.out (ys.length : Int) rfl
    refine ⟨rfl, u, ?_, ?_, e3, ?_, ?_⟩
    · rw [← HSV.out]; exact e1
    · rw [← HSV.out]; exact e2
    · intro k hk
      rcases e4 with h | h
      · rw [h] at hk; simp [Value.ownBlock] at hk
      · rw [h] at hk; injection hk with hk; rw [← hk, HS4.out]; omega
    · refine HK4.out.trans e5 (fun x hx => ?_)
      rcases hx with h | h | h
      · exact .inl h
      · exact .inr (by rw [h, HSV.out]; exact Nat.le_refl _)
      · simp [Value.ownBlock] at h
end Go.Proofs.YtdlhengfhmkpdaaDoor
