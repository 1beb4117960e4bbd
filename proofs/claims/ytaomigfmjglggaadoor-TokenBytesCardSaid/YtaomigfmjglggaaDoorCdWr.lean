/- slices.Clone of bytes. Package code: Bytes and add. Package code: add, where a writer has a row. Package code: add, where a writer has no row yet. Package code: what an operation of a writer leaves; the tables of places. Package code: Uint of a writer. Package code: the operations of a writer: U8. Package code: U32 and Text of a writer. Package code: Put. -/
import Derived.Test.YtaomigfmjglggaaDoorBase
import Derived.Lib.SliceRun
import Derived.StillTailTactics
import Derived.BigQuiet
import Derived.Deep.RegionLaw
import Derived.Deep.QuietTactic
namespace Go.Proofs.YtaomigfmjglggaaDoor
open Go.RowKit

set_option maxRecDepth 100000 in
/-- A copy, in memory of its own. -/
theorem clone_any (sv : Value) (xs : List Int) (w : World) (hs : SlAt w sv xs) (hb : xs.length ≤ 140737488355328) :
    Calls Tryd.prog 46 #[sv] w (fun e w' => ∃ v', e = .returned v' ∧ Row w' w.heap.size v' xs ∧ Below w.heap.size w w') := by
  obtain ⟨ao, cap, rfl⟩ := hs.len
  have q22 : ∀ (w : World) (a : Option Addr) (n c n' c' : Nat), (binOp .eql 22 (.slice a n c) (.slice none n' c')).run Tryd.prog w = .ok (.bool a.isNone) w := fun w a n c n' c' => Lib.run_eql_slice_nil w _ _ a n c n' c' Tryd.underlying22
  have HS := hide hs
  clear hs
  cases ao with
  | none =>
    have hx : xs = [] := by
      obtain ⟨ao', cap', hv, hn, _⟩ := HS.out
      injection hv with e1
      exact (hn e1.symm).1
    subst hx
    go_enter Tryd.func46, Tryd.ntmps46
    go_wp2_with fail
    go_ret
    exact ⟨_, rfl, Row.nil _ _, Below.refl _ _⟩
  | some ad =>
    have hB0 : Below w.heap.size w (w.alloc (.cells #[] 5)) := (Below.refl _ _).alloc (Nat.le_refl _) _
    obtain ⟨v', w', hrun, hrow, hk, _⟩ := append_keep (w.alloc (.cells #[] 5)) w.heap.size (.slice (some ⟨w.heap.size, 0, none⟩) 0 0) [] (Row.empty w) (.slice (some ad) xs.length cap) xs (HS.out.below hB0) (by simpa using hb) (by simp)
    have HR := hide hrow
    have HB := hide (hk.through hB0 (fun k e => by simp [Value.ownBlock] at e; omega) (by simp))
    clear hrow hk hB0
    go_enter Tryd.func46, Tryd.ntmps46
    go_wp2_with (first | (at_builtin; with_reducible refine wpList_append_run rfl (.tmp 5) (.tmp 6) 22 22 22 rfl rfl (.slice (some ⟨w.heap.size, 0, none⟩) 0 0) (.slice (some ad) xs.length cap) v' w' rfl rfl hrun ?_))
    go_ret
    exact ⟨v', rfl, HR.out, HB.out⟩

set_option maxRecDepth 100000 in
theorem newWriter_any (w : World) :
    Calls Tryd.prog 53 #[] w (fun e w' => e = .returned (.pointer (some ⟨w.heap.size, 0, none⟩)) ∧ w' = w.alloc (.cells #[.pointer none, .int .i64 0] 106)) := by
  go_enter Tryd.func53, Tryd.ntmps53
  go_wp2_with fail
  go_ret
  exact ⟨rfl, rfl⟩

set_option maxRecDepth 100000 in
theorem bytes_nil (w : World) :
    Calls Tryd.prog 58 #[.pointer none] w (fun e w' => e = .returned (.slice none 0 0) ∧ w' = w) := by
  go_enter Tryd.func58, Tryd.ntmps58
  go_wp2_with fail
  go_ret
  exact ⟨rfl, rfl⟩

set_option maxRecDepth 100000 in
theorem bytes_empty (g : Nat) (w : World) (hg : w.heap[g]? = some (.cells #[.pointer none, .int .i64 0] 106 (0, 0))) :
    Calls Tryd.prog 58 #[.pointer (some ⟨g, 0, none⟩)] w (fun e w' => e = .returned (.slice none 0 0) ∧ w' = w) := by
  have hc : w.cell? ⟨g, 0, none⟩ = some (.pointer none) := (cell_of_row w g 0 _ _ _ hg).trans rfl
  go_enter Tryd.func58, Tryd.ntmps58
  go_wp2_with fail
  go_ret
  exact ⟨rfl, rfl⟩
end Go.Proofs.YtaomigfmjglggaaDoor
namespace Go.Proofs.YtaomigfmjglggaaDoor
open Go.RowKit
set_option maxRecDepth 100000 in
theorem bytes_some (W : World) (B : Nat) (g q : Nat) (v : Value) (xs : List Int) (hg : W.heap[g]? = some (.cells #[.pointer (some ⟨q, 0, none⟩), .int .i64 xs.length] 106 (0, 0))) (hq : W.heap[q]? = some (.cells #[v] 22 (0, 0))) (hr : Row W B v xs) (hb : xs.length ≤ 140737488355328) :
    Calls Tryd.prog 58 #[.pointer (some ⟨g, 0, none⟩)] W (fun e w' => ∃ v', e = .returned v' ∧ Row w' W.heap.size v' xs ∧ Below W.heap.size W w') := by
  have hc0 : W.cell? ⟨g, 0, none⟩ = some (.pointer (some ⟨q, 0, none⟩)) := (cell_of_row W g 0 _ _ _ hg).trans rfl
  have hc1 : W.cell? ⟨g, 1, none⟩ = some (.int .i64 xs.length) := (cell_of_row W g 1 _ _ _ hg).trans rfl
  have hcq : W.cell? ⟨q, 0, none⟩ = some v := (cell_of_row W q 0 _ _ _ hq).trans rfl
  obtain ⟨ao, cap, rfl⟩ := hr.slAt.len
  have hle := hr.slAt.le.1
  have hcut := run_cut_h (P := Tryd.prog) Tryd.underlying22 size5 ao xs.length cap xs.length hle
  have HC := hide (fun w0 h => clone_any (.slice ao xs.length cap) xs w0 (hr.slAt.below h) hb)
  clear hr hle hg hq
  go_enter Tryd.func58, Tryd.ntmps58
  go_wp2_with fail
  go_still_tail 11, (by kernel_rfl)
  clear hc0 hc1 hcq hcut
  change wpList _ _ _ _ _ W.drew
  have HC2 := hide (HC.out W.drew (Below.refl _ _).drew)
  clear HC
  go_wp2_with fail
  refine HC2.out.mono ?_
  rintro e w' ⟨v', rfl, hr, hB⟩
  have HR := hide (hr.base (Nat.le_refl _))
  have HB := hide ((Below.refl W.heap.size W).drew.trans hB)
  clear hr hB HC2
  go_wp2_with fail
  go_ret
  exact ⟨_, rfl, HR.out, HB.out⟩

/-- What a writer has. -/
theorem bytes_any (W : World) (B : Nat) (F : Nat → Prop) (g : Nat) (xs : List Int) (h : Wr W B F g xs) (hb : xs.length ≤ 140737488355328) :
    Calls Tryd.prog 58 #[.pointer (some ⟨g, 0, none⟩)] W (fun e w' => ∃ v', e = .returned v' ∧ Row w' W.heap.size v' xs ∧ Below W.heap.size W w') := by
  rcases h.shape with ⟨rfl, hg⟩ | ⟨q, v, hq, hFq, hg, hqq, hr, hv⟩
  · refine (bytes_empty g W hg).mono ?_
    rintro e w' ⟨rfl, rfl⟩
    exact ⟨_, rfl, Row.nil _ _, Below.refl _ _⟩
  · exact bytes_some W B g q v xs hg hqq hr hb

set_option maxRecDepth 100000 in
theorem add_nil (sv : Value) (W : World) :
    Calls Tryd.prog 74 #[.pointer none, sv] W (fun e w' => e = .returned (.tuple #[]) ∧ w' = W) := by
  go_enter Tryd.func74, Tryd.ntmps74
  go_wp2_with fail
  first | go_end0 | refine bodyPost_ret (results_none rfl _ _ _) rfl ?_
  exact ⟨rfl, rfl⟩
end Go.Proofs.YtaomigfmjglggaaDoor
namespace Go.Proofs.YtaomigfmjglggaaDoor
open Go.RowKit
theorem drewN_below (W : World) (n : Nat) : Below W.heap.size W (W.drewN n) := ⟨rfl, rfl, rfl, Nat.le_refl _, fun _ _ => rfl⟩

theorem add_done (W Wd w1 : World) (B g q : Nat) (v v' : Value) (zs : List Int) (m : Int) (hd : Below W.heap.size W Wd) (hs : Wd.heap.size = W.heap.size) (hqg : q ≠ g) (hgl : g < W.heap.size) (hql : q < W.heap.size) (hv : ∀ k, v.ownBlock = some k → k ≠ g ∧ k ≠ q)
    (hg1 : w1.heap[g]? = some (.cells #[.pointer (some ⟨q, 0, none⟩), .int .i64 m] 106 (0, 0))) (hq1 : w1.heap[q]? = some (.cells #[v] 22 (0, 0)))
    (hrow : Row w1 B v' zs) (hk : Keep (fun k => v.ownBlock = some k) Wd w1) (hat : v'.ownBlock = v.ownBlock ∨ v'.ownBlock = some Wd.heap.size) (n : Int) (hn : n = zs.length) :
    ∃ u, ((w1.setCell ⟨q, 0, none⟩ v').setCell ⟨g, 1, none⟩ (.int .i64 n)).heap[g]? = some (.cells #[.pointer (some ⟨q, 0, none⟩), .int .i64 zs.length] 106 (0, 0)) ∧ ((w1.setCell ⟨q, 0, none⟩ v').setCell ⟨g, 1, none⟩ (.int .i64 n)).heap[q]? = some (.cells #[u] 22 (0, 0)) ∧ Row ((w1.setCell ⟨q, 0, none⟩ v').setCell ⟨g, 1, none⟩ (.int .i64 n)) B u zs ∧
      (u.ownBlock = v.ownBlock ∨ u.ownBlock = some W.heap.size) ∧ Keep (fun k => k = g ∨ k = q ∨ v.ownBlock = some k) W ((w1.setCell ⟨q, 0, none⟩ v').setCell ⟨g, 1, none⟩ (.int .i64 n)) := by
  subst hn
  have hno : Off (fun k => k = g ∨ k = q) v' := fun k e h => by
    rcases hat with h1 | h1
    · have := hv k (h1 ▸ e); rcases h with rfl | rfl <;> simp_all
    · rw [h1, hs] at e; injection e with e; rcases h with rfl | rfl <;> omega
  have k1 : Keep (fun k => k = g ∨ k = q) w1 (w1.setCell ⟨q, 0, none⟩ v') := Keep.set _ _ _ (.inr rfl)
  have k2 : Keep (fun k => k = g ∨ k = q) (w1.setCell ⟨q, 0, none⟩ v') ((w1.setCell ⟨q, 0, none⟩ v').setCell ⟨g, 1, none⟩ (.int .i64 zs.length)) := Keep.set _ _ _ (.inl rfl)
  have k3 := k1.trans k2 (fun _ h => .inl h)
  refine ⟨v', ?_, ?_, hrow.keep k3 hno, by rw [hs] at hat; exact hat, ?_⟩
  · have h1 : (w1.setCell ⟨q, 0, none⟩ v').heap[g]? = some (.cells #[.pointer (some ⟨q, 0, none⟩), .int .i64 m] 106 (0, 0)) := (Below.heap_setCell _ _ _ _ (fun e => hqg e.symm)).trans hg1
    rw [heap_setCell_same _ g 1 _ _ _ h1]
    rfl
  · rw [Below.heap_setCell _ _ _ _ hqg, heap_setCell_same _ q 0 _ _ _ hq1]
    rfl
  · have k4 : Keep (fun k => k = g ∨ k = q ∨ v.ownBlock = some k) W Wd := Keep.of_below hd
    refine (k4.trans hk (fun x e => .inl (.inr (.inr e)))).trans k3 (fun x e => .inl ?_)
    rcases e with rfl | rfl
    · exact .inl rfl
    · exact .inr (.inl rfl)

set_option maxRecDepth 100000 in
theorem add_some (W : World) (B : Nat) (g q : Nat) (v : Value) (xs : List Int) (hg : W.heap[g]? = some (.cells #[.pointer (some ⟨q, 0, none⟩), .int .i64 xs.length] 106 (0, 0))) (hq : W.heap[q]? = some (.cells #[v] 22 (0, 0))) (hr : Row W B v xs)
   (hqg : q ≠ g) (hB : B ≤ W.heap.size) (hgl : g < W.heap.size) (hql : q < W.heap.size) (hv : ∀ k, v.ownBlock = some k → k ≠ g ∧ k ≠ q) (sv : Value) (ys : List Int) (hs : SlAt W sv ys) (hb : xs.length + ys.length ≤ 140737488355328) :
    Calls Tryd.prog 74 #[.pointer (some ⟨g, 0, none⟩), sv] W (fun e w' => e = .returned (.tuple #[]) ∧ ∃ v', w'.heap[g]? = some (.cells #[.pointer (some ⟨q, 0, none⟩), .int .i64 (xs ++ ys).length] 106 (0, 0)) ∧ w'.heap[q]? = some (.cells #[v'] 22 (0, 0)) ∧ Row w' B v' (xs ++ ys) ∧
      (v'.ownBlock = v.ownBlock ∨ v'.ownBlock = some W.heap.size) ∧ Keep (fun k => k = g ∨ k = q ∨ v.ownBlock = some k) W w') := by
  have hc0 : W.cell? ⟨g, 0, none⟩ = some (.pointer (some ⟨q, 0, none⟩)) := (cell_of_row W g 0 _ _ _ hg).trans rfl
  have hc1 : W.cell? ⟨g, 1, none⟩ = some (.int .i64 xs.length) := (cell_of_row W g 1 _ _ _ hg).trans rfl
  have hcq : W.cell? ⟨q, 0, none⟩ = some v := (cell_of_row W q 0 _ _ _ hq).trans rfl
  have HS := hide hs
  have HR := hide hr
  have HV := hide hv
  have HG := hide hg
  have HQ := hide hq
  obtain ⟨ao, cap, rfl⟩ := hr.slAt.len
  clear hs hr hv hg hq
  go_enter Tryd.func74, Tryd.ntmps74
  go_wp2_with fail
  go_quiet (fail)
  go_wp2_with fail
  have hc0' : (W.drewN nq).cell? ⟨g, 0, none⟩ = some (.pointer (some ⟨q, 0, none⟩)) := hc0
  have hcq' : (W.drewN nq).cell? ⟨q, 0, none⟩ = some (.slice ao xs.length cap) := hcq
  obtain ⟨v', w1, hrun, hrow, hk, hat⟩ := append_keep (W.drewN nq).drew B (.slice ao xs.length cap) xs HR.out sv ys HS.out hb hB
  obtain ⟨ao', cap', rfl⟩ := hrow.slAt.len
  have hg1 : w1.heap[g]? = some (.cells #[.pointer (some ⟨q, 0, none⟩), .int .i64 xs.length] 106 (0, 0)) := (hk.block g hgl (fun e => (HV.out g e).1 rfl)).trans HG.out
  have hq1 : w1.heap[q]? = some (.cells #[.slice ao xs.length cap] 22 (0, 0)) := (hk.block q hql (fun e => (HV.out q e).2 rfl)).trans HQ.out
  have d0 : w1.cell? ⟨g, 0, none⟩ = some (.pointer (some ⟨q, 0, none⟩)) := (cell_of_row w1 g 0 _ _ _ hg1).trans rfl
  have d1 : w1.cell? ⟨g, 1, none⟩ = some (.int .i64 xs.length) := (cell_of_row w1 g 1 _ _ _ hg1).trans rfl
  have dq : w1.cell? ⟨q, 0, none⟩ = some (.slice ao xs.length cap) := (cell_of_row w1 q 0 _ _ _ hq1).trans rfl
  have f1 := frozen_of_row w1 g 1 _ _ hg1
  have fq := frozen_of_row w1 q 0 _ _ hq1
  have HRUN := hide hrun
  have HR1 := hide hrow
  have HK := hide hk
  have HA := hide hat
  have HG1 := hide hg1
  have HQ1 := hide hq1
  clear hrun hrow hk hat hg1 hq1
  go_region_law (refine step_append_run rfl (.tmp 40) (.tmp 41) 22 22 22 rfl rfl (.slice ao xs.length cap) sv _ _ rfl rfl HRUN.out ?_)
  all_goals go_wp2_with fail
  all_goals
    first | go_end0 | refine bodyPost_ret (results_none rfl _ _ _) rfl ?_
    rw [List.length_append] at HR1 HA
    refine ⟨rfl, add_done W (W.drewN nq).drew _ B g q (.slice ao xs.length cap) (.slice ao' (xs.length + ys.length) cap') (xs ++ ys) xs.length (drewN_below W nq).drew rfl hqg hgl hql HV.out HG1.out HQ1.out HR1.out HK.out HA.out ((xs.length : Int) + (ys.length : Int)) (by simp)⟩
end Go.Proofs.YtaomigfmjglggaaDoor
namespace Go.Proofs.YtaomigfmjglggaaDoor
open Go.RowKit
set_option maxRecDepth 100000 in
theorem add_first (W : World) (B : Nat) (g : Nat) (hg : W.heap[g]? = some (.cells #[.pointer none, .int .i64 0] 106 (0, 0)))
   (hB : B ≤ W.heap.size) (hgl : g < W.heap.size) (sv : Value) (ys : List Int) (hs : SlAt W sv ys) (ho : Off (fun k => k = g) sv) (hb : ys.length ≤ 140737488355328) :
    Calls Tryd.prog 74 #[.pointer (some ⟨g, 0, none⟩), sv] W (fun e w' => e = .returned (.tuple #[]) ∧ ∃ v', w'.heap[g]? = some (.cells #[.pointer (some ⟨W.heap.size, 0, none⟩), .int .i64 ys.length] 106 (0, 0)) ∧ w'.heap[W.heap.size]? = some (.cells #[v'] 22 (0, 0)) ∧ Row w' B v' ys ∧
      (∀ k, v'.ownBlock = some k → W.heap.size < k) ∧ Keep (fun k => k = g) W w') := by
  have hc0 : W.cell? ⟨g, 0, none⟩ = some (.pointer none) := (cell_of_row W g 0 _ _ _ hg).trans rfl
  have HBY := hide (fun w0 h => bytes_empty g w0 h)
  have HS := hide hs
  have HO := hide ho
  have HG := hide hg
  clear hs hg ho
  go_enter Tryd.func74, Tryd.ntmps74
  go_wp2_with fail
  go_quiet (fail)
  have hg2 : (W.drewN nq).heap[g]? = _ := HG.out
  have HBd := hide (drewN_below W nq)
  have HSZ : Hid ((W.drewN nq).heap.size = W.heap.size) := hide rfl
  generalize W.drewN nq = Wd at hg2 HBd HSZ ⊢
  have hgl2 : g < Wd.heap.size := by rw [HSZ.out]; exact hgl
  have HC2 := hide (HBY.out Wd hg2)
  clear HBY hc0
  go_wp2_with fail
  refine HC2.out.mono ?_
  rintro e w1 ⟨rfl, rfl⟩
  clear HC2
  have hg3 : (w1.alloc (.cells #[.slice none 0 0] 22)).heap[g]? = some (.cells #[.pointer none, .int .i64 0] 106 (0, 0)) := (Below.heap_alloc _ _ g hgl2).trans hg2
  have f0 := frozen_of_row _ g 0 _ _ hg3
  have hc0 : (w1.alloc (.cells #[.slice none 0 0] 22)).cell? ⟨g, 0, none⟩ = some (.pointer none) := (cell_of_row _ g 0 _ _ _ hg3).trans rfl
  go_wp2_with fail
  have h4g : ((w1.setCell ⟨g, 0, none⟩ (.pointer (some ⟨w1.heap.size, 0, none⟩))).alloc (.cells #[.slice none 0 0] 22)).heap[g]? = some (.cells #[.pointer (some ⟨w1.heap.size, 0, none⟩), .int .i64 0] 106 (0, 0)) := by
    rw [Below.heap_alloc _ _ g (by simpa using hgl2), heap_setCell_same _ g 0 _ _ _ hg2]
    rfl
  have h4q : ((w1.setCell ⟨g, 0, none⟩ (.pointer (some ⟨w1.heap.size, 0, none⟩))).alloc (.cells #[.slice none 0 0] 22)).heap[w1.heap.size]? = some (.cells #[.slice none 0 0] 22 (0, 0)) := by
    have := heap_alloc_new (w1.setCell ⟨g, 0, none⟩ (.pointer (some ⟨w1.heap.size, 0, none⟩))) (.cells #[.slice none 0 0] 22)
    simpa using this
  have HK4 : Hid (Keep (fun k => k = g) W ((w1.setCell ⟨g, 0, none⟩ (.pointer (some ⟨w1.heap.size, 0, none⟩))).alloc (.cells #[.slice none 0 0] 22))) :=
    hide (((Keep.of_below HBd.out : Keep (fun k => k = g) W w1).trans (Keep.set (F := fun k => k = g) w1 ⟨g, 0, none⟩ (.pointer (some ⟨w1.heap.size, 0, none⟩)) rfl) (fun _ h => .inl h)).trans (Keep.alloc (fun k => k = g) _ _) (fun _ h => .inl h))
  have HS4 : Hid (((w1.setCell ⟨g, 0, none⟩ (.pointer (some ⟨w1.heap.size, 0, none⟩))).alloc (.cells #[.slice none 0 0] 22)).heap.size = W.heap.size + 1) := hide (by simp [HSZ.out])
  generalize (w1.setCell ⟨g, 0, none⟩ (.pointer (some ⟨w1.heap.size, 0, none⟩))).alloc (.cells #[.slice none 0 0] 22) = W4 at h4g h4q HK4 HS4 ⊢
  have hqg : w1.heap.size ≠ g := fun e => by omega
  have hq4 : w1.heap.size < W4.heap.size := by rw [HS4.out, HSZ.out]; omega
  have hg4 : g < W4.heap.size := by rw [HS4.out]; omega
  have hB4 : B ≤ W4.heap.size := by rw [HS4.out]; omega
  have HSV := hide (HSZ.out)
  generalize w1.heap.size = q at h4g h4q hqg hq4 HSV ⊢
  clear hg2 HBd HSZ hgl2 hg3 f0 hc0
  have hc0' : W4.cell? ⟨g, 0, none⟩ = some (.pointer (some ⟨q, 0, none⟩)) := (cell_of_row _ g 0 _ _ _ h4g).trans rfl
  have hcq' : W4.cell? ⟨q, 0, none⟩ = some (.slice none 0 0) := (cell_of_row _ q 0 _ _ _ h4q).trans rfl
  go_wp2_with fail
  obtain ⟨v', w2, hrun, hrow, hk, hat⟩ := append_keep W4.drew B (.slice none 0 0) [] (Row.nil _ _) sv ys (HS.out.keep HK4.out.drewR HO.out) (by simpa using hb) hB4
  rw [List.nil_append] at hrow
  obtain ⟨ao', cap', rfl⟩ := hrow.slAt.len
  have hg1 : w2.heap[g]? = some (.cells #[.pointer (some ⟨q, 0, none⟩), .int .i64 0] 106 (0, 0)) := (hk.block g hg4 (fun e => by simp [Value.ownBlock] at e)).trans h4g
  have hq1 : w2.heap[q]? = some (.cells #[.slice none 0 0] 22 (0, 0)) := (hk.block q hq4 (fun e => by simp [Value.ownBlock] at e)).trans h4q
  have d0 : w2.cell? ⟨g, 0, none⟩ = some (.pointer (some ⟨q, 0, none⟩)) := (cell_of_row w2 g 0 _ _ _ hg1).trans rfl
  have d1 : w2.cell? ⟨g, 1, none⟩ = some (.int .i64 0) := (cell_of_row w2 g 1 _ _ _ hg1).trans rfl
  have dq : w2.cell? ⟨q, 0, none⟩ = some (.slice none 0 0) := (cell_of_row w2 q 0 _ _ _ hq1).trans rfl
  have f1 := frozen_of_row w2 g 1 _ _ hg1
  have fq := frozen_of_row w2 q 0 _ _ hq1
  have HRUN := hide hrun
  have HR1 := hide hrow
  have HKK := hide hk
  have HA := hide hat
  have HG1 := hide hg1
  have HQ1 := hide hq1
  have HQG := hide hqg
  clear hrun hrow hk hat hg1 hq1 h4g h4q
  go_region_law (refine step_append_run rfl (.tmp 40) (.tmp 41) 22 22 22 rfl rfl (.slice none 0 0) sv _ _ rfl rfl HRUN.out ?_)
  all_goals go_wp2_with fail
  all_goals
    first | go_end0 | refine bodyPost_ret (results_none rfl _ _ _) rfl ?_
    obtain ⟨u, e1, e2, e3, e4, e5⟩ := add_done W4 W4.drew _ B g q (.slice none 0 0) (.slice ao' ys.length cap') ys 0 (Below.refl _ _).drew rfl HQG.out hg4 hq4 (fun k e => by simp [Value.ownBlock] at e) HG1.out HQ1.out HR1.out HKK.out HA.out (ys.length : Int) rfl
    refine ⟨rfl, u, ?_, ?_, e3, ?_, ?_⟩
    · rw [← HSV.out]; exact e1
    · rw [← HSV.out]; exact e2
    · intro k hk
      rcases e4 with h | h
      · rw [h] at hk; simp [Value.ownBlock] at hk
      · rw [h] at hk; injection hk with hk; rw [← hk, HS4.out]; omega
    · refine HK4.out.trans e5 (fun x hx => ?_)
      rcases hx with h | h | h
      · exact .inl h
      · exact .inr (by rw [h, HSV.out]; exact Nat.le_refl _)
      · simp [Value.ownBlock] at h
end Go.Proofs.YtaomigfmjglggaaDoor
namespace Go.Proofs.YtaomigfmjglggaaDoor
open Go.RowKit

/-- The blocks of F, and those that were made between two worlds. -/
def Up (F : Nat → Prop) (W w' : World) : Nat → Prop := fun k => F k ∨ (W.heap.size ≤ k ∧ k < w'.heap.size)

theorem Up.off {F G : Nat → Prop} {W w' : World} (h : ∀ k, F k → ¬ G k) (hg : ∀ k, G k → k < W.heap.size) : ∀ k, Up F W w' k → ¬ G k := fun k hk hG => by
  rcases hk with hk | hk
  · exact h k hk hG
  · have := hg k hG; omega

theorem Wr.mono {F G : Nat → Prop} {W : World} {B g : Nat} {xs : List Int} (h : Wr W B F g xs) (hs : ∀ k, F k → G k) (hg : ∀ k, G k → B ≤ k ∧ k < W.heap.size) : Wr W B G g xs := by
  refine ⟨hs g h.own, hg, ?_⟩
  rcases h.shape with h1 | ⟨q, v, hq, hFq, hgg, hqq, hr, hv⟩
  · exact .inl h1
  · exact .inr ⟨q, v, hq, hs q hFq, hgg, hqq, hr, fun k e => ⟨hs k (hv k e).1, (hv k e).2⟩⟩

/-- Behind an operation of a writer. -/
def WrPost (W : World) (B : Nat) (F : Nat → Prop) (g : Nat) (xs : List Int) (e : Ending) (w' : World) : Prop := e = .returned (.tuple #[]) ∧ Keep F W w' ∧ Wr w' B (Up F W w') g xs

theorem Wr.hB {W : World} {B g : Nat} {F : Nat → Prop} {xs : List Int} (h : Wr W B F g xs) : B ≤ W.heap.size := Nat.le_of_lt (Nat.lt_of_le_of_lt (h.ge g h.own).1 (h.ge g h.own).2)

theorem add_any (W : World) (B : Nat) (F : Nat → Prop) (g : Nat) (xs : List Int) (h : Wr W B F g xs) (sv : Value) (ys : List Int) (hs : SlAt W sv ys) (ho : Off F sv) (hb : xs.length + ys.length ≤ 140737488355328) :
    Calls Tryd.prog 74 #[.pointer (some ⟨g, 0, none⟩), sv] W (WrPost W B F g (xs ++ ys)) := by
  have hB := h.hB
  have hgl := (h.ge g h.own).2
  have hge : ∀ (w' : World), W.heap.size ≤ w'.heap.size → ∀ k, Up F W w' k → B ≤ k ∧ k < w'.heap.size := fun w' hw k hk => by
    rcases hk with hk | hk
    · exact ⟨(h.ge k hk).1, Nat.lt_of_lt_of_le (h.ge k hk).2 hw⟩
    · exact ⟨Nat.le_trans hB hk.1, hk.2⟩
  rcases h.shape with ⟨rfl, hg⟩ | ⟨q, v, hq, hFq, hg, hqq, hr, hv⟩
  · refine (add_first W B g hg hB hgl sv ys hs (fun k e hk => ho k e (hk ▸ h.own)) (by simpa using hb)).mono ?_
    rintro e w' ⟨rfl, v', h1, h2, h3, h4, h5⟩
    have hk : Keep F W w' := h5.mono (fun x e => .inl (e ▸ h.own))
    have hlt : W.heap.size < w'.heap.size := (Array.getElem?_eq_some_iff.1 h2).1
    refine ⟨rfl, hk, .inl h.own, hge w' hk.size, .inr ⟨W.heap.size, v', by omega, .inr ⟨Nat.le_refl _, hlt⟩, by simpa using h1, h2, by simpa using h3, fun k e => ?_⟩⟩
    have e1 := h4 k e
    have e2 := h3.lt e
    exact ⟨.inr ⟨by omega, e2⟩, by omega, by omega⟩
  · refine (add_some W B g q v xs hg hqq hr hq hB hgl (h.ge q hFq).2 (fun k e => (hv k e).2) sv ys hs hb).mono ?_
    rintro e w' ⟨rfl, v', h1, h2, h3, h4, h5⟩
    have hk : Keep F W w' := h5.mono (fun x e => .inl (by
      rcases e with rfl | rfl | e
      · exact h.own
      · exact hFq
      · exact (hv x e).1))
    have hq2 := (h.ge q hFq).2
    refine ⟨rfl, hk, .inl h.own, hge w' hk.size, .inr ⟨q, v', hq, .inl hFq, h1, h2, h3, fun k e => ?_⟩⟩
    have e2 := h3.lt e
    rcases h4 with h4 | h4
    · have := hv k (h4 ▸ e)
      exact ⟨.inl this.1, this.2⟩
    · rw [h4] at e
      injection e with e
      exact ⟨.inr ⟨by omega, e2⟩, by omega, by omega⟩

/-- An operation that first makes memory of its own. -/
theorem WrPost.pre {W W1 : World} {B g : Nat} {F : Nat → Prop} {xs : List Int} {e : Ending} {w' : World} (h : WrPost W1 B F g xs e w') (hb : Below W.heap.size W W1) (hF : ∀ k, F k → B ≤ k ∧ k < W.heap.size) (hB : B ≤ W.heap.size) : WrPost W B F g xs e w' := by
  obtain ⟨he, hk, hw⟩ := h
  have hk' : Keep F W w' := (Keep.of_below hb : Keep F W W1).trans hk (fun _ h => .inl h)
  refine ⟨he, hk', hw.mono (fun k hk => ?_) (fun k hk => ?_)⟩
  · rcases hk with hk | hk
    · exact .inl hk
    · exact .inr ⟨Nat.le_trans hb.size hk.1, hk.2⟩
  · rcases hk with hk | hk
    · exact ⟨(hF k hk).1, Nat.lt_of_lt_of_le (hF k hk).2 hk'.size⟩
    · exact ⟨Nat.le_trans hB hk.1, hk.2⟩

/-- A second operation behind a first one. -/
theorem WrPost.seq {W W1 : World} {B g : Nat} {F : Nat → Prop} {xs : List Int} {e : Ending} {w' : World} (hk1 : Keep F W W1) (h : WrPost W1 B (Up F W W1) g xs e w') (hF : ∀ k, F k → B ≤ k ∧ k < W.heap.size) (hB : B ≤ W.heap.size) : WrPost W B F g xs e w' := by
  obtain ⟨he, hk, hw⟩ := h
  have hk' : Keep F W w' := hk1.trans hk (fun x hx => by
    rcases hx with hx | hx
    · exact .inl hx
    · exact .inr hx.1)
  refine ⟨he, hk', hw.mono (fun k hk => ?_) (fun k hk => ?_)⟩
  · rcases hk with (hk | hk) | hk
    · exact .inl hk
    · exact .inr ⟨hk.1, Nat.lt_of_lt_of_le hk.2 (by assumption : Keep (Up F W W1) W1 w').size⟩
    · exact .inr ⟨Nat.le_trans hk1.size hk.1, hk.2⟩
  · rcases hk with hk | hk
    · exact ⟨(hF k hk).1, Nat.lt_of_lt_of_le (hF k hk).2 hk'.size⟩
    · exact ⟨Nat.le_trans hB hk.1, hk.2⟩

/-- A block that is new is none of F. -/
theorem off_new {F : Nat → Prop} {W : World} {B : Nat} (hF : ∀ k, F k → B ≤ k ∧ k < W.heap.size) {g n c : Nat} (hg : W.heap.size ≤ g) : Off F (.slice (some ⟨g, 0, none⟩) n c) := fun k e hk => by
  simp [Value.ownBlock] at e
  have := (hF k hk).2
  omega

def places4 : List Int := [0, 8, 16, 24]
def places10 : List Int := [0, 7, 14, 21, 28, 35, 42, 49, 56, 63]

/-- The two tables of places. -/
def Tab (W : World) : Prop := (∃ t fr, W.heap[0]? = some (.cells (cellsOf .i64 places4) t fr)) ∧ (∃ t fr, W.heap[1]? = some (.cells (cellsOf .i64 places10) t fr))
theorem Tab.below {W w' : World} {B : Nat} (h : Tab W) (hb : Below B W w') (hB : 2 ≤ B) : Tab w' := by
  obtain ⟨⟨t, fr, h1⟩, ⟨t2, fr2, h2⟩⟩ := h
  exact ⟨⟨t, fr, (hb.block _ (by omega)).trans h1⟩, ⟨t2, fr2, (hb.block _ (by omega)).trans h2⟩⟩
theorem Tab.two {W : World} (h : Tab W) : 2 ≤ W.heap.size := by
  obtain ⟨⟨t, fr, h1⟩, ⟨t2, fr2, h2⟩⟩ := h
  have a := (Array.getElem?_eq_some_iff.1 h1).1
  have b := (Array.getElem?_eq_some_iff.1 h2).1
  omega
theorem nth_places4 : ∀ k : Fin 4, nth places4 k.val = 8 * (k.val : Int) := by decide
theorem nth_places10 : ∀ k : Fin 10, nth places10 k.val = 7 * (k.val : Int) := by decide
theorem size_p4 : (Tryd.prog.info? 111).map (·.size) = some (cellsOf .i64 places4).size := by kernel_rfl
theorem size_p10 : (Tryd.prog.info? 133).map (·.size) = some (cellsOf .i64 places10).size := by kernel_rfl
end Go.Proofs.YtaomigfmjglggaaDoor
namespace Go.Proofs.YtaomigfmjglggaaDoor
open Go.RowKit

/-- The first i bytes of a number that has more than i. -/
def lowB (x : Nat) (i : Nat) : List Int := (List.range i).map fun j => ((x / 2 ^ (7 * j) % 128 + 128 : Nat) : Int)
/-- The fewest bytes of a number, of n + 1 at most. -/
def uintF : Nat → Nat → List Int
  | 0, x => [(x : Int)]
  | n + 1, x => if x < 128 then [(x : Int)] else ((x % 128 + 128 : Nat) : Int) :: uintF n (x / 128)
/-- A number's bytes. -/
def uintS (x : Nat) : List Int := uintF 9 x
def bufS (x i : Nat) : List Int := lowB x i ++ List.replicate (10 - i) 0
theorem length_lowB (x i : Nat) : (lowB x i).length = i := by simp [lowB]
theorem length_bufS (x i : Nat) (h : i ≤ 10) : (bufS x i).length = 10 := by simp [bufS, length_lowB]; omega
theorem lowB_succ (x i : Nat) : lowB x (i + 1) = lowB x i ++ [((x / 2 ^ (7 * i) % 128 + 128 : Nat) : Int)] := by simp [lowB, List.range_succ]
theorem bufS_set (x i : Nat) (h : i < 10) (v : Int) : (bufS x i).set i v = lowB x i ++ v :: List.replicate (9 - i) 0 := by
  rw [bufS, show 10 - i = (9 - i) + 1 by omega, List.replicate_succ, List.set_append_right _ _ (by rw [length_lowB]; omega), length_lowB, Nat.sub_self]
  rfl
theorem bufS_succ (x i : Nat) (h : i < 10) : (bufS x i).set i ((x / 2 ^ (7 * i) % 128 + 128 : Nat) : Int) = bufS x (i + 1) := by
  rw [bufS_set x i h, bufS, lowB_succ, List.append_assoc, show 10 - (i + 1) = 9 - i by omega]
  rfl
theorem uintF_step (n x i : Nat) (h : 128 ≤ x / 2 ^ (7 * i)) : uintF (n + 1) (x / 2 ^ (7 * i)) = ((x / 2 ^ (7 * i) % 128 + 128 : Nat) : Int) :: uintF n (x / 2 ^ (7 * (i + 1))) := by
  rw [uintF, if_neg (by omega), Nat.div_div_eq_div_mul]
  rw [show 2 ^ (7 * (i + 1)) = 2 ^ (7 * i) * 128 by rw [Nat.mul_add, Nat.pow_add]]
theorem uintF_end (n x : Nat) (h : x < 128) : uintF n x = [(x : Int)] := by
  cases n <;> simp [uintF, h]

def zeros10 : List Int := List.replicate 10 0
theorem zero10 (w : World) : (zeroValue 132).run Tryd.prog w = .ok (.agg (cellsOf .u8 zeros10)) w := by kernel_rfl

theorem eval_global (a : Act) (n : Nat) : a.eval (.global n) = .pointer (some ⟨n, 0, none⟩) := rfl

theorem arr10 : cellsOf .i64 places10 = #[.int .i64 0, .int .i64 7, .int .i64 14, .int .i64 21, .int .i64 28, .int .i64 35, .int .i64 42, .int .i64 49, .int .i64 56, .int .i64 63] := rfl

theorem or128 : ∀ a : Fin 256, bits BinOp.or IntKind.u8 (a.val : Int) 128 = ((a.val % 128 + 128 : Nat) : Int) := by decide +kernel

theorem mod256_small (y : Nat) (h : y < 128) : (y : Int) % 256 = y := by omega
theorem mod256_cast (y : Nat) : (y : Int) % 256 = ((y % 256 : Nat) : Int) := by omega

theorem run_cut_arr {P : Program} {t e : TypeId} {n : Nat} (hu : P.underlying t = some (.array n e)) (hs : (P.info? e).map (·.size) = some 1) (g m : Nat) (h : m ≤ n) (w : World) :
    (Instr.sliceAt t (.pointer (some ⟨g, 0, none⟩)) none (some (.int .i64 (m : Int))) none).run P w = .ok (.slice (some ⟨g, 0, none⟩) m n) w := by
  have h1 : (0 : Int) ≤ (m : Int) ∧ (m : Int) ≤ (n : Int) := by omega
  simp [Instr.sliceAt, Instr.slice, run_underlying hu, Instr.sliceBounds, run_sliceBound_if, run_sizeOf hs, h1, Instr.sureAddr]
  intro _
  simp [Addr.add]

set_option maxRecDepth 100000 in
set_option maxHeartbeats 1000000 in
theorem uint_any (x : Nat) (hx : x < 18446744073709551616) (W : World) (B : Nat) (F : Nat → Prop) (g : Nat) (xs : List Int) (ht : Tab W) (h : Wr W B F g xs) (hb : xs.length + 10 ≤ 140737488355328) :
    Calls Tryd.prog 75 #[.pointer (some ⟨g, 0, none⟩), .int .u64 x] W (WrPost W B F g (xs ++ uintS x)) := by
  have hal : Tryd.prog.arrayLen 132 = 10 := by kernel_rfl
  have hal2 : Tryd.prog.arrayLen 133 = 10 := by kernel_rfl
  have HH := hide h
  have h2 := ht.two
  have hB0 : Below W.heap.size W (W.alloc (.cells (cellsOf .u8 zeros10) 132)) := (Below.refl _ _).alloc (Nat.le_refl _) _
  obtain ⟨_, ⟨t, fr, htab⟩⟩ := ht.below hB0 h2
  have c0 := (cell_of_row _ 1 0 _ t fr htab).trans (show _ = some (Value.int .i64 0) from rfl)
  have c1 := (cell_of_row _ 1 1 _ t fr htab).trans (show _ = some (Value.int .i64 7) from rfl)
  have c2 := (cell_of_row _ 1 2 _ t fr htab).trans (show _ = some (Value.int .i64 14) from rfl)
  have c3 := (cell_of_row _ 1 3 _ t fr htab).trans (show _ = some (Value.int .i64 21) from rfl)
  have c4 := (cell_of_row _ 1 4 _ t fr htab).trans (show _ = some (Value.int .i64 28) from rfl)
  have c5 := (cell_of_row _ 1 5 _ t fr htab).trans (show _ = some (Value.int .i64 35) from rfl)
  have c6 := (cell_of_row _ 1 6 _ t fr htab).trans (show _ = some (Value.int .i64 42) from rfl)
  have c7 := (cell_of_row _ 1 7 _ t fr htab).trans (show _ = some (Value.int .i64 49) from rfl)
  have c8 := (cell_of_row _ 1 8 _ t fr htab).trans (show _ = some (Value.int .i64 56) from rfl)
  have c9 := (cell_of_row _ 1 9 _ t fr htab).trans (show _ = some (Value.int .i64 63) from rfl)
  clear h ht
  go_enter Tryd.func75, Tryd.ntmps75
  go_wp2_with (first
    | (with_reducible refine wpList_alloc_row rfl 132 rfl (cellsOf .u8 zeros10) zero10 ?_))
  go_loopw [9] (fun i wr => ∃ k : Nat, k ≤ 9 ∧ i = .int .i64 k ∧ Blk wr W.heap.size 132 .u8 (bufS x k) ∧ Below W.heap.size W wr ∧ Hid (uintS x = lowB x k ++ uintF (9 - k) (x / 2 ^ (7 * k))))
    (fun i _ => 10 - (intOf i).toNat)
  case atStart => exact ⟨0, by omega, rfl, Blk.new W 132 .u8 zeros10, hB0, hide (by simp [uintS, lowB])⟩
  case round =>
    obtain ⟨k, hk, rfl, hw, hB, hu⟩ := hrel
    have hix := run_index_cells (P := Tryd.prog) 133 3 10 .i64 .i64 Tryd.underlying133 Tryd.underlying3 (by kernel_rfl) places10 rfl k (by omega)
    rw [nth_places10 ⟨k, by omega⟩, arr10] at hix
    clear c0 c1 c2 c3 c4 c5 c6 c7 c8 c9 htab
    have hc := hw.cell k (by rw [length_bufS x k (by omega)]; omega)
    have hf := hw.free k
    have hyc : (x : Int) / 2 ^ (7 * k) = ((x / 2 ^ (7 * k) : Nat) : Int) := by push_cast; rfl
    by_cases hlt : (x : Int) / 2 ^ (7 * k) < 128
    · have hy : x / 2 ^ (7 * k) < 128 := by omega
      have hw' := hw.set k ((x : Int) / 2 ^ (7 * k) % 256)
      rw [show (x : Int) / 2 ^ (7 * k) % 256 = ((x / 2 ^ (7 * k) : Nat) : Int) by rw [hyc, mod256_small _ hy], bufS_set x k (by omega)] at hw'
      have hB' := hB.setCell (p := ⟨W.heap.size, k, none⟩) (Nat.le_refl _) (.int .u8 ((x / 2 ^ (7 * k) : Nat) : Int))
      have hsl := (slAt_lit hw'.row (Nat.le_refl _)).front' (m := k + 1) (by simp [length_lowB])
      rw [show (lowB x k ++ ((x / 2 ^ (7 * k) : Nat) : Int) :: List.replicate (9 - k) 0).take (k + 1) = uintS x by
        rw [hu.out, uintF_end _ _ hy, List.take_append, length_lowB, List.take_of_length_le (by rw [length_lowB]; omega), show k + 1 - k = 1 by omega, List.take_succ_cons, List.take_zero]] at hsl
      rw [show (lowB x k ++ ((x / 2 ^ (7 * k) : Nat) : Int) :: List.replicate (9 - k) 0).length = 10 by simp [length_lowB] <;> omega] at hsl
      have hul : (uintS x).length = k + 1 := by rw [hu.out, uintF_end _ _ hy]; simp [length_lowB]
      have HA := hide (add_any _ B F g xs (HH.out.keep (Keep.of_below (F := fun _ => False) hB') (fun _ _ => id)) (.slice (some ⟨W.heap.size, 0, none⟩) (k + 1) 10) (uintS x) hsl (off_new HH.out.ge (Nat.le_refl _)) (by omega))
      have HB := hide hB'
      have hcut := run_cut_arr (P := Tryd.prog) Tryd.underlying132 size5 W.heap.size (k + 1) (by omega)
      rw [show ((k + 1 : Nat) : Int) = (k : Int) + 1 by omega] at hcut
      have HE : Hid (((x / 2 ^ (7 * k) : Nat) : Int) = (x : Int) / 2 ^ (7 * k) % 256) := hide (by rw [hyc, mod256_small _ hy])
      rw [HE.out] at HA HB
      clear hw' hB' hsl hul hw hB hyc hy hu
      go_wp2_with fail
      refine HA.out.mono ?_
      intro e w' hp
      have hq := hp.pre HB.out HH.out.ge HH.out.hB
      obtain ⟨rfl, _⟩ := hp
      have HQ := hide hq
      clear hq
      go_wp2_with fail
      first | go_end0 | refine bodyPost_ret (results_none rfl _ _ _) rfl ?_
      exact HQ.out
    · have hy : 128 ≤ x / 2 ^ (7 * k) := by omega
      have hk9 : k < 9 := by
        rcases Nat.lt_or_ge k 9 with h | h
        · exact h
        · obtain rfl : k = 9 := by omega
          omega
      have hbv : bits BinOp.or IntKind.u8 ((x : Int) / 2 ^ (7 * k) % 256) 128 = ((x / 2 ^ (7 * k) % 128 + 128 : Nat) : Int) := by
        have := or128 ⟨x / 2 ^ (7 * k) % 256, by omega⟩
        rw [hyc, mod256_cast, this]
        simp only [Nat.mod_mod_of_dvd _ (show 128 ∣ 256 by decide)]
      have hw' := hw.set k (bits BinOp.or IntKind.u8 ((x : Int) / 2 ^ (7 * k) % 256) 128)
      rw [hbv, bufS_succ x k (by omega), ← hbv] at hw'
      have HB := hide (hB.setCell (p := ⟨W.heap.size, k, none⟩) (Nat.le_refl _) (.int .u8 (bits BinOp.or IntKind.u8 ((x : Int) / 2 ^ (7 * k) % 256) 128)))
      have HW := hide hw'
      have HU : Hid (uintS x = lowB x (k + 1) ++ uintF (9 - (k + 1)) (x / 2 ^ (7 * (k + 1)))) := hide (by
        rw [hu.out, show 9 - k = (9 - (k + 1)) + 1 by omega, uintF_step _ x k hy, lowB_succ, List.append_assoc]
        rfl)
      clear hw' hw hB hyc hy hu hbv
      go_wp2_with fail
      go_roundw
      case rel => exact ⟨k + 1, by omega, by go_num, HW.out, HB.out, HU⟩
      case measure => simp [intOf]; omega
end Go.Proofs.YtaomigfmjglggaaDoor
namespace Go.Proofs.YtaomigfmjglggaaDoor
open Go.RowKit

set_option maxRecDepth 100000 in
theorem u8_any (x : Int) (W : World) (B : Nat) (F : Nat → Prop) (g : Nat) (xs : List Int) (h : Wr W B F g xs) (hb : xs.length + 1 ≤ 140737488355328) :
    Calls Tryd.prog 54 #[.pointer (some ⟨g, 0, none⟩), .int .u8 x] W (WrPost W B F g (xs ++ [x])) := by
  have hB0 : Below W.heap.size W (W.alloc (.cells (cellsOf .u8 [x]) 5)) := (Below.refl _ _).alloc (Nat.le_refl _) _
  have HA := hide (add_any _ B F g xs (h.keep (Keep.of_below (F := fun _ => False) hB0) (fun _ _ => id)) (.slice (some ⟨W.heap.size, 0, none⟩) 1 1) [x] (slAt_lit (heap_alloc_new _ _) (by simp)) (off_new h.ge (Nat.le_refl _)) hb)
  have HF := hide h.ge
  have HB := hide h.hB
  have HB0 := hide hB0
  clear h hB0
  rw [show cellsOf .u8 [x] = #[.int .u8 x] from rfl] at HA HB0
  go_enter Tryd.func54, Tryd.ntmps54
  go_wp2_with fail
  refine HA.out.mono ?_
  intro e w' hp
  have hq := hp.pre HB0.out HF.out HB.out
  obtain ⟨rfl, _⟩ := hp
  have HQ := hide hq
  clear hq
  go_wp2_with fail
  first | go_end0 | refine bodyPost_ret (results_none rfl _ _ _) rfl ?_
  exact HQ.out
end Go.Proofs.YtaomigfmjglggaaDoor
namespace Go.Proofs.YtaomigfmjglggaaDoor
open Go.RowKit

/-- A number's four bytes. -/
def u32T (x : Nat) (i : Nat) : List Int := (List.range i).map fun j => ((x / 2 ^ (8 * j) % 256 : Nat) : Int)
def u32S (x : Nat) : List Int := u32T x 4
def buf4 (x i : Nat) : List Int := u32T x i ++ List.replicate (4 - i) 0
theorem length_u32T (x i : Nat) : (u32T x i).length = i := by simp [u32T]
theorem length_buf4 (x i : Nat) (h : i ≤ 4) : (buf4 x i).length = 4 := by simp [buf4, length_u32T]; omega
theorem buf4_succ (x i : Nat) (h : i < 4) : (buf4 x i).set i ((x / 2 ^ (8 * i) % 256 : Nat) : Int) = buf4 x (i + 1) := by
  rw [buf4, buf4, show 4 - i = (4 - (i + 1)) + 1 by omega, List.replicate_succ, List.set_append_right _ _ (by rw [length_u32T]; omega), length_u32T, Nat.sub_self]
  simp [u32T, List.range_succ]
def zeros4 : List Int := List.replicate 4 0
theorem zero4 (w : World) : (zeroValue 110).run Tryd.prog w = .ok (.agg (cellsOf .u8 zeros4)) w := by kernel_rfl
theorem arr4 : cellsOf .i64 places4 = #[.int .i64 0, .int .i64 8, .int .i64 16, .int .i64 24] := rfl

set_option maxRecDepth 100000 in
set_option maxHeartbeats 1000000 in
theorem u32_any (x : Nat) (W : World) (B : Nat) (F : Nat → Prop) (g : Nat) (xs : List Int) (ht : Tab W) (h : Wr W B F g xs) (hb : xs.length + 4 ≤ 140737488355328) :
    Calls Tryd.prog 57 #[.pointer (some ⟨g, 0, none⟩), .int .u32 x] W (WrPost W B F g (xs ++ u32S x)) := by
  have hal : Tryd.prog.arrayLen 110 = 4 := by kernel_rfl
  have hal2 : Tryd.prog.arrayLen 111 = 4 := by kernel_rfl
  have HH := hide h
  have h2 := ht.two
  have hB0 : Below W.heap.size W (W.alloc (.cells (cellsOf .u8 zeros4) 110)) := (Below.refl _ _).alloc (Nat.le_refl _) _
  obtain ⟨⟨t, fr, htab⟩, _⟩ := ht.below hB0 h2
  have c0 := (cell_of_row _ 0 0 _ t fr htab).trans (show _ = some (Value.int .i64 0) from rfl)
  have c1 := (cell_of_row _ 0 1 _ t fr htab).trans (show _ = some (Value.int .i64 8) from rfl)
  have c2 := (cell_of_row _ 0 2 _ t fr htab).trans (show _ = some (Value.int .i64 16) from rfl)
  have c3 := (cell_of_row _ 0 3 _ t fr htab).trans (show _ = some (Value.int .i64 24) from rfl)
  clear h ht
  go_enter Tryd.func57, Tryd.ntmps57
  go_wp2_with (with_reducible refine wpList_alloc_row rfl 110 rfl (cellsOf .u8 zeros4) zero4 ?_)
  go_loopw [8] (fun i wr => ∃ k : Nat, k ≤ 4 ∧ i = .int .i64 k ∧ Blk wr W.heap.size 110 .u8 (buf4 x k) ∧ Below W.heap.size W wr)
    (fun i _ => 4 - (intOf i).toNat)
  case atStart => exact ⟨0, by omega, rfl, Blk.new W 110 .u8 zeros4, hB0⟩
  case round =>
    clear c0 c1 c2 c3 htab
    obtain ⟨k, hk, rfl, hw, hB⟩ := hrel
    by_cases hlt : k < 4
    · have hix := run_index_cells (P := Tryd.prog) 111 3 4 .i64 .i64 Tryd.underlying111 Tryd.underlying3 (by kernel_rfl) places4 rfl k (by omega)
      rw [nth_places4 ⟨k, by omega⟩, arr4] at hix
      have hc := hw.cell k (by rw [length_buf4 x k (by omega)]; omega)
      have hf := hw.free k
      have hyc : (x : Int) / 2 ^ (8 * k) = ((x / 2 ^ (8 * k) : Nat) : Int) := by push_cast; rfl
      have hw' := hw.set k ((x : Int) / 2 ^ (8 * k) % 256)
      rw [hyc, mod256_cast, buf4_succ x k hlt, ← mod256_cast, ← hyc] at hw'
      have HB := hide (hB.setCell (p := ⟨W.heap.size, k, none⟩) (Nat.le_refl _) (.int .u8 ((x : Int) / 2 ^ (8 * k) % 256)))
      have HW := hide hw'
      clear hw' hw hB hyc
      go_wp2_with fail
      go_roundw
      case rel => exact ⟨k + 1, by omega, by go_num, HW.out, HB.out⟩
      case measure => simp [intOf]; omega
    · obtain rfl : k = 4 := by omega
      have hsl := slAt_lit (cap := 4) hw.row (by rw [length_buf4 x 4 (by omega)]; exact Nat.le_refl _)
      rw [length_buf4 x 4 (by omega), show buf4 x 4 = u32S x by simp [buf4, u32S]] at hsl
      have hul : (u32S x).length = 4 := length_u32T x 4
      have HA := hide (add_any _ B F g xs (HH.out.keep (Keep.of_below (F := fun _ => False) hB) (fun _ _ => id)) (.slice (some ⟨W.heap.size, 0, none⟩) 4 4) (u32S x) hsl (off_new HH.out.ge (Nat.le_refl _)) (by omega))
      have HB := hide hB
      clear hsl hul hw hB
      go_wp2_with fail
      refine HA.out.mono ?_
      intro e w' hp
      have hq := hp.pre HB.out HH.out.ge HH.out.hB
      obtain ⟨rfl, _⟩ := hp
      have HQ := hide hq
      clear hq
      go_wp2_with fail
      first | go_end0 | refine bodyPost_ret (results_none rfl _ _ _) rfl ?_
      exact HQ.out

theorem uintF_len (n x : Nat) : (uintF n x).length ≤ n + 1 := by
  induction n generalizing x with
  | zero => simp [uintF]
  | succ n ih =>
    rw [uintF]
    split
    · simp
    · simpa using ih _
theorem uintS_len (x : Nat) : (uintS x).length ≤ 10 := uintF_len 9 x

/-- A text's bytes, with its size ahead. -/
def textS (s : ByteArray) : List Int := uintS s.size ++ bytesOf s

set_option maxRecDepth 100000 in
set_option maxHeartbeats 1000000 in
theorem text_any (s : ByteArray) (W : World) (B : Nat) (F : Nat → Prop) (g : Nat) (xs : List Int) (ht : Tab W) (_ : 2 ≤ B) (h : Wr W B F g xs) (hb : xs.length + 10 + s.size ≤ 140737488355328) (hm : s.size ≤ maxLen) :
    Calls Tryd.prog 55 #[.pointer (some ⟨g, 0, none⟩), .string s] W (WrPost W B F g (xs ++ textS s)) := by
  have HH := hide h
  have hl := uintS_len s.size
  have HU := hide (uint_any s.size (by unfold maxLen at hm; omega) W B F g xs ht h (by omega))
  clear h
  have hw : IntKind.u64.wrap (s.size : Int) = s.size := IntWalk.u64_in _ (by unfold maxLen at hm; omega)
  go_enter Tryd.func55, Tryd.ntmps55
  go_wp2_with fail
  refine HU.out.mono ?_
  rintro e w1 ⟨rfl, hk1, hw1⟩
  obtain ⟨c, w2, hrun, hrow, hB2', hs2⟩ := str_bytes w1 s hm
  have hk2 : Keep (fun _ => False) w1 w2 := Keep.of_below hB2'
  have hadd := add_any w2 B _ g _ (hw1.keep hk2 (fun _ _ => id)) (.slice (some ⟨w1.heap.size, 0, none⟩) s.size c) (bytesOf s) (by have := hrow.slAt; rw [length_bytesOf] at this; exact this) (off_new hw1.ge (Nat.le_refl _)) (by rw [List.length_append, length_bytesOf]; omega)
  have HA := hide hadd
  have HB2' := hide hB2'
  have HK1 := hide hk1
  have HW1 := hide hw1
  clear hk1 hw1 hrow hadd hB2' hk2 HU hw
  go_wp2_with fail
  refine HA.out.mono ?_
  intro e w' hp
  have hq := WrPost.seq HK1.out (hp.pre HB2'.out HW1.out.ge HW1.out.hB) HH.out.ge HH.out.hB
  obtain ⟨rfl, _⟩ := hp
  have HQ := hide hq
  clear hq
  go_wp2_with fail
  first | go_end0 | refine bodyPost_ret (results_none rfl _ _ _) rfl ?_
  rw [textS, ← List.append_assoc]
  exact HQ.out
end Go.Proofs.YtaomigfmjglggaaDoor
namespace Go.Proofs.YtaomigfmjglggaaDoor
open Go.RowKit

/-- The slice value v reads as the numbers l. -/
def NAt (w : World) (v : Value) (l : List Nat) : Prop := ∃ (ao : Option Addr) (cap : Nat), v = .slice ao l.length cap ∧ (ao = none → l = []) ∧
  ∀ ad, ao = some ad → ∀ i, i < l.length → ad.spot = none ∧ ad.block < w.heap.size ∧ w.cell? (ad.add i) = some (.int .u64 (l.getD i 0 : Nat))

theorem NAt.keep {F : Nat → Prop} {w w' : World} {v : Value} {l : List Nat} (h : NAt w v l) (hk : Keep F w w') (hf : Off F v) : NAt w' v l := by
  obtain ⟨ao, cap, rfl, hn, ha⟩ := h
  refine ⟨ao, cap, rfl, hn, fun ad had i hi => ?_⟩
  subst had
  obtain ⟨h0, h1, h2⟩ := ha ad rfl i hi
  refine ⟨h0, Nat.lt_of_lt_of_le h1 hk.size, ?_⟩
  rw [← h2]
  have hb := hk.block ad.block h1 (hf _ rfl)
  simp only [World.cell?, addr_block, hb]
theorem NAt.len {w : World} {v : Value} {l : List Nat} (h : NAt w v l) : ∃ ao cap, v = .slice ao l.length cap := by
  obtain ⟨ao, cap, hv, _⟩ := h
  exact ⟨ao, cap, hv⟩
theorem NAt.cell {w : World} {ao : Option Addr} {n c : Nat} {l : List Nat} (h : NAt w (.slice ao n c) l) {i : Nat} (hi : i < n) : ∃ ad, ao = some ad ∧ ad.spot = none ∧ w.cell? (ad.add i) = some (.int .u64 (l.getD i 0 : Nat)) := by
  obtain ⟨ao', cap, hv, hn, ha⟩ := h
  simp at hv
  obtain ⟨rfl, rfl, rfl⟩ := hv
  cases hao : ao with
  | none => rw [hn hao] at hi; simp at hi
  | some ad => obtain ⟨h0, _, h2⟩ := ha ad hao i hi; exact ⟨ad, rfl, h0, h2⟩

/-- Numbers' bytes, one behind the other. -/
def putS (l : List Nat) : List Int := (l.map uintS).flatten
theorem putS_succ (l : List Nat) (k : Nat) (h : k < l.length) : putS (l.take (k + 1)) = putS (l.take k) ++ uintS (l.getD k 0) := by
  rw [List.take_succ_eq_append_getElem h, putS, List.map_append, List.flatten_append]
  simp [putS, List.getD, h]
theorem putS_len (l : List Nat) : (putS l).length ≤ 10 * l.length := by
  induction l with
  | nil => simp [putS]
  | cons x l ih =>
    have := uintS_len x
    simp only [putS, List.map_cons, List.flatten_cons, List.length_append, List.length_cons] at ih ⊢
    omega

set_option maxRecDepth 100000 in
set_option maxHeartbeats 1000000 in
theorem put_any (l : List Nat) (sv : Value) (W : World) (B : Nat) (F : Nat → Prop) (g : Nat) (xs : List Int) (ht : Tab W) (hB2 : 2 ≤ B) (h : Wr W B F g xs) (hN : NAt W sv l) (ho : Off F sv) (hr : ∀ x ∈ l, x < 18446744073709551616) (hb : xs.length + 10 * l.length ≤ 140737488355328) :
    Calls Tryd.prog 56 #[.pointer (some ⟨g, 0, none⟩), sv] W (WrPost W B F g (xs ++ putS l)) := by
  obtain ⟨ao, cap, rfl⟩ := hN.len
  have HH := hide h
  have HN := hide hN
  have HO := hide ho
  have HT := hide ht
  have HR := hide hr
  obtain ⟨n, hn⟩ : ∃ n, n = l.length := ⟨_, rfl⟩
  have HNN := hide hn
  rw [← hn] at HN HO hb ⊢
  clear h hN ho ht hr hn
  go_enter Tryd.func56, Tryd.ntmps56
  go_wp2_with fail
  go_loopw [8] (fun i wr => ∃ k : Nat, k ≤ n ∧ i = .int .i64 k ∧ Keep F W wr ∧ Wr wr B (Up F W wr) g (xs ++ putS (l.take k)))
    (fun i _ => n - (intOf i).toNat)
  case atStart => exact ⟨0, by omega, rfl, Keep.refl _ _, (by
    simp only [List.take_zero, putS, List.map_nil, List.flatten_nil, List.append_nil]
    exact HH.out.mono (fun k h => .inl h) (fun k h => by rcases h with h | h; exact HH.out.ge k h; omega))⟩
  case round =>
    obtain ⟨k, hk, rfl, hK, hw⟩ := hrel
    by_cases hlt : k < n
    · obtain ⟨ad, rfl, hs, hc⟩ := (HN.out.keep hK HO.out).cell hlt
      have hlk : k < l.length := by rw [← HNN.out]; exact hlt
      have hx : l.getD k 0 < 18446744073709551616 := HR.out _ (by simp [List.getD, hlk])
      have hpl := putS_len (l.take k)
      have htl : (l.take k).length = k := by simp; omega
      have ht2 : Tab wr := HT.out.below (hK.below (B := 2) (fun j hj => Nat.le_trans hB2 (HH.out.ge j hj).1) HT.out.two) (Nat.le_refl _)
      have HU := hide (uint_any (l.getD k 0) hx wr B (Up F W wr) g _ ht2 hw (by rw [List.length_append]; omega))
      have HP := hide (putS_succ l k hlk)
      have HK := hide hK
      clear hK hw hpl htl hx hlk ht2
      generalize l.getD k 0 = x at hc HU HP
      go_wp2_with fail
      refine HU.out.mono ?_
      intro e w' hp
      have hq := WrPost.seq HK.out hp HH.out.ge HH.out.hB
      obtain ⟨rfl, hk2, hw2⟩ := hq
      have HK2 := hide hk2
      have HW2 := hide hw2
      clear hk2 hw2 hp HK HU
      go_wp2_with fail
      go_roundw
      case rel => exact ⟨k + 1, by omega, by go_num, HK2.out, (by rw [HP.out, ← List.append_assoc]; exact HW2.out)⟩
      case measure => simp [intOf]; omega
    · obtain rfl : k = n := by omega
      go_wp2_with fail
      first | go_end0 | refine bodyPost_ret (results_none rfl _ _ _) rfl ?_
      rw [HNN.out, List.take_length] at hw
      exact ⟨rfl, hK, hw⟩
end Go.Proofs.YtaomigfmjglggaaDoor
