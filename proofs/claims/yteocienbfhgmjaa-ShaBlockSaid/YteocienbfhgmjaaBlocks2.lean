/- takeBlocks of package sha, where there is no block; and both ways together: its contract. -/
import Derived.Test.YteocienbfhgmjaaProg
import Derived.Test.YteocienbfhgmjaaBlocks
namespace Go.Proofs.Yteocienbfhgmjaa
open Go.RowKit

theorem ownsRow_base {w : World} {base base' : Nat} {e : TypeId} {size : Nat} {v : Value} {n : Nat} {xs : List Value} (h : w.ownsRow base e size v n xs) (hb : base' ≤ base) : w.ownsRow base' e size v n xs := by
  obtain ⟨h1, h2 | ⟨g, cap, cur, e1, e2, r⟩⟩ := h
  · exact ⟨h1, .inl h2⟩
  · exact ⟨h1, .inr ⟨g, cap, cur, e1, Nat.le_trans hb e2, r⟩⟩

/-- Behind Concat: the bytes, one behind the other, in a row of the call's own. -/
def ConPost (X : List Int) (w : World) (e : Ending) (w' : World) : Prop :=
  ∃ ap cap, e = .returned (.slice ap X.length cap) ∧ w'.ownsRow w.heap.size 5 1 (.slice ap X.length cap) X.length (X.map (.int .u8)) ∧ Below w.heap.size w w' ∧ ∀ j, j < w.heap.size → (Value.slice ap X.length cap).ownBlock ≠ some j

theorem concat_own (ps : List (List Int)) (b o c : Nat) (w : World) (hP : PartsAt w b o ps) (hn : ps.length ≤ 1000000) (hX : ps.flatten.length ≤ 140737488355328) :
    Calls Try.prog 48 #[.slice (some ⟨b, o, none⟩) ps.length c] w (ConPost ps.flatten w) := by
  by_cases h0 : ps.flatten.length = 0
  · refine (concat_zero ps b o c w hP hn h0).mono ?_
    rintro e w' ⟨rfl, rfl⟩
    rw [List.eq_nil_of_length_eq_zero h0]
    exact ⟨none, 0, rfl, World.ownsRow_nil _ _ _ _, Below.refl _ _, fun _ _ h => by cases h⟩
  · refine (concat_any ps b o c w hP hn (by omega) hX).mono ?_
    rintro e w' ⟨cap, rfl, hown, hB⟩
    exact ⟨_, cap, rfl, hown, hB, fun j hj h => by simp [Value.ownBlock] at h; omega⟩

set_option maxRecDepth 100000 in
set_option maxHeartbeats 1000000 in
theorem blocks_few (sv : List Int) (ps : List (List Int)) (b o c : Nat) (w : World) (hv : sv.length = 8) (hP : PartsAt w b o ps) (hn : ps.length ≤ 1000000) (h64 : ps.flatten.length < 64) :
    Calls Try.prog 35 #[.agg (cellsOf .u32 sv), .slice (some ⟨b, o, none⟩) ps.length c] w (TakePost sv ps.flatten w) := by
  have HP := hide hP
  have HAVE := hide (fun W => (fun (h : PartsAt W b o ps) => have_any ps b o c W h hn (by omega)))
  have HCON := hide (fun W => (fun (h : PartsAt W b o ps) => concat_own ps b o c W h hn (by omega)))
  have HT := hide (show haveB ps.flatten.length = false by unfold haveB; exact decide_eq_false (by omega))
  obtain ⟨X, hXX⟩ : ∃ X, X = ps.flatten := ⟨_, rfl⟩
  rw [HT.out] at HAVE
  rw [← hXX] at HCON h64 ⊢
  obtain ⟨n, hnn⟩ : ∃ n, n = ps.length := ⟨_, rfl⟩
  rw [← hnn] at hn HAVE HCON ⊢
  have HM64 := hide h64
  clear hP hnn hXX h64 HT
  obtain ⟨a0, a1, a2, a3, a4, a5, a6, a7, rfl⟩ := list8 hv
  clear hv
  go_enter Try.func35, Try.ntmps35
  go_wp2_with (with_reducible refine wpList_alloc_row rfl 24 rfl (cellsOf .u32 zeros8) zero24 ?_)
  have hBW : Below w.heap.size w ((w.alloc (.cells (cellsOf .u32 [a0, a1, a2, a3, a4, a5, a6, a7]) 24)).alloc (.cells (cellsOf .u32 zeros8) 24)) := ((Below.refl _ _).alloc (Nat.le_refl _) _).alloc (by simp) _
  have hb0 : Blk ((w.alloc (.cells (cellsOf .u32 [a0, a1, a2, a3, a4, a5, a6, a7]) 24)).alloc (.cells (cellsOf .u32 zeros8) 24)) w.heap.size 24 .u32 [a0, a1, a2, a3, a4, a5, a6, a7] := heap_alloc2_old _ _ _
  have hb1 : Blk ((w.alloc (.cells (cellsOf .u32 [a0, a1, a2, a3, a4, a5, a6, a7]) 24)).alloc (.cells (cellsOf .u32 zeros8) 24)) (w.heap.size + 1) 24 .u32 zeros8 := heap_alloc2_new _ _ _
  refine (HAVE.out _ (HP.out.below hBW)).mono ?_
  rintro e wA ⟨rfl, hw0⟩
  rw [hw0] at hBW hb0 hb1
  clear hw0
  have c0 : wA.cell? ⟨w.heap.size, 0, none⟩ = some (.int .u32 a0) := hb0.cell 0 (by simp)
  have c1 : wA.cell? ⟨w.heap.size, 1, none⟩ = some (.int .u32 a1) := hb0.cell 1 (by simp)
  have c2 : wA.cell? ⟨w.heap.size, 2, none⟩ = some (.int .u32 a2) := hb0.cell 2 (by simp)
  have c3 : wA.cell? ⟨w.heap.size, 3, none⟩ = some (.int .u32 a3) := hb0.cell 3 (by simp)
  have c4 : wA.cell? ⟨w.heap.size, 4, none⟩ = some (.int .u32 a4) := hb0.cell 4 (by simp)
  have c5 : wA.cell? ⟨w.heap.size, 5, none⟩ = some (.int .u32 a5) := hb0.cell 5 (by simp)
  have c6 : wA.cell? ⟨w.heap.size, 6, none⟩ = some (.int .u32 a6) := hb0.cell 6 (by simp)
  have c7 : wA.cell? ⟨w.heap.size, 7, none⟩ = some (.int .u32 a7) := hb0.cell 7 (by simp)
  have HCALL := hide (HCON.out wA.drew ((HP.out.below hBW).below ⟨rfl, rfl, rfl, Nat.le_refl _, fun _ _ => rfl⟩))
  go_wp2_with fail
  go_region_law ((go_simp; go_at_call 48; refine HCALL.out.mono ?_; rintro e wB ⟨ap, cap, rfl, hown, hBA, hno⟩; have hB0 := hb0.drew.below hBA hb0.lt; have hB1 := hb1.drew.below hBA hb1.lt; have d0 : wB.cell? ⟨w.heap.size, 0, none⟩ = some (.int .u32 a0) := hB0.cell 0 (by simp); have d1 : wB.cell? ⟨w.heap.size, 1, none⟩ = some (.int .u32 a1) := hB0.cell 1 (by simp); have d2 : wB.cell? ⟨w.heap.size, 2, none⟩ = some (.int .u32 a2) := hB0.cell 2 (by simp); have d3 : wB.cell? ⟨w.heap.size, 3, none⟩ = some (.int .u32 a3) := hB0.cell 3 (by simp); have d4 : wB.cell? ⟨w.heap.size, 4, none⟩ = some (.int .u32 a4) := hB0.cell 4 (by simp); have d5 : wB.cell? ⟨w.heap.size, 5, none⟩ = some (.int .u32 a5) := hB0.cell 5 (by simp); have d6 : wB.cell? ⟨w.heap.size, 6, none⟩ = some (.int .u32 a6) := hB0.cell 6 (by simp); have d7 : wB.cell? ⟨w.heap.size, 7, none⟩ = some (.int .u32 a7) := hB0.cell 7 (by simp); have e0 : wB.cell? ⟨w.heap.size + 1, 0, none⟩ = some (.int .u32 0) := hB1.cell 0 (by decide); have e1 : wB.cell? ⟨w.heap.size + 1, 1, none⟩ = some (.int .u32 0) := hB1.cell 1 (by decide); have e2 : wB.cell? ⟨w.heap.size + 1, 2, none⟩ = some (.int .u32 0) := hB1.cell 2 (by decide); have e3 : wB.cell? ⟨w.heap.size + 1, 3, none⟩ = some (.int .u32 0) := hB1.cell 3 (by decide); have e4 : wB.cell? ⟨w.heap.size + 1, 4, none⟩ = some (.int .u32 0) := hB1.cell 4 (by decide); have e5 : wB.cell? ⟨w.heap.size + 1, 5, none⟩ = some (.int .u32 0) := hB1.cell 5 (by decide); have e6 : wB.cell? ⟨w.heap.size + 1, 6, none⟩ = some (.int .u32 0) := hB1.cell 6 (by decide); have e7 : wB.cell? ⟨w.heap.size + 1, 7, none⟩ = some (.int .u32 0) := hB1.cell 7 (by decide); have f0 := hB1.free 0; have f1 := hB1.free 1; have f2 := hB1.free 2; have f3 := hB1.free 3; have f4 := hB1.free 4; have f5 := hB1.free 5; have f6 := hB1.free 6; have f7 := hB1.free 7; have HOWN := hide hown; have HNO := hide (hno (w.heap.size + 1) hb1.lt); have HBW := hide (hBW.drew.trans (hBA.mono hBW.size)); clear hown hno hBA hB0))
  all_goals go_wp2
  all_goals
    have hfin : Blk _ (w.heap.size + 1) 24 .u32 [a0, a1, a2, a3, a4, a5, a6, a7] := (((((((hB1.set 0 a0).set 1 a1).set 2 a2).set 3 a3).set 4 a4).set 5 a5).set 6 a6).set 7 a7
    have hBf := (((((((HBW.out.setCell (p := ⟨w.heap.size + 1, 0, none⟩) (Nat.le_succ _) (.int .u32 a0)).setCell (p := ⟨w.heap.size + 1, 1, none⟩) (Nat.le_succ _) (.int .u32 a1)).setCell (p := ⟨w.heap.size + 1, 2, none⟩) (Nat.le_succ _) (.int .u32 a2)).setCell (p := ⟨w.heap.size + 1, 3, none⟩) (Nat.le_succ _) (.int .u32 a3)).setCell (p := ⟨w.heap.size + 1, 4, none⟩) (Nat.le_succ _) (.int .u32 a4)).setCell (p := ⟨w.heap.size + 1, 5, none⟩) (Nat.le_succ _) (.int .u32 a5)).setCell (p := ⟨w.heap.size + 1, 6, none⟩) (Nat.le_succ _) (.int .u32 a6)).setCell (p := ⟨w.heap.size + 1, 7, none⟩) (Nat.le_succ _) (.int .u32 a7)
    have hO := ownsRow_setCell_other (ownsRow_setCell_other (ownsRow_setCell_other (ownsRow_setCell_other (ownsRow_setCell_other (ownsRow_setCell_other (ownsRow_setCell_other (ownsRow_setCell_other HOWN.out (a := ⟨w.heap.size + 1, 0, none⟩) HNO.out (.int .u32 a0)) (a := ⟨w.heap.size + 1, 1, none⟩) HNO.out (.int .u32 a1)) (a := ⟨w.heap.size + 1, 2, none⟩) HNO.out (.int .u32 a2)) (a := ⟨w.heap.size + 1, 3, none⟩) HNO.out (.int .u32 a3)) (a := ⟨w.heap.size + 1, 4, none⟩) HNO.out (.int .u32 a4)) (a := ⟨w.heap.size + 1, 5, none⟩) HNO.out (.int .u32 a5)) (a := ⟨w.heap.size + 1, 6, none⟩) HNO.out (.int .u32 a6)) (a := ⟨w.heap.size + 1, 7, none⟩) HNO.out (.int .u32 a7)
    refine bodyPost_ret (results_cell_tmp rfl _ _ (w.heap.size + 1) _ _ (0, 0) _ rfl hfin.row Try.underlying24 rfl (sz24 _ rfl)) rfl ?_
    have h64 := HM64.out
    have e1 : X.length / 64 = 0 := by omega
    have e2 : X.length % 64 = X.length := by omega
    refine ⟨ap, cap, by rw [e1, e2]; rfl, ?_, hBf⟩
    rw [e1, e2, Nat.mul_zero, List.drop_zero]
    exact ownsRow_base hO hBW.size

theorem blocks_own (sv : List Int) (ps : List (List Int)) (b o c : Nat) (w : World) (hv : sv.length = 8) (hP : PartsAt w b o ps) (hn : ps.length ≤ 1000000) (hX : ps.flatten.length ≤ 140737488355328) :
    Calls Try.prog 35 #[.agg (cellsOf .u32 sv), .slice (some ⟨b, o, none⟩) ps.length c] w (TakePost sv ps.flatten w) := by
  by_cases h : ps.flatten.length < 64
  · exact blocks_few sv ps b o c w hv hP hn h
  · exact blocks_any sv ps b o c w (hide hv) hP hn (by omega) hX
end Go.Proofs.Yteocienbfhgmjaa
