/- The document's First and Keys of layer 1: their contracts; what Right answers. -/
import Derived.Test.YteocienbfhgmjaaRt5
import Derived.Test.YteocienbfhgmjaaRefS
import Derived.Test.YteocienbfhgmjaaPl
namespace Go.Proofs.Yteocienbfhgmjaa
open Go.RowKit

theorem own_cell {w : World} {base : Nat} {e : TypeId} {aq : Option Addr} {cq n : Nat} {l : List Int} (h : w.ownsRow base e 1 (.slice aq n cq) n (l.map (.int .u32))) {i : Nat} (hi : i < n) :
    ∃ g, aq = some ⟨g, 0, none⟩ ∧ base ≤ g ∧ g < w.heap.size ∧ n ≤ cq ∧ w.cell? ⟨g, i, none⟩ = some (.int .u32 (nth l i)) := by
  have hl := h.1
  simp at hl
  have h0 := h
  rcases h.2 with ⟨hv, hn⟩ | ⟨g, c, cur, hv, hb, hg, hc, _⟩
  · omega
  · simp at hv
    obtain ⟨rfl, rfl⟩ := hv
    refine ⟨g, rfl, hb, (Array.getElem?_eq_some_iff.1 hg).1, hc, ?_⟩
    have := h0.cellAt i (by omega)
    rw [this]
    simp [nth, List.getD, show i < l.length by omega]

/-- The first k of a row, and noughts behind. -/
def filled (l : List Int) (k : Nat) : List Int := l.take k ++ List.replicate (l.length - k) 0
theorem length_filled (l : List Int) (k : Nat) (h : k ≤ l.length) : (filled l k).length = l.length := by simp [filled]; omega
theorem filled_succ (l : List Int) (k : Nat) (h : k < l.length) : (filled l k).set k (nth l k) = filled l (k + 1) := by
  have hk : (l.take k).length = k := by simp; omega
  rw [filled, List.set_append_right _ _ (by omega), hk, Nat.sub_self, filled, List.take_succ_eq_append_getElem h, List.append_assoc, show l.length - k = (l.length - (k + 1)) + 1 by omega, List.replicate_succ]
  simp [nth, List.getD, h]
theorem filled_all (l : List Int) : filled l l.length = l := by simp [filled]

theorem ownsRow_setOther {w : World} {base : Nat} {e : TypeId} {v : Value} {n : Nat} {xs : List Value} (h : w.ownsRow base e 1 v n xs) {p : Addr} (hp : p.block < base) (u : Value) : (w.setCell p u).ownsRow base e 1 v n xs :=
  h.kept (row := some p.block) ⟨rfl, rfl, rfl, by simp, fun k _ hk => Below.heap_setCell w p u k (fun e => hk (by rw [e]))⟩ (.inr (fun e => by have := own_block_le h _ e; omega))

theorem ints_first : ints firstN = firstS := by decide +kernel

set_option maxRecDepth 100000 in
set_option maxHeartbeats 1000000 in
theorem firstR (w : World) : Calls Try.prog 13 #[] w fun e w' => e = .returned (.agg (cellsOf .u32 firstS)) ∧ Below w.heap.size w w' := by
  go_enter Try.func13, Try.ntmps13
  go_wp2_with (first | (with_reducible refine wpList_alloc_row rfl 24 rfl (cellsOf .u32 zeros8) zero24 ?_))
  have hB0 : Below w.heap.size w ((w.alloc (.cells (cellsOf .u32 zeros8) 24)).alloc (.cells (cellsOf .u32 zeros8) 24)) := ((Below.refl _ _).alloc (Nat.le_refl _) _).alloc (by simp) _
  have hb0 : Blk ((w.alloc (.cells (cellsOf .u32 zeros8) 24)).alloc (.cells (cellsOf .u32 zeros8) 24)) w.heap.size 24 .u32 zeros8 := heap_alloc2_old _ _ _
  have hb1 : Blk ((w.alloc (.cells (cellsOf .u32 zeros8) 24)).alloc (.cells (cellsOf .u32 zeros8) 24)) (w.heap.size + 1) 24 .u32 (filled firstS 0) := heap_alloc2_new _ _ _
  have hsz : ((w.alloc (.cells (cellsOf .u32 zeros8) 24)).alloc (.cells (cellsOf .u32 zeros8) 24)).heap.size = w.heap.size + 2 := by simp
  generalize ((w.alloc (.cells (cellsOf .u32 zeros8) 24)).alloc (.cells (cellsOf .u32 zeros8) 24)) = w0 at hB0 hb0 hb1 hsz ⊢
  have hR := roots_ref 8 2 18 firstN w0 (by omega) (by omega) (by omega) rootsK2 rfl rootsS2
  rw [show (((8 : Nat)) : Int) = 8 from rfl, show (((2 : Nat)) : Int) = 2 from rfl] at hR
  have HR := hide hR
  clear hR
  refine HR.out.mono ?_
  rintro e w1 ⟨aq, cq, rfl, hown, hBX⟩
  rw [ints_first] at hown
  rw [show firstN.length = 8 from rfl] at hown ⊢
  have HOWN := hide hown
  have HB1 := hide (below_through hBX hB0)
  have Hb0 := hide (blk_through hBX hb0)
  have Hb1 := hide (blk_through hBX hb1)
  have hbase : w.heap.size + 2 ≤ w0.heap.size := by omega
  clear hown hBX hB0 hb0 hb1 HR hsz
  go_wp2_with fail
  go_loopw [3] (fun i wr => ∃ k : Nat, k ≤ 8 ∧ i = .int .i64 (k : Int) ∧ Blk wr w.heap.size 24 .u32 zeros8 ∧ Blk wr (w.heap.size + 1) 24 .u32 (filled firstS k) ∧ wr.ownsRow w0.heap.size 23 1 (.slice aq 8 cq) 8 (firstS.map (.int .u32)) ∧ Below w.heap.size w wr) (fun i _ => 8 - (intOf i).toNat)
  case atStart => exact ⟨0, by omega, rfl, Hb0.out, Hb1.out, HOWN.out, HB1.out⟩
  case round =>
    obtain ⟨k, hk, rfl, hb0, hb1, hown, hB⟩ := hrel
    clear HOWN HB1 Hb0 Hb1
    by_cases hlt : k < 8
    · obtain ⟨g, rfl, hg0, hg1, hnc, hcl⟩ := own_cell hown hlt
      obtain ⟨x, hx⟩ : ∃ x, x = nth firstS k := ⟨_, rfl⟩
      rw [← hx] at hcl
      have hc := hb1.cell k (by rw [length_filled _ _ (by rw [show firstS.length = 8 from rfl]; omega)]; exact hlt)
      have hf := hb1.free k
      have HX := hide hx
      have H1 := hide (hb1.set k x)
      have H0 := hide (hb0.other ⟨w.heap.size + 1, k, none⟩ (.int .u32 x) (by simp))
      have HB := hide (hB.setCell (p := ⟨w.heap.size + 1, k, none⟩) (by show w.heap.size ≤ w.heap.size + 1; omega) (.int .u32 x))
      have HOWN := hide (ownsRow_setOther hown (p := ⟨w.heap.size + 1, k, none⟩) (by show w.heap.size + 1 < _; omega) (.int .u32 x))
      clear hx hb0 hb1 hown hB hg0 hg1
      go_wp2_with fail
      go_roundw
      case rel => exact ⟨k + 1, by omega, by go_num, H0.out, by rw [← filled_succ _ _ (by rw [show firstS.length = 8 from rfl]; exact hlt), ← HX.out]; exact H1.out, HOWN.out, HB.out⟩
      case measure => simp [intOf] <;> omega
    · have hb1' : Blk wr (w.heap.size + 1) 24 .u32 firstS := by
        have h := hb1
        rw [show k = firstS.length from by rw [show firstS.length = 8 from rfl]; omega, filled_all] at h
        exact h
      clear hb1 hown
      go_wp2_with (first | (with_reducible refine wpList_load_row rfl 24 (.tmp 1) rfl (w.heap.size + 1) rfl _ _ (0, 0) _ hb1'.row Try.underlying24 rfl (sz24 firstS rfl) ?_) | (with_reducible refine wpList_store_row rfl 24 (.tmp 0) (.tmp 15) rfl w.heap.size (cellsOf .u32 firstS) rfl rfl _ _ hb0.row (sz24 firstS rfl) (szEq zeros8 firstS rfl) (oneCell_cellsOf _ _) ?_))
      refine bodyPost_ret (v := .agg (cellsOf .u32 firstS)) (results_cell_row rfl _ _ w.heap.size _ _ (0, 0) _ rfl (hb0.setRow firstS).row Try.underlying24 rfl (sz24 firstS rfl)) rfl ?_
      exact ⟨rfl, below_setRow hB (Nat.le_refl _) _⟩

theorem ints_keys : ints keysN = keysS := by decide +kernel

set_option maxRecDepth 100000 in
set_option maxHeartbeats 1000000 in
theorem keysR (w : World) : Calls Try.prog 15 #[] w fun e w' => e = .returned (.agg (cellsOf .u32 keysS)) ∧ Below w.heap.size w w' := by
  go_enter Try.func15, Try.ntmps15
  go_wp2_with (first | (with_reducible refine wpList_alloc_row rfl 26 rfl (cellsOf .u32 zeros64) zero26 ?_))
  have hB0 : Below w.heap.size w ((w.alloc (.cells (cellsOf .u32 zeros64) 26)).alloc (.cells (cellsOf .u32 zeros64) 26)) := ((Below.refl _ _).alloc (Nat.le_refl _) _).alloc (by simp) _
  have hb0 : Blk ((w.alloc (.cells (cellsOf .u32 zeros64) 26)).alloc (.cells (cellsOf .u32 zeros64) 26)) w.heap.size 26 .u32 zeros64 := heap_alloc2_old _ _ _
  have hb1 : Blk ((w.alloc (.cells (cellsOf .u32 zeros64) 26)).alloc (.cells (cellsOf .u32 zeros64) 26)) (w.heap.size + 1) 26 .u32 (filled keysS 0) := heap_alloc2_new _ _ _
  have hsz : ((w.alloc (.cells (cellsOf .u32 zeros64) 26)).alloc (.cells (cellsOf .u32 zeros64) 26)).heap.size = w.heap.size + 2 := by simp
  generalize ((w.alloc (.cells (cellsOf .u32 zeros64) 26)).alloc (.cells (cellsOf .u32 zeros64) 26)) = w0 at hB0 hb0 hb1 hsz ⊢
  have hR := roots_ref 64 3 310 keysN w0 (by omega) (by omega) (by omega) rootsK3 rfl rootsS3
  rw [show (((64 : Nat)) : Int) = 64 from rfl, show (((3 : Nat)) : Int) = 3 from rfl] at hR
  have HR := hide hR
  clear hR
  refine HR.out.mono ?_
  rintro e w1 ⟨aq, cq, rfl, hown, hBX⟩
  rw [ints_keys] at hown
  rw [show keysN.length = 64 from rfl] at hown ⊢
  have HOWN := hide hown
  have HB1 := hide (below_through hBX hB0)
  have Hb0 := hide (blk_through hBX hb0)
  have Hb1 := hide (blk_through hBX hb1)
  have hbase : w.heap.size + 2 ≤ w0.heap.size := by omega
  clear hown hBX hB0 hb0 hb1 HR hsz
  go_wp2_with fail
  go_loopw [3] (fun i wr => ∃ k : Nat, k ≤ 64 ∧ i = .int .i64 (k : Int) ∧ Blk wr w.heap.size 26 .u32 zeros64 ∧ Blk wr (w.heap.size + 1) 26 .u32 (filled keysS k) ∧ wr.ownsRow w0.heap.size 23 1 (.slice aq 64 cq) 64 (keysS.map (.int .u32)) ∧ Below w.heap.size w wr) (fun i _ => 64 - (intOf i).toNat)
  case atStart => exact ⟨0, by omega, rfl, Hb0.out, Hb1.out, HOWN.out, HB1.out⟩
  case round =>
    obtain ⟨k, hk, rfl, hb0, hb1, hown, hB⟩ := hrel
    clear HOWN HB1 Hb0 Hb1
    by_cases hlt : k < 64
    · obtain ⟨g, rfl, hg0, hg1, hnc, hcl⟩ := own_cell hown hlt
      obtain ⟨x, hx⟩ : ∃ x, x = nth keysS k := ⟨_, rfl⟩
      rw [← hx] at hcl
      have hc := hb1.cell k (by rw [length_filled _ _ (by rw [show keysS.length = 64 from rfl]; omega)]; exact hlt)
      have hf := hb1.free k
      have HX := hide hx
      have H1 := hide (hb1.set k x)
      have H0 := hide (hb0.other ⟨w.heap.size + 1, k, none⟩ (.int .u32 x) (by simp))
      have HB := hide (hB.setCell (p := ⟨w.heap.size + 1, k, none⟩) (by show w.heap.size ≤ w.heap.size + 1; omega) (.int .u32 x))
      have HOWN := hide (ownsRow_setOther hown (p := ⟨w.heap.size + 1, k, none⟩) (by show w.heap.size + 1 < _; omega) (.int .u32 x))
      clear hx hb0 hb1 hown hB hg0 hg1
      go_wp2_with fail
      go_roundw
      case rel => exact ⟨k + 1, by omega, by go_num, H0.out, by rw [← filled_succ _ _ (by rw [show keysS.length = 64 from rfl]; exact hlt), ← HX.out]; exact H1.out, HOWN.out, HB.out⟩
      case measure => simp [intOf] <;> omega
    · have hb1' : Blk wr (w.heap.size + 1) 26 .u32 keysS := by
        have h := hb1
        rw [show k = keysS.length from by rw [show keysS.length = 64 from rfl]; omega, filled_all] at h
        exact h
      clear hb1 hown
      go_wp2_with (first | (with_reducible refine wpList_load_row rfl 26 (.tmp 1) rfl (w.heap.size + 1) rfl _ _ (0, 0) _ hb1'.row Try.underlying26 rfl (sz26 keysS rfl) ?_) | (with_reducible refine wpList_store_row rfl 26 (.tmp 0) (.tmp 15) rfl w.heap.size (cellsOf .u32 keysS) rfl rfl _ _ hb0.row (sz26 keysS rfl) (szEq zeros64 keysS rfl) (oneCell_cellsOf _ _) ?_))
      refine bodyPost_ret (v := .agg (cellsOf .u32 keysS)) (results_cell_row rfl _ _ w.heap.size _ _ (0, 0) _ rfl (hb0.setRow keysS).row Try.underlying26 rfl (sz26 keysS rfl)) rfl ?_
      exact ⟨rfl, below_setRow hB (Nat.le_refl _) _⟩

theorem eqAgg (n : Nat) (t e : TypeId) (ht : Try.prog.underlying t = some (.array n e)) (he : Try.prog.underlying e = some (.int .u32)) (hs : (Try.prog.info? e).map (·.size) = some 1) (l : List Int) (hl : l.length = n) (w : World) : (Op.equalIn 10000 t (.agg (cellsOf .u32 l)) (.agg (cellsOf .u32 l))).run Try.prog w = .ok true w := by
  have h := run_equalIn_cells (P := Try.prog) 9998 t e n .u32 ht he hs l l hl hl w
  rw [beq_self_eq_true] at h
  exact h

set_option maxRecDepth 100000 in
theorem right_ref (w : World) : Calls Try.prog 11 #[] w fun e w' => e = .returned (.bool true) ∧ Below w.heap.size w w' := by
  obtain ⟨K, hK⟩ : ∃ K, K = keysS := ⟨_, rfl⟩
  obtain ⟨F, hF⟩ : ∃ F, F = firstS := ⟨_, rfl⟩
  have hk := eqAgg 64 26 23 Try.underlying26 Try.underlying23 size23 K (by rw [hK]; rfl)
  have hf := eqAgg 8 24 23 Try.underlying24 Try.underlying23 size23 F (by rw [hF]; rfl)
  have HK := hide hK
  have HF := hide hF
  clear hK hF
  go_enter Try.func11, Try.ntmps11
  go_wp2_with fail
  refine (table_ref _).mono ?_
  rintro e w1 ⟨rfl, hB1⟩
  have HB1 := hide hB1
  clear hB1
  rw [← HK.out]
  go_wp2_with fail
  refine (keysR _).mono ?_
  rintro e w2 ⟨rfl, hB2⟩
  have HB2 := hide (below_through hB2 HB1.out)
  clear hB2
  rw [← HK.out]
  go_wp2_with fail
  refine (begin_ref _).mono ?_
  rintro e w3 ⟨rfl, hB3⟩
  have HB3 := hide (below_through hB3 HB2.out)
  clear hB3
  rw [← HF.out]
  go_wp2_with fail
  refine (firstR _).mono ?_
  rintro e w4 ⟨rfl, hB4⟩
  have HB4 := hide (below_through hB4 HB3.out)
  clear hB4
  rw [← HF.out]
  go_wp2_with fail
  go_ret
  exact ⟨rfl, HB4.out⟩
end Go.Proofs.Yteocienbfhgmjaa
