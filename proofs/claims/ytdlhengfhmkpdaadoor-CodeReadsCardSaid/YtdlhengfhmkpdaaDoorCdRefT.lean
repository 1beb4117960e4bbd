/- The document's reader: Uint, Text, End. -/
import Derived.Test.YtdlhengfhmkpdaaDoorCdFrontW
namespace Go.Proofs.YtdlhengfhmkpdaaDoor
open Go.RowKit

theorem MPost.pre {W w1 w2 : World} {B g : Nat} {F : Nat → Prop} {bs : List Int} {bad : Bool} (hB1 : Below W.heap.size W w1) (hge : ∀ k, F k → B ≤ k ∧ k < W.heap.size) (hob : B ≤ W.heap.size) (hF : F g) (h : MPost w1 B F g bs bad w2) : MPost W B F g bs bad w2 := by
  obtain ⟨hk2, hr2⟩ := h
  have hkk : Keep F W w2 := (Keep.of_below hB1 : Keep F W w1).trans hk2 (fun _ h => .inl h)
  refine ⟨hkk, .inl hF, fun k hk => ?_, ?_⟩
  · rcases hk with hk | hk
    · exact ⟨(hge k hk).1, Nat.lt_of_lt_of_le (hge k hk).2 hkk.size⟩
    · exact ⟨Nat.le_trans hob hk.1, hk.2⟩
  · obtain ⟨u, q1, q2, q3⟩ := hr2.shape
    refine ⟨u, q1, q2, fun k e => ⟨?_, (q3 k e).2⟩⟩
    rcases (q3 k e).1 with q | q
    · exact .inl q
    · exact .inr ⟨Nat.le_trans hB1.size q.1, q.2⟩

theorem frontS_none {bs : List Int} (h : cutUS bs = none) : frontS bs = (0, 0) := by rw [frontS, h]
theorem frontS_some {bs : List Int} {y : Nat × List Int} (hr : ∀ x ∈ bs, 0 ≤ x ∧ x < 256) (h : cutUS bs = some y) : ∃ n, frontS bs = (y.1, n) ∧ 0 < n ∧ n ≤ bs.length ∧ bs.drop n = y.2 ∧ bs.length - n = y.2.length ∧ y.1 < 18446744073709551616 := by
  obtain ⟨h1, h2⟩ := cutUS_form bs y.1 y.2 hr h
  have hp := uintF_pos 9 y.1
  have hl : bs.length = (uintS y.1).length + y.2.length := by rw [← h2, List.length_append]
  refine ⟨bs.length - y.2.length, by rw [frontS, h], by rw [hl]; have : 0 < (uintS y.1).length := hp; omega, by omega, ?_, by omega, h1⟩
  rw [hl, Nat.add_sub_cancel]
  conv => lhs; rw [← h2]
  rw [List.drop_left' rfl]

set_option maxRecDepth 100000 in
set_option maxHeartbeats 1000000 in
theorem uintM_no (W : World) (B : Nat) (F : Nat → Prop) (g : Nat) (bs : List Int) (bad : Bool) (h : RdM W B F g bs bad) (hr : ∀ x ∈ bs, 0 ≤ x ∧ x < 256) (hb : bs.length ≤ 140737488355328) (hn : bad = true ∨ cutUS bs = none) :
    Calls Tryd.prog 19 #[.pointer (some ⟨g, 0, none⟩)] W (fun e w' => e = .returned (.int .u64 0) ∧ Keep F W w' ∧ RdM w' B F g bs true) := by
  have HF := hide (frontM_any W B F g bs bad h hr hb)
  have HH := hide h
  have hz : bad = true ∨ (frontS bs).2 = 0 := hn.imp id (fun h => by rw [frontS_none h])
  generalize (frontS bs).1 = x at HF
  generalize (frontS bs).2 = n at HF hz
  clear h hr hb hn
  go_enter Tryd.func19, Tryd.ntmps19
  go_wp2_with fail
  refine HF.out.mono ?_
  rintro e w1 ⟨rfl, hB⟩
  have h1 := HH.out.keep (Keep.of_below hB : Keep (fun _ => False) W w1) (fun _ _ => id)
  have HK : Hid (Keep F W w1) := hide (Keep.of_below hB)
  have HS := hide (h1.stop true)
  obtain ⟨ao, cap, hg, hs, hv, c0, c1, f0, f1⟩ := h1.cells
  clear hB h1 HF HH hg hs hv c0 f0
  cases bad with
  | true =>
    clear hz
    go_wp2_with fail
    go_ret
    exact ⟨rfl, HK.out.trans HS.out.2 (fun _ h => .inl h), HS.out.1⟩
  | false =>
    obtain rfl : n = 0 := by simpa using hz
    go_wp2_with fail
    go_ret
    exact ⟨rfl, HK.out.trans HS.out.2 (fun _ h => .inl h), HS.out.1⟩

set_option maxRecDepth 100000 in
set_option maxHeartbeats 1000000 in
theorem uintM_go (y : Nat × List Int) (W : World) (B : Nat) (F : Nat → Prop) (g : Nat) (bs : List Int) (h : RdM W B F g bs false) (hr : ∀ x ∈ bs, 0 ≤ x ∧ x < 256) (hb : bs.length ≤ 140737488355328) (hy : cutUS bs = some y) :
    Calls Tryd.prog 19 #[.pointer (some ⟨g, 0, none⟩)] W (fun e w' => e = .returned (.int .u64 (y.1 : Nat)) ∧ MPost W B F g y.2 false w') := by
  have HF := hide (frontM_any W B F g bs false h hr hb)
  have HH := hide h
  obtain ⟨n, e1, hn0, hnl, hdr, _, _⟩ := frontS_some hr hy
  rw [e1] at HF
  have HD := hide (fun (w1 : World) (h1 : RdM w1 B F g bs false) => drop_any w1 B F g bs false n h1 hnl hb)
  rw [hdr] at HD
  obtain ⟨x, r⟩ := y
  have hnn : ¬ (n : Int) = 0 := by omega
  clear h hr hb hy e1 hdr hnl
  dsimp only at HF HD ⊢
  go_enter Tryd.func19, Tryd.ntmps19
  go_wp2_with fail
  refine HF.out.mono ?_
  rintro e w1 ⟨rfl, hB⟩
  have h1 := HH.out.keep (Keep.of_below hB : Keep (fun _ => False) W w1) (fun _ _ => id)
  have HC := hide (HD.out w1 h1)
  have HB := hide hB
  obtain ⟨ao, cap, hg, hs, hv, c0, c1, f0, f1⟩ := h1.cells
  clear hB h1 HF HD hg hs hv c0 f0 f1
  go_wp2_with fail
  refine HC.out.mono ?_
  rintro e w2 ⟨rfl, hp⟩
  have HP := hide (hp.pre HB.out HH.out.ge HH.out.hB HH.out.own)
  clear hp HC
  go_wp2_with fail
  go_ret
  exact ⟨rfl, HP.out⟩

set_option maxRecDepth 100000 in
set_option maxHeartbeats 1000000 in
theorem endM_any (W : World) (B : Nat) (F : Nat → Prop) (g : Nat) (bs : List Int) (bad : Bool) (h : RdM W B F g bs bad) :
    Calls Tryd.prog 27 #[.pointer (some ⟨g, 0, none⟩)] W (fun e w' => e = .returned (.bool (bad || decide (0 < bs.length))) ∧ Keep F W w' ∧ RdM w' B F g bs (bad || decide (0 < bs.length))) := by
  have HS := hide (fun b2 => h.stop b2)
  obtain ⟨ao, cap, hg, hs, hv, c0, c1, f0, f1⟩ := h.cells
  have hgl := (h.ge g h.own).2
  have e1 : ∀ b2, (W.setCell ⟨g, 1, none⟩ b2).cell? ⟨g, 1, none⟩ = some b2 := fun b2 => by
    have := heap_setCell_same W g 1 _ _ b2 hg
    exact (cell_of_row _ g 1 _ _ _ this).trans rfl
  clear h hg hs hv
  obtain ⟨l, hl⟩ : ∃ l, bs.length = l := ⟨_, rfl⟩
  rw [hl] at c0 ⊢
  clear hl
  cases bad with
  | true =>
    go_enter Tryd.func27, Tryd.ntmps27
    go_wp2_with fail
    go_ret
    exact ⟨rfl, (HS.out true).2, (HS.out true).1⟩
  | false =>
    by_cases h0 : 0 < l
    · have h1 : (l : Int) > 0 := by omega
      have HD := hide (decide_eq_true h0)
      clear h0
      go_enter Tryd.func27, Tryd.ntmps27
      go_wp2_with fail
      go_ret
      simp only [HD.out]
      first | exact ⟨rfl, (HS.out true).2, (HS.out true).1⟩ | exact ⟨by simp [HD.out], (HS.out true).2, (HS.out true).1⟩
    · obtain rfl : l = 0 := by omega
      go_enter Tryd.func27, Tryd.ntmps27
      go_wp2_with fail
      go_ret
      exact ⟨rfl, (HS.out false).2, (HS.out false).1⟩
end Go.Proofs.YtdlhengfhmkpdaaDoor
