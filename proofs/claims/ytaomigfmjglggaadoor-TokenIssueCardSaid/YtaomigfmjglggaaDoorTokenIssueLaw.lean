/- Law TokenIssue, walked. -/
import Derived.Test.YtaomigfmjglggaaDoorTkLWM
import Derived.Test.YtaomigfmjglggaaDoorTkIssR
namespace Go.Proofs.YtaomigfmjglggaaDoor
open Go.RowKit

set_option maxRecDepth 100000 in
set_option maxHeartbeats 2000000 in
theorem issue_walk (rv : Value) (k : List Int) (o n : Nat) (t : Tk) (now : Nat) (w : World) (hT : Tab w) (hk : SlAt w rv k) (hkb : ∀ x ∈ k, 0 ≤ x ∧ x < 256) (_ : k.length ≤ maxLen) (hp : t.pre) (_ : o < 18446744073709551616) (hn : n < 18446744073709551616) (hnow : now < 18446744073709551616) :
    Calls Tryd.prog 4 #[.agg (ringA rv o n), .agg (tkA t), .int .u64 now] w (LawPost w) := by
  obtain ⟨ra, rc, rfl⟩ := hk.len
  have HT := hide hT
  have HL := hide (LW.first w (.slice ra k.length rc) k o n t hk)
  have HP := hide hp
  have HPM := hide hp.mac
  have HKB := hide hkb
  have HAW := hide (fun W (h : Below w.heap.size w W) => awake_any W (HT.out.below h HT.out.two))
  have HLG := hide (fun W => long_any ra k.length rc o n t W)
  clear hk hp hT hkb

  by_cases hl : longB k.length t = true
  · have hlq : Hid (longB k.length t = true) := hide hl
    rw [hl] at HLG
    clear hl hlq
    generalize k.length = q at *
    have ar0 := HL.out.r.c0
    have ar1 := HL.out.r.c1
    have ar2 := HL.out.r.c2
    have ax0 := HL.out.x.c0
    have ax1 := HL.out.x.c1
    have ax2 := HL.out.x.c2
    have ax3 := HL.out.x.c3
    have ax4 := HL.out.x.c4
    have ax5 := HL.out.x.c5
    have ax6 := HL.out.x.c6
    have ax7 := HL.out.x.c7
    unfold ringA at *
    go_enter Tryd.func4, Tryd.ntmps4
    go_wp2_with (first | (refine wpList_load_tk rfl (.tmp 4) rfl (w.heap.size + 1) rfl t HPM.out HL.out.x ?_) | (go_at_call 11; refine (HLG.out _).mono ?_; rintro e w2 ⟨rfl, hB⟩; have HL2 := hide (HL.out.next hB); clear ar0 ar1 ar2 ax0 ax1 ax2 ax3 ax4 ax5 ax6 ax7 hB HL HLG) | (go_at_call 12; refine (HAW.out _ HL2.out.b).mono ?_; rintro e w3 ⟨rfl, hB⟩; have HL3 := hide (HL2.out.next hB); clear hB HL2))
    go_ret
    exact ⟨rfl, HL3.out.b⟩
  replace hl : longB k.length t = false := by simpa using hl
  obtain ⟨hl1, hl2, hl3⟩ := longB_not hl
  rw [hl] at HLG
  have HIO := hide (HP.out.iss hl2 hl3 hnow hn)
  have HI1 := hide (fun W (h : LW w (.slice ra k.length rc) k o n t W) => issue_any k (.slice ra k.length rc) o n t.ns t.sa t.uid t.host t.addr now W HIO.out (HT.out.below h.b HT.out.two) h.s)
  have HI2 := hide (fun W (h : LW w (.slice ra k.length rc) k o n t W) => issueR_any k (.slice ra k.length rc) o n t.ns t.sa t.uid t.host t.addr now W HIO.out (HT.out.below h.b HT.out.two) h.s HKB.out)
  obtain ⟨T, hT⟩ : ∃ T, issT k o n t.ns t.sa t.uid t.host t.addr now = T := ⟨_, rfl⟩
  have HTm : Hid (T.mac.length = 32) := hide (by rw [← hT]; exact issT_len _ _ _ _ _ _ _ _ _)
  rw [hT] at HI1 HI2
  generalize issE k o n t.ns t.sa t.uid t.host t.addr now = E at *
  clear hT hl hl1 hl2 hl3
  generalize k.length = q at *
  have heq : ∀ w : World, (Op.equalIn 10000 31 (.agg (tkA T)) (.agg (tkA T))).run Tryd.prog w = .ok true w := fun w => by rw [run_eqTk T T HTm.out HTm.out w, eqT_self]
  have ar0 := HL.out.r.c0
  have ar1 := HL.out.r.c1
  have ar2 := HL.out.r.c2
  have ax0 := HL.out.x.c0
  have ax1 := HL.out.x.c1
  have ax2 := HL.out.x.c2
  have ax3 := HL.out.x.c3
  have ax4 := HL.out.x.c4
  have ax5 := HL.out.x.c5
  have ax6 := HL.out.x.c6
  have ax7 := HL.out.x.c7
  unfold ringA at *
  go_enter Tryd.func4, Tryd.ntmps4

  go_wp2_with (first | (refine wpList_load_tk rfl (.tmp 4) rfl (w.heap.size + 1) rfl t HPM.out HL.out.x ?_) | (go_at_call 11; refine (HLG.out _).mono ?_; rintro e w2 ⟨rfl, hB⟩; have HL2 := hide (HL.out.next hB); have br0 := HL2.out.r.c0; have br1 := HL2.out.r.c1; have br2 := HL2.out.r.c2; have bx0 := HL2.out.x.c0; have bx1 := HL2.out.x.c1; have bx2 := HL2.out.x.c2; have bx3 := HL2.out.x.c3; have bx4 := HL2.out.x.c4; have bx5 := HL2.out.x.c5; have bx6 := HL2.out.x.c6; have bx7 := HL2.out.x.c7; clear ar0 ar1 ar2 ax0 ax1 ax2 ax3 ax4 ax5 ax6 ax7 hB HL HLG) | (go_at_call 20; refine (HI1.out _ HL2.out).mono ?_; rintro e w3 ⟨rfl, hB⟩; have HL3 := hide (HL2.out.next hB); clear br0 br1 br2 bx0 bx1 bx2 bx3 bx4 bx5 bx6 bx7 hB HL2) | (go_at_call 21; refine (HI2.out _ HL4.out).mono ?_; rintro e w5 ⟨rfl, hB⟩; have HL5 := hide (HL4.out.next hB); have HA5 := hide (HA4.out.next hB); clear cr0 cr1 cr2 cx0 cx1 cx2 cx3 cx4 cx5 cx6 cx7 hB HL4 HA4) | (refine wpList_alloc_tk rfl rfl ?_) | (refine wpList_store_tk_new rfl (.tmp 7) (.tmp 27) rfl w3.heap.size T rfl rfl tk0 tk0_len HTm.out (TBox.new _ _) (fun W => LW w (.slice ra q rc) k o n t W ∧ TBox W w3.heap.size T) ⟨HL3.out.next (below_pair w3 tk0 T), (TBox.new _ _).row⟩ ?_; intro w4 hp; have HL4 := hide hp.1; have HA4 := hide hp.2; have cr0 := HL4.out.r.c0; have cr1 := HL4.out.r.c1; have cr2 := HL4.out.r.c2; have cx0 := HL4.out.x.c0; have cx1 := HL4.out.x.c1; have cx2 := HL4.out.x.c2; have cx3 := HL4.out.x.c3; have cx4 := HL4.out.x.c4; have cx5 := HL4.out.x.c5; have cx6 := HL4.out.x.c6; have cx7 := HL4.out.x.c7; clear hp HL3) | (refine wpList_store_tk_new rfl (.tmp 9) (.tmp 41) rfl w5.heap.size T rfl rfl tk0 tk0_len HTm.out (TBox.new _ _) (fun W => LW w (.slice ra q rc) k o n t W ∧ TBox W w5.heap.size T ∧ TBox W w3.heap.size T) ⟨HL5.out.next (below_pair w5 tk0 T), (TBox.new _ _).row, HA5.out.next (below_pair w5 tk0 T)⟩ ?_; intro w6 hp; have HL6 := hide hp.1; have HC6 := hide hp.2.1; have HA6 := hide hp.2.2; clear hp HL5) | (refine wpList_load_tk rfl (.tmp 7) rfl w3.heap.size rfl T HTm.out HA6.out ?_) | (refine wpList_load_tk rfl (.tmp 9) rfl w5.heap.size rfl T HTm.out HC6.out ?_) | (go_at_call 12; refine (HAW.out _ HL6.out.b).mono ?_; rintro e w7 ⟨rfl, hB⟩; have HL7 := hide (HL6.out.next hB); clear hB HL6))
  go_ret
  exact ⟨rfl, HL7.out.b⟩
end Go.Proofs.YtaomigfmjglggaaDoor
