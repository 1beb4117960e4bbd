/- Law TokenRings, walked. -/
import Derived.Test.YtaomigfmjglggaaDoorTkLWM
namespace Go.Proofs.YtaomigfmjglggaaDoor
open Go.RowKit

theorem til_eq {n : Nat} {ns sa : ByteArray} {uid : Nat} {host : Int} {addr now : Nat} (hm : mayT (tok0 n ns sa uid host addr now) = true) : now < (now + 200) % 18446744073709551616 := (mayT_parts hm).2.2.2.2.2.2.1
/-- What a token that was issued at a time is by another ring of its root, at that time. -/
theorem rings_ver {k : List Int} {o2 n2 now n : Nat} {t : Tk} {m : List Int} (h1 : mayR k.length o2 n2 = true) (h2 : mayT t = true) (hs : sigS k t = m) (hn : t.born = now) (hk : t.key = n) : verS k o2 n2 { t with mac := m } now = if o2 ≤ n ∧ n ≤ n2 then 0 else 7 := by
  subst hn hk
  have hb : t.born < t.til := (mayT_parts h2).2.2.2.2.2.2.1
  have hok : okS k { t with mac := m } = true := by rw [okS_mac, hs, beq_self_eq_true]
  rw [ver_case h1 (by rw [mayT_mac]; exact h2), hok]
  show (if o2 ≤ t.key ∧ t.key ≤ n2 ∧ true = true then (if t.born ≤ t.born ∧ t.born < t.til then (0 : Int) else 9) else 7) = _
  rw [if_pos (⟨Nat.le_refl _, hb⟩ : t.born ≤ t.born ∧ t.born < t.til)]
  simp only [and_true]

set_option maxRecDepth 100000 in
set_option maxHeartbeats 2000000 in
theorem rings_walk (rv : Value) (k : List Int) (o n : Nat) (t : Tk) (o2 n2 now : Nat) (w : World) (hT : Tab w) (hk : SlAt w rv k) (hkb : ∀ x ∈ k, 0 ≤ x ∧ x < 256) (_ : k.length ≤ maxLen) (hp : t.pre) (_ : o < 18446744073709551616) (hn : n < 18446744073709551616) (_ : o2 < 18446744073709551616) (_ : n2 < 18446744073709551616) (hnow : now < 18446744073709551616) :
    Calls Tryd.prog 10 #[.agg (ringA rv o n), .int .u64 o2, .int .u64 n2, .agg (tkA t), .int .u64 now] w (LawPost w) := by
  obtain ⟨ra, rc, rfl⟩ := hk.len
  have HT := hide hT
  have HL := hide (LW.first w (.slice ra k.length rc) k o n t hk)
  have HP := hide hp
  have HPM := hide hp.mac
  have HKB := hide hkb
  have HAW := hide (fun W (h : Below w.heap.size w W) => awake_any W (HT.out.below h HT.out.two))
  have HLG := hide (fun W => long_any ra k.length rc o n t W)
  clear hk hp hT hkb

  by_cases hl : longB k.length t = true
  · rw [hl] at HLG
    clear hl
    generalize k.length = q at *
    have ar0 := HL.out.r.c0
    have ar1 := HL.out.r.c1
    have ar2 := HL.out.r.c2
    have ax0 := HL.out.x.c0
    have ax1 := HL.out.x.c1
    have ax2 := HL.out.x.c2
    have ax3 := HL.out.x.c3
    have ax4 := HL.out.x.c4
    have ax5 := HL.out.x.c5
    have ax6 := HL.out.x.c6
    have ax7 := HL.out.x.c7
    unfold ringA at *
    go_enter Tryd.func10, Tryd.ntmps10
    go_wp2_with (first | (refine wpList_load_tk rfl (.tmp 8) rfl (w.heap.size + 1) rfl t HPM.out HL.out.x ?_) | (go_at_call 11; refine (HLG.out _).mono ?_; rintro e w2 ⟨rfl, hB⟩; have HL2 := hide (HL.out.next hB); clear ar0 ar1 ar2 ax0 ax1 ax2 ax3 ax4 ax5 ax6 ax7 hB HL HLG) | (go_at_call 12; refine (HAW.out _ HL2.out.b).mono ?_; rintro e w3 ⟨rfl, hB⟩; have HL3 := hide (HL2.out.next hB); clear hB HL2))
    go_ret
    exact ⟨rfl, HL3.out.b⟩
  replace hl : longB k.length t = false := by simpa using hl
  obtain ⟨hl1, hl2, hl3⟩ := longB_not hl
  rw [hl] at HLG
  have HKL := hide hl1
  have HIO := hide (HP.out.iss hl2 hl3 hnow hn)
  have HI1 := hide (fun W (h : LW w (.slice ra k.length rc) k o n t W) => issue_any k (.slice ra k.length rc) o n t.ns t.sa t.uid t.host t.addr now W HIO.out (HT.out.below h.b HT.out.two) h.s)
  have HMR := hide (fun (va : Option Addr) (vc : Nat) (W : World) => ring_any va k.length vc o2 n2 W)
  clear hl hl1 hl2 hl3
  by_cases hc : mayR k.length o n = true ∧ mayT (tok0 n t.ns t.sa t.uid t.host t.addr now) = true
  rotate_left
  · have hE : issE k o n t.ns t.sa t.uid t.host t.addr now = 1 := by unfold issE; rw [if_neg hc]
    have hT : issT k o n t.ns t.sa t.uid t.host t.addr now = tk0 := by unfold issT; rw [if_neg hc]
    rw [hE, hT] at HI1
    clear hE hT hc
    generalize hq : k.length = q at *
    have HQ := hide hq
    clear hq
    have ar0 := HL.out.r.c0
    have ar1 := HL.out.r.c1
    have ar2 := HL.out.r.c2
    have ax0 := HL.out.x.c0
    have ax1 := HL.out.x.c1
    have ax2 := HL.out.x.c2
    have ax3 := HL.out.x.c3
    have ax4 := HL.out.x.c4
    have ax5 := HL.out.x.c5
    have ax6 := HL.out.x.c6
    have ax7 := HL.out.x.c7
    unfold ringA at *
    go_enter Tryd.func10, Tryd.ntmps10
    go_wp2_with (first | (refine wpList_load_tk rfl (.tmp 8) rfl (w.heap.size + 1) rfl t HPM.out HL.out.x ?_) | (go_at_call 11; refine (HLG.out _).mono ?_; rintro e w2 ⟨rfl, hB⟩; have HL2 := hide (HL.out.next hB); have br0 := HL2.out.r.c0; have br1 := HL2.out.r.c1; have br2 := HL2.out.r.c2; have bx0 := HL2.out.x.c0; have bx1 := HL2.out.x.c1; have bx2 := HL2.out.x.c2; have bx3 := HL2.out.x.c3; have bx4 := HL2.out.x.c4; have bx5 := HL2.out.x.c5; have bx6 := HL2.out.x.c6; have bx7 := HL2.out.x.c7; clear ar0 ar1 ar2 ax0 ax1 ax2 ax3 ax4 ax5 ax6 ax7 hB HL HLG) | (go_at_call 20; refine (HI1.out _ HL2.out).mono ?_; rintro e w3 ⟨rfl, hB⟩; have HL3 := hide (HL2.out.next hB); clear br0 br1 br2 bx0 bx1 bx2 bx3 bx4 bx5 bx6 bx7 hB HL2) | (refine wpList_alloc_tk rfl rfl ?_) | (refine wpList_store_tk_new rfl (.tmp 11) (.tmp 31) rfl w3.heap.size tk0 rfl rfl tk0 tk0_len tk0_len (TBox.new _ _) (fun W => LW w (.slice ra q rc) k o n t W ∧ TBox W w3.heap.size tk0) ⟨HL3.out.next (below_pair w3 tk0 tk0), (TBox.new _ _).row⟩ ?_; intro w4 hp; have HL4 := hide (hp.1.next ((Below.refl _ _).alloc (Nat.le_refl _) (.cells #[] 5))); have HA4 := hide (hp.2.alloc (.cells #[] 5)); have r40 := HL4.out.r.c0; obtain ⟨v5, w5, hrun, hrow, hbw⟩ := append_rowB (w4.alloc (.cells #[] 5)) w4.heap.size (.slice (some ⟨w4.heap.size, 0, none⟩) 0 0) [] (Row.empty w4) (.slice ra q rc) k HL4.out.s (by have := HKL.out; have := HQ.out; simp; omega) (by simp); rw [List.nil_append] at hrow; obtain ⟨va, vc, hv⟩ := hrow.slAt.len; rw [HQ.out] at hv; subst hv; have HRUN := hide hrun; have hb5 : Below w4.heap.size w4 w5 := ((Below.refl _ _).alloc (Nat.le_refl _) _).trans hbw; have HL5 := hide (hp.1.next hb5); have HA5 := hide (hp.2.next hb5); have HS5 := hide hrow.slAt; clear hp hrow hbw hrun hb5 HL3) | (at_builtin; refine wpList_append_run rfl (.tmp 33) (.tmp 35) 22 22 22 rfl rfl (.slice (some ⟨w4.heap.size, 0, none⟩) 0 0) (.slice ra q rc) (.slice va q vc) w5 rfl rfl HRUN.out ?_; have HB6 := hide ((Below.refl w5.heap.size w5).alloc (Nat.le_refl _) (.cells #[.slice va q vc, .int .u64 o2, .int .u64 n2] 25)); have hr6 := (RBox.new w5 (.slice va q vc) o2 n2); unfold ringA at hr6; have s60 := hr6.c0; have s61 := hr6.c1; have s62 := hr6.c2; have HR6 := hide hr6; have HL6 := hide (HL5.out.next HB6.out); have HA6 := hide (HA5.out.next HB6.out); have HS6 := hide (HS5.out.below HB6.out); clear r40 hr6 HRUN HL4 HA4 HL5 HA5 HS5) | (go_at_call 12; refine (HAW.out _ HL6.out.b).mono ?_; rintro e w7 ⟨rfl, hB⟩; have HL7 := hide (HL6.out.next hB); clear hB s60 s61 s62 HL6))
    go_ret
    exact ⟨rfl, HL7.out.b⟩
  have hE : issE k o n t.ns t.sa t.uid t.host t.addr now = 0 := by unfold issE; rw [if_pos hc]
  have hT : issT k o n t.ns t.sa t.uid t.host t.addr now = signT k (tok0 n t.ns t.sa t.uid t.host t.addr now) := by unfold issT; rw [if_pos hc]
  rw [hE, hT] at HI1
  clear hE hT
  have HTok := hide HIO.out.tok
  have htil := til_eq hc.2
  have hkey : (tok0 n t.ns t.sa t.uid t.host t.addr now).key = n := rfl
  have hborn : (tok0 n t.ns t.sa t.uid t.host t.addr now).born = now := rfl
  generalize tok0 n t.ns t.sa t.uid t.host t.addr now = T0 at *
  obtain ⟨m, h1, h2, h3, h4⟩ := signT_some k T0
  rw [h1] at HI1
  have hV : mayR k.length o2 n2 = true → verS k o2 n2 { T0 with mac := m } now = if o2 ≤ n ∧ n ≤ n2 then 0 else 7 := fun h => rings_ver h hc.2 h4 hborn hkey
  have hok : ({ T0 with mac := m } : Tk).ok := ⟨HTok.out.ns, HTok.out.sa, HTok.out.uid, HTok.out.host1, HTok.out.host2, HTok.out.addr, HTok.out.born, HTok.out.til, HTok.out.key, h2, h3⟩
  have hmy : mayT { T0 with mac := m } = true := by rw [mayT_mac]; exact hc.2
  have hfr : freshB { T0 with mac := m } now = true := by
    unfold freshB
    show (decide (T0.born ≤ now) && decide (now - T0.born < 100)) = true
    rw [hborn]
    simp
  have hk7 : ({ T0 with mac := m } : Tk).key = n := hkey
  have hTm : ({ T0 with mac := m } : Tk).mac.length = 32 := h2
  generalize ({ T0 with mac := m } : Tk) = T at *
  have HTm := hide hTm
  have HTO := hide hok
  have HK7 := hide hk7
  have HMT := hide (fun W => (show _ from by have h := tmay_any T HTO.out W; rw [hmy] at h; exact h))
  have HFR := hide (fun W => (show _ from by have h := fresh_any T HTO.out now hnow W; rw [hfr] at h; exact h))
  clear hkey hborn h1 h2 h3 h4 hok hmy hfr hk7 hTm htil HTok hc
  by_cases hm2 : mayR k.length o2 n2 = true
  rotate_left
  · replace hm2 : mayR k.length o2 n2 = false := by simpa using hm2
    rw [hm2] at HMR
    clear hm2 hV
    generalize hq : k.length = q at *
    have HQ := hide hq
    clear hq
    have ar0 := HL.out.r.c0
    have ar1 := HL.out.r.c1
    have ar2 := HL.out.r.c2
    have ax0 := HL.out.x.c0
    have ax1 := HL.out.x.c1
    have ax2 := HL.out.x.c2
    have ax3 := HL.out.x.c3
    have ax4 := HL.out.x.c4
    have ax5 := HL.out.x.c5
    have ax6 := HL.out.x.c6
    have ax7 := HL.out.x.c7
    unfold ringA at *
    go_enter Tryd.func10, Tryd.ntmps10
    go_wp2_with (first | (refine wpList_load_tk rfl (.tmp 8) rfl (w.heap.size + 1) rfl t HPM.out HL.out.x ?_) | (go_at_call 11; refine (HLG.out _).mono ?_; rintro e w2 ⟨rfl, hB⟩; have HL2 := hide (HL.out.next hB); have br0 := HL2.out.r.c0; have br1 := HL2.out.r.c1; have br2 := HL2.out.r.c2; have bx0 := HL2.out.x.c0; have bx1 := HL2.out.x.c1; have bx2 := HL2.out.x.c2; have bx3 := HL2.out.x.c3; have bx4 := HL2.out.x.c4; have bx5 := HL2.out.x.c5; have bx6 := HL2.out.x.c6; have bx7 := HL2.out.x.c7; clear ar0 ar1 ar2 ax0 ax1 ax2 ax3 ax4 ax5 ax6 ax7 hB HL HLG) | (go_at_call 20; refine (HI1.out _ HL2.out).mono ?_; rintro e w3 ⟨rfl, hB⟩; have HL3 := hide (HL2.out.next hB); clear br0 br1 br2 bx0 bx1 bx2 bx3 bx4 bx5 bx6 bx7 hB HL2) | (refine wpList_alloc_tk rfl rfl ?_) | (refine wpList_store_tk_new rfl (.tmp 11) (.tmp 31) rfl w3.heap.size T rfl rfl tk0 tk0_len HTm.out (TBox.new _ _) (fun W => LW w (.slice ra q rc) k o n t W ∧ TBox W w3.heap.size T) ⟨HL3.out.next (below_pair w3 tk0 T), (TBox.new _ _).row⟩ ?_; intro w4 hp; have HL4 := hide (hp.1.next ((Below.refl _ _).alloc (Nat.le_refl _) (.cells #[] 5))); have HA4 := hide (hp.2.alloc (.cells #[] 5)); have r40 := HL4.out.r.c0; obtain ⟨v5, w5, hrun, hrow, hbw⟩ := append_rowB (w4.alloc (.cells #[] 5)) w4.heap.size (.slice (some ⟨w4.heap.size, 0, none⟩) 0 0) [] (Row.empty w4) (.slice ra q rc) k HL4.out.s (by have := HKL.out; have := HQ.out; simp; omega) (by simp); rw [List.nil_append] at hrow; obtain ⟨va, vc, hv⟩ := hrow.slAt.len; rw [HQ.out] at hv; subst hv; have HRUN := hide hrun; have hb5 : Below w4.heap.size w4 w5 := ((Below.refl _ _).alloc (Nat.le_refl _) _).trans hbw; have HL5 := hide (hp.1.next hb5); have HA5 := hide (hp.2.next hb5); have HS5 := hide hrow.slAt; clear hp hrow hbw hrun hb5 HL3) | (at_builtin; refine wpList_append_run rfl (.tmp 33) (.tmp 35) 22 22 22 rfl rfl (.slice (some ⟨w4.heap.size, 0, none⟩) 0 0) (.slice ra q rc) (.slice va q vc) w5 rfl rfl HRUN.out ?_; have HB6 := hide ((Below.refl w5.heap.size w5).alloc (Nat.le_refl _) (.cells #[.slice va q vc, .int .u64 o2, .int .u64 n2] 25)); have hr6 := (RBox.new w5 (.slice va q vc) o2 n2); unfold ringA at hr6; have s60 := hr6.c0; have s61 := hr6.c1; have s62 := hr6.c2; have HR6 := hide hr6; have HL6 := hide (HL5.out.next HB6.out); have HA6 := hide (HA5.out.next HB6.out); have HS6 := hide (HS5.out.below HB6.out); clear r40 hr6 HRUN HL4 HA4 HL5 HA5 HS5) | (go_at_call 13; refine (HMR.out _ _ _).mono ?_; rintro e w7 ⟨rfl, hB⟩; have HL7 := hide (HL6.out.next hB); clear hB s60 s61 s62 HL6) | (go_at_call 12; refine (HAW.out _ HL7.out.b).mono ?_; rintro e w8 ⟨rfl, hB⟩; have HL8 := hide (HL7.out.next hB); clear hB HL7))
    go_ret
    exact ⟨rfl, HL8.out.b⟩
  rw [hm2] at HMR
  have hVV := hV hm2
  clear hV hm2
  by_cases g0 : ¬ o2 ≤ n
  · rw [if_neg (fun h => g0 h.1)] at hVV
    have HVF := hide (fun (va : Option Addr) (vc : Nat) (W : World) (hb : Below w.heap.size w W) (hs : SlAt W (.slice va k.length vc) k) => (show _ from by have h := verify_any k (.slice va k.length vc) o2 n2 T now W HTO.out (HT.out.below hb HT.out.two) hs; rw [hVV] at h; exact h))
    clear hVV
    generalize hq : k.length = q at *
    have HQ := hide hq
    clear hq
    have ar0 := HL.out.r.c0
    have ar1 := HL.out.r.c1
    have ar2 := HL.out.r.c2
    have ax0 := HL.out.x.c0
    have ax1 := HL.out.x.c1
    have ax2 := HL.out.x.c2
    have ax3 := HL.out.x.c3
    have ax4 := HL.out.x.c4
    have ax5 := HL.out.x.c5
    have ax6 := HL.out.x.c6
    have ax7 := HL.out.x.c7
    unfold ringA at *
    go_enter Tryd.func10, Tryd.ntmps10
    go_wp2_with (first | (refine wpList_load_tk rfl (.tmp 8) rfl (w.heap.size + 1) rfl t HPM.out HL.out.x ?_) | (go_at_call 11; refine (HLG.out _).mono ?_; rintro e w2 ⟨rfl, hB⟩; have HL2 := hide (HL.out.next hB); have br0 := HL2.out.r.c0; have br1 := HL2.out.r.c1; have br2 := HL2.out.r.c2; have bx0 := HL2.out.x.c0; have bx1 := HL2.out.x.c1; have bx2 := HL2.out.x.c2; have bx3 := HL2.out.x.c3; have bx4 := HL2.out.x.c4; have bx5 := HL2.out.x.c5; have bx6 := HL2.out.x.c6; have bx7 := HL2.out.x.c7; clear ar0 ar1 ar2 ax0 ax1 ax2 ax3 ax4 ax5 ax6 ax7 hB HL HLG) | (go_at_call 20; refine (HI1.out _ HL2.out).mono ?_; rintro e w3 ⟨rfl, hB⟩; have HL3 := hide (HL2.out.next hB); clear br0 br1 br2 bx0 bx1 bx2 bx3 bx4 bx5 bx6 bx7 hB HL2) | (refine wpList_alloc_tk rfl rfl ?_) | (refine wpList_store_tk_new rfl (.tmp 11) (.tmp 31) rfl w3.heap.size T rfl rfl tk0 tk0_len HTm.out (TBox.new _ _) (fun W => LW w (.slice ra q rc) k o n t W ∧ TBox W w3.heap.size T) ⟨HL3.out.next (below_pair w3 tk0 T), (TBox.new _ _).row⟩ ?_; intro w4 hp; have HL4 := hide (hp.1.next ((Below.refl _ _).alloc (Nat.le_refl _) (.cells #[] 5))); have HA4 := hide (hp.2.alloc (.cells #[] 5)); have r40 := HL4.out.r.c0; obtain ⟨v5, w5, hrun, hrow, hbw⟩ := append_rowB (w4.alloc (.cells #[] 5)) w4.heap.size (.slice (some ⟨w4.heap.size, 0, none⟩) 0 0) [] (Row.empty w4) (.slice ra q rc) k HL4.out.s (by have := HKL.out; have := HQ.out; simp; omega) (by simp); rw [List.nil_append] at hrow; obtain ⟨va, vc, hv⟩ := hrow.slAt.len; rw [HQ.out] at hv; subst hv; have HRUN := hide hrun; have hb5 : Below w4.heap.size w4 w5 := ((Below.refl _ _).alloc (Nat.le_refl _) _).trans hbw; have HL5 := hide (hp.1.next hb5); have HA5 := hide (hp.2.next hb5); have HS5 := hide hrow.slAt; clear hp hrow hbw hrun hb5 HL3) | (at_builtin; refine wpList_append_run rfl (.tmp 33) (.tmp 35) 22 22 22 rfl rfl (.slice (some ⟨w4.heap.size, 0, none⟩) 0 0) (.slice ra q rc) (.slice va q vc) w5 rfl rfl HRUN.out ?_; have HB6 := hide ((Below.refl w5.heap.size w5).alloc (Nat.le_refl _) (.cells #[.slice va q vc, .int .u64 o2, .int .u64 n2] 25)); have hr6 := (RBox.new w5 (.slice va q vc) o2 n2); unfold ringA at hr6; have s60 := hr6.c0; have s61 := hr6.c1; have s62 := hr6.c2; have HR6 := hide hr6; have HL6 := hide (HL5.out.next HB6.out); have HA6 := hide (HA5.out.next HB6.out); have HS6 := hide (HS5.out.below HB6.out); clear r40 hr6 HRUN HL4 HA4 HL5 HA5 HS5) | (go_at_call 13; refine (HMR.out _ _ _).mono ?_; rintro e w7 ⟨rfl, hB⟩; have HL7 := hide (HL6.out.next hB); have HA7 := hide (HA6.out.next hB); have HR7 := hide (HR6.out.next hB); have HS7 := hide (HS6.out.below hB); have t70 := HR7.out.c0; have t71 := HR7.out.c1; have t72 := HR7.out.c2; have t77 := HA7.out.c7; rw [HK7.out] at t77; clear hB s60 s61 s62 HL6 HA6 HR6 HS6) | (refine wpList_load_tk rfl (.tmp 11) rfl w3.heap.size rfl T HTm.out HA7.out ?_) | (go_at_call 22; refine (HVF.out _ _ _ HL7.out.b HS7.out).mono ?_; rintro e w8 ⟨rfl, hB⟩; have HL8 := hide (HL7.out.next hB); have HA8 := hide (HA7.out.next hB); clear hB t70 t71 t72 t77 HL7 HA7 HR7 HS7) | (refine wpList_load_tk_w (by rfl) (.tmp 11) rfl w3.heap.size rfl T HTm.out HA8.out ?_) | (go_at_call 15; refine (HMT.out _).mono ?_; rintro e w9 ⟨rfl, hB⟩; have HL9 := hide (HL8.out.next hB); have HA9 := hide (HA8.out.next hB); clear hB HL8 HA8) | (refine wpList_load_tk_w (by rfl) (.tmp 11) rfl w3.heap.size rfl T HTm.out HA9.out ?_) | (go_at_call 17; refine (HFR.out _).mono ?_; rintro e w10 ⟨rfl, hB⟩; have HL10 := hide (HL9.out.next hB); clear hB HL9 HA9) | (go_at_call 12; refine (HAW.out _ HL10.out.b).mono ?_; rintro e w11 ⟨rfl, hB⟩; have HL11 := hide (HL10.out.next hB); clear hB HL10))
    go_ret
    exact ⟨rfl, HL11.out.b⟩
  by_cases g1 : ¬ n ≤ n2
  · rw [if_neg (fun h => g1 h.2)] at hVV
    replace g0 : o2 ≤ n := Decidable.of_not_not g0
    have HVF := hide (fun (va : Option Addr) (vc : Nat) (W : World) (hb : Below w.heap.size w W) (hs : SlAt W (.slice va k.length vc) k) => (show _ from by have h := verify_any k (.slice va k.length vc) o2 n2 T now W HTO.out (HT.out.below hb HT.out.two) hs; rw [hVV] at h; exact h))
    clear hVV
    generalize hq : k.length = q at *
    have HQ := hide hq
    clear hq
    have ar0 := HL.out.r.c0
    have ar1 := HL.out.r.c1
    have ar2 := HL.out.r.c2
    have ax0 := HL.out.x.c0
    have ax1 := HL.out.x.c1
    have ax2 := HL.out.x.c2
    have ax3 := HL.out.x.c3
    have ax4 := HL.out.x.c4
    have ax5 := HL.out.x.c5
    have ax6 := HL.out.x.c6
    have ax7 := HL.out.x.c7
    unfold ringA at *
    go_enter Tryd.func10, Tryd.ntmps10
    go_wp2_with (first | (refine wpList_load_tk rfl (.tmp 8) rfl (w.heap.size + 1) rfl t HPM.out HL.out.x ?_) | (go_at_call 11; refine (HLG.out _).mono ?_; rintro e w2 ⟨rfl, hB⟩; have HL2 := hide (HL.out.next hB); have br0 := HL2.out.r.c0; have br1 := HL2.out.r.c1; have br2 := HL2.out.r.c2; have bx0 := HL2.out.x.c0; have bx1 := HL2.out.x.c1; have bx2 := HL2.out.x.c2; have bx3 := HL2.out.x.c3; have bx4 := HL2.out.x.c4; have bx5 := HL2.out.x.c5; have bx6 := HL2.out.x.c6; have bx7 := HL2.out.x.c7; clear ar0 ar1 ar2 ax0 ax1 ax2 ax3 ax4 ax5 ax6 ax7 hB HL HLG) | (go_at_call 20; refine (HI1.out _ HL2.out).mono ?_; rintro e w3 ⟨rfl, hB⟩; have HL3 := hide (HL2.out.next hB); clear br0 br1 br2 bx0 bx1 bx2 bx3 bx4 bx5 bx6 bx7 hB HL2) | (refine wpList_alloc_tk rfl rfl ?_) | (refine wpList_store_tk_new rfl (.tmp 11) (.tmp 31) rfl w3.heap.size T rfl rfl tk0 tk0_len HTm.out (TBox.new _ _) (fun W => LW w (.slice ra q rc) k o n t W ∧ TBox W w3.heap.size T) ⟨HL3.out.next (below_pair w3 tk0 T), (TBox.new _ _).row⟩ ?_; intro w4 hp; have HL4 := hide (hp.1.next ((Below.refl _ _).alloc (Nat.le_refl _) (.cells #[] 5))); have HA4 := hide (hp.2.alloc (.cells #[] 5)); have r40 := HL4.out.r.c0; obtain ⟨v5, w5, hrun, hrow, hbw⟩ := append_rowB (w4.alloc (.cells #[] 5)) w4.heap.size (.slice (some ⟨w4.heap.size, 0, none⟩) 0 0) [] (Row.empty w4) (.slice ra q rc) k HL4.out.s (by have := HKL.out; have := HQ.out; simp; omega) (by simp); rw [List.nil_append] at hrow; obtain ⟨va, vc, hv⟩ := hrow.slAt.len; rw [HQ.out] at hv; subst hv; have HRUN := hide hrun; have hb5 : Below w4.heap.size w4 w5 := ((Below.refl _ _).alloc (Nat.le_refl _) _).trans hbw; have HL5 := hide (hp.1.next hb5); have HA5 := hide (hp.2.next hb5); have HS5 := hide hrow.slAt; clear hp hrow hbw hrun hb5 HL3) | (at_builtin; refine wpList_append_run rfl (.tmp 33) (.tmp 35) 22 22 22 rfl rfl (.slice (some ⟨w4.heap.size, 0, none⟩) 0 0) (.slice ra q rc) (.slice va q vc) w5 rfl rfl HRUN.out ?_; have HB6 := hide ((Below.refl w5.heap.size w5).alloc (Nat.le_refl _) (.cells #[.slice va q vc, .int .u64 o2, .int .u64 n2] 25)); have hr6 := (RBox.new w5 (.slice va q vc) o2 n2); unfold ringA at hr6; have s60 := hr6.c0; have s61 := hr6.c1; have s62 := hr6.c2; have HR6 := hide hr6; have HL6 := hide (HL5.out.next HB6.out); have HA6 := hide (HA5.out.next HB6.out); have HS6 := hide (HS5.out.below HB6.out); clear r40 hr6 HRUN HL4 HA4 HL5 HA5 HS5) | (go_at_call 13; refine (HMR.out _ _ _).mono ?_; rintro e w7 ⟨rfl, hB⟩; have HL7 := hide (HL6.out.next hB); have HA7 := hide (HA6.out.next hB); have HR7 := hide (HR6.out.next hB); have HS7 := hide (HS6.out.below hB); have t70 := HR7.out.c0; have t71 := HR7.out.c1; have t72 := HR7.out.c2; have t77 := HA7.out.c7; rw [HK7.out] at t77; clear hB s60 s61 s62 HL6 HA6 HR6 HS6) | (refine wpList_load_tk rfl (.tmp 11) rfl w3.heap.size rfl T HTm.out HA7.out ?_) | (go_at_call 22; refine (HVF.out _ _ _ HL7.out.b HS7.out).mono ?_; rintro e w8 ⟨rfl, hB⟩; have HL8 := hide (HL7.out.next hB); have HA8 := hide (HA7.out.next hB); clear hB t70 t71 t72 t77 HL7 HA7 HR7 HS7) | (refine wpList_load_tk_w (by rfl) (.tmp 11) rfl w3.heap.size rfl T HTm.out HA8.out ?_) | (go_at_call 15; refine (HMT.out _).mono ?_; rintro e w9 ⟨rfl, hB⟩; have HL9 := hide (HL8.out.next hB); have HA9 := hide (HA8.out.next hB); clear hB HL8 HA8) | (refine wpList_load_tk_w (by rfl) (.tmp 11) rfl w3.heap.size rfl T HTm.out HA9.out ?_) | (go_at_call 17; refine (HFR.out _).mono ?_; rintro e w10 ⟨rfl, hB⟩; have HL10 := hide (HL9.out.next hB); clear hB HL9 HA9) | (go_at_call 12; refine (HAW.out _ HL10.out.b).mono ?_; rintro e w11 ⟨rfl, hB⟩; have HL11 := hide (HL10.out.next hB); clear hB HL10))
    go_ret
    exact ⟨rfl, HL11.out.b⟩
  rw [if_pos ⟨Decidable.of_not_not g0, Decidable.of_not_not g1⟩] at hVV
  replace g0 : o2 ≤ n := Decidable.of_not_not g0
  replace g1 : n ≤ n2 := Decidable.of_not_not g1
  have HVF := hide (fun (va : Option Addr) (vc : Nat) (W : World) (hb : Below w.heap.size w W) (hs : SlAt W (.slice va k.length vc) k) => (show _ from by have h := verify_any k (.slice va k.length vc) o2 n2 T now W HTO.out (HT.out.below hb HT.out.two) hs; rw [hVV] at h; exact h))
  clear hVV
  generalize hq : k.length = q at *
  have HQ := hide hq
  clear hq
  have ar0 := HL.out.r.c0
  have ar1 := HL.out.r.c1
  have ar2 := HL.out.r.c2
  have ax0 := HL.out.x.c0
  have ax1 := HL.out.x.c1
  have ax2 := HL.out.x.c2
  have ax3 := HL.out.x.c3
  have ax4 := HL.out.x.c4
  have ax5 := HL.out.x.c5
  have ax6 := HL.out.x.c6
  have ax7 := HL.out.x.c7
  unfold ringA at *
  go_enter Tryd.func10, Tryd.ntmps10
  go_wp2_with (first | (refine wpList_load_tk rfl (.tmp 8) rfl (w.heap.size + 1) rfl t HPM.out HL.out.x ?_) | (go_at_call 11; refine (HLG.out _).mono ?_; rintro e w2 ⟨rfl, hB⟩; have HL2 := hide (HL.out.next hB); have br0 := HL2.out.r.c0; have br1 := HL2.out.r.c1; have br2 := HL2.out.r.c2; have bx0 := HL2.out.x.c0; have bx1 := HL2.out.x.c1; have bx2 := HL2.out.x.c2; have bx3 := HL2.out.x.c3; have bx4 := HL2.out.x.c4; have bx5 := HL2.out.x.c5; have bx6 := HL2.out.x.c6; have bx7 := HL2.out.x.c7; clear ar0 ar1 ar2 ax0 ax1 ax2 ax3 ax4 ax5 ax6 ax7 hB HL HLG) | (go_at_call 20; refine (HI1.out _ HL2.out).mono ?_; rintro e w3 ⟨rfl, hB⟩; have HL3 := hide (HL2.out.next hB); clear br0 br1 br2 bx0 bx1 bx2 bx3 bx4 bx5 bx6 bx7 hB HL2) | (refine wpList_alloc_tk rfl rfl ?_) | (refine wpList_store_tk_new rfl (.tmp 11) (.tmp 31) rfl w3.heap.size T rfl rfl tk0 tk0_len HTm.out (TBox.new _ _) (fun W => LW w (.slice ra q rc) k o n t W ∧ TBox W w3.heap.size T) ⟨HL3.out.next (below_pair w3 tk0 T), (TBox.new _ _).row⟩ ?_; intro w4 hp; have HL4 := hide (hp.1.next ((Below.refl _ _).alloc (Nat.le_refl _) (.cells #[] 5))); have HA4 := hide (hp.2.alloc (.cells #[] 5)); have r40 := HL4.out.r.c0; obtain ⟨v5, w5, hrun, hrow, hbw⟩ := append_rowB (w4.alloc (.cells #[] 5)) w4.heap.size (.slice (some ⟨w4.heap.size, 0, none⟩) 0 0) [] (Row.empty w4) (.slice ra q rc) k HL4.out.s (by have := HKL.out; have := HQ.out; simp; omega) (by simp); rw [List.nil_append] at hrow; obtain ⟨va, vc, hv⟩ := hrow.slAt.len; rw [HQ.out] at hv; subst hv; have HRUN := hide hrun; have hb5 : Below w4.heap.size w4 w5 := ((Below.refl _ _).alloc (Nat.le_refl _) _).trans hbw; have HL5 := hide (hp.1.next hb5); have HA5 := hide (hp.2.next hb5); have HS5 := hide hrow.slAt; clear hp hrow hbw hrun hb5 HL3) | (at_builtin; refine wpList_append_run rfl (.tmp 33) (.tmp 35) 22 22 22 rfl rfl (.slice (some ⟨w4.heap.size, 0, none⟩) 0 0) (.slice ra q rc) (.slice va q vc) w5 rfl rfl HRUN.out ?_; have HB6 := hide ((Below.refl w5.heap.size w5).alloc (Nat.le_refl _) (.cells #[.slice va q vc, .int .u64 o2, .int .u64 n2] 25)); have hr6 := (RBox.new w5 (.slice va q vc) o2 n2); unfold ringA at hr6; have s60 := hr6.c0; have s61 := hr6.c1; have s62 := hr6.c2; have HR6 := hide hr6; have HL6 := hide (HL5.out.next HB6.out); have HA6 := hide (HA5.out.next HB6.out); have HS6 := hide (HS5.out.below HB6.out); clear r40 hr6 HRUN HL4 HA4 HL5 HA5 HS5) | (go_at_call 13; refine (HMR.out _ _ _).mono ?_; rintro e w7 ⟨rfl, hB⟩; have HL7 := hide (HL6.out.next hB); have HA7 := hide (HA6.out.next hB); have HR7 := hide (HR6.out.next hB); have HS7 := hide (HS6.out.below hB); have t70 := HR7.out.c0; have t71 := HR7.out.c1; have t72 := HR7.out.c2; have t77 := HA7.out.c7; rw [HK7.out] at t77; clear hB s60 s61 s62 HL6 HA6 HR6 HS6) | (refine wpList_load_tk rfl (.tmp 11) rfl w3.heap.size rfl T HTm.out HA7.out ?_) | (go_at_call 22; refine (HVF.out _ _ _ HL7.out.b HS7.out).mono ?_; rintro e w8 ⟨rfl, hB⟩; have HL8 := hide (HL7.out.next hB); have HA8 := hide (HA7.out.next hB); clear hB t70 t71 t72 t77 HL7 HA7 HR7 HS7) | (refine wpList_load_tk_w (by rfl) (.tmp 11) rfl w3.heap.size rfl T HTm.out HA8.out ?_) | (go_at_call 15; refine (HMT.out _).mono ?_; rintro e w9 ⟨rfl, hB⟩; have HL9 := hide (HL8.out.next hB); have HA9 := hide (HA8.out.next hB); clear hB HL8 HA8) | (refine wpList_load_tk_w (by rfl) (.tmp 11) rfl w3.heap.size rfl T HTm.out HA9.out ?_) | (go_at_call 17; refine (HFR.out _).mono ?_; rintro e w10 ⟨rfl, hB⟩; have HL10 := hide (HL9.out.next hB); clear hB HL9 HA9) | (go_at_call 12; refine (HAW.out _ HL10.out.b).mono ?_; rintro e w11 ⟨rfl, hB⟩; have HL11 := hide (HL10.out.next hB); clear hB HL10))
  go_ret
  exact ⟨rfl, HL11.out.b⟩
end Go.Proofs.YtaomigfmjglggaaDoor
