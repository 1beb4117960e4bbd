/- The document's ParseNet, PrintNet. -/
import Derived.Test.YtgikkjjnoakhdaaDoorAdPNet
import Derived.Test.YtgikkjjnoakhdaaDoorAdPrint
namespace Go.Proofs.YtgikkjjnoakhdaaDoor
open Go.RowKit Go.Lib

theorem parseNet_len (l : List UInt8) (h : (cutL 47 l).length ≠ 2) : parseNetS l = none := by
  unfold parseNetS
  split
  · rename_i he
    rw [he] at h
    exact absurd rfl h
  · rfl
theorem parseNet_of (l p q : List UInt8) (h : cutL 47 l = [p, q]) : parseNetS l = pnet (parseS p) (numS 32 q) := by
  unfold parseNetS
  rw [h]
  rfl

set_option maxRecDepth 100000 in
set_option maxHeartbeats 2000000 in
theorem parseNetR_any (s : ByteArray) (hs : s.size < 100000) (w : World) : Calls Tryd.prog 14 #[.string s] w (PNetPost w (parseNetS s.data.toList)) := by
  have HCUT : Hid (∀ W : World, Calls Tryd.prog 37 #[.string s, .int .u8 47] W (fun e w' => ∃ v l, e = .returned v ∧ TRow w' W.heap.size v l ∧ TextsAre l (cutL 47 s.data.toList) ∧ Below W.heap.size W w')) := hide (fun W => cutR_any s 47 (by omega) W)
  have HX0 := hide (BoxAt.zero w)
  have HBX := hide ((Below.refl w.heap.size w).alloc (Nat.le_refl _) (.cells #[.int .u32 0, .int .i64 0] 24))
  go_enter Tryd.func14, Tryd.ntmps14
  go_wp2_with fail
  generalize w.alloc (.cells #[.int .u32 0, .int .i64 0] 24) = W1 at *
  obtain ⟨g, hg⟩ : ∃ g, w.heap.size = g := ⟨_, rfl⟩
  rw [hg] at HX0 ⊢
  have HG := hide hg
  clear hg
  refine (HCUT.out _).mono ?_
  rintro e w2 ⟨v, l, rfl, hR, hm, hB⟩
  have HX2 := hide (HX0.out.below_b hB)
  have HB2 := hide (HBX.out.trans (hB.mono HBX.out.size))
  have hT := hR.tAt
  obtain ⟨ao, cap, hv⟩ := hT.len
  have hll : (cutL 47 s.data.toList).length = l.length := by rw [← show l.map (fun b => b.data.toList) = _ from hm, List.length_map]
  clear hB HBX HX0 hR
  by_cases hn : l.length = 2
  rotate_left
  · have HP := hide (parseNet_len s.data.toList (by rw [hll]; exact hn))
    obtain ⟨n, hn'⟩ : ∃ n, l.length = n := ⟨_, rfl⟩
    rw [hn'] at hn hv
    subst hv
    have hne : ((n : Int) != 2) = true := by simp; omega
    clear hn' hn hm hll hT
    have d0 : w2.cell? ⟨g, 0, none⟩ = some (.int .u32 0) := HX2.out.c0
    have d1 : w2.cell? ⟨g, 1, none⟩ = some (.int .i64 0) := HX2.out.c1
    have f0 := HX2.out.frozen 0
    have f1 := HX2.out.frozen 1
    go_wp2_with fail
    have HXF : Hid (BoxAt ((w2.setCell ⟨g, 0, none⟩ (.int .u32 0)).setCell ⟨g, 1, none⟩ (.int .i64 0)) g 0 0) := hide (HX2.out.st 0 0)
    have HBF := hide ((HB2.out.setCell (p := ⟨g, 0, none⟩) (Nat.le_of_eq HG.out) (.int .u32 0)).setCell (p := ⟨g, 1, none⟩) (Nat.le_of_eq HG.out) (.int .i64 0))
    clear d0 d1 f0 f1
    generalize (w2.setCell ⟨g, 0, none⟩ (.int .u32 0)).setCell ⟨g, 1, none⟩ (.int .i64 0) = WF at *
    have r0 : WF.cell? ⟨g, 0, none⟩ = some (.int .u32 0) := HXF.out.c0
    have r1 : WF.cell? ⟨g, 1, none⟩ = some (.int .i64 0) := HXF.out.c1
    unfold PNetPost
    rw [HP.out]
    exact bodyPost_ret (v := .tuple #[.agg #[.int .u32 0, .int .i64 0], .int .i64 2]) (by simp [results, Tryd.results14, go_sem, r0, r1]) rfl ⟨rfl, HBF.out⟩
  · obtain ⟨p, q, rfl⟩ : ∃ p q, l = [p, q] := by
      match l, hn with
      | [p, q], _ => exact ⟨p, q, rfl⟩
    have hsp := texts_small hm 0 (by simp)
    have hsq := texts_small hm 1 (by simp)
    have hc := show ([p, q].map fun b => b.data.toList) = _ from hm
    simp only [List.map_cons, List.map_nil] at hc
    have hpn := parseNet_of _ _ _ hc.symm
    simp only [List.length_cons, List.length_nil, Nat.zero_add] at hv
    subst hv
    obtain ⟨b0, o0, hao, hbl, hc0⟩ := hT.at (k := 0) (by simp)
    obtain ⟨b1, o1, hao1, _, hc1⟩ := hT.at (k := 1) (by simp)
    rw [hao] at hao1
    injection hao1 with hao1
    injection hao1 with e1 e2
    subst e1 e2 hao
    simp only [List.getD_cons_zero, List.getD_cons_succ, Nat.add_zero] at hc0 hc1 hsp hsq
    have HPA := hide (fun W => parseR_any p (by omega) W)
    have HNU := hide (fun W => numberR_any q 32 (by omega) (by omega) W)
    have HLT := hide (fun a (ha : parseS p.data.toList = some a) => (print_parse _ a ha).2)
    have HNL := hide (fun b (hb : numS 32 q.data.toList = some b) => ((numS_iff _ _ _).1 hb).1)
    generalize parseS p.data.toList = x at *
    generalize numS 32 q.data.toList = y at *
    unfold ParPost at HPA
    have HPN := hide hpn
    clear hpn
    clear hm hll hn hT hc hsp hsq
    cases x with
    | none =>
      have HP : Hid (parseNetS s.data.toList = none) := hide (by rw [HPN.out, pnet_left])
      have HPA : Hid (∀ W : World, Calls Tryd.prog 12 #[.string p] W (fun e w' => e = .returned (.tuple #[.int .u32 0, .int .i64 2]) ∧ Below W.heap.size W w')) := hide HPA.out
      obtain ⟨z, hz⟩ : ∃ z, numI y = z := ⟨_, rfl⟩
      rw [hz] at HNU
      clear hz
      have HNU : Hid (∀ W : World, Calls Tryd.prog 38 #[.string q, .int .i64 32] W (fun e w' => e = .returned (.int .i64 z) ∧ Below W.heap.size W w')) := hide HNU.out
      go_wp2_with fail
      refine (HPA.out _).mono ?_
      rintro e w3 ⟨rfl, hB⟩
      have HX3 := hide (HX2.out.below_b hB)
      have HB3 := hide (HB2.out.trans (hB.mono HB2.out.size))
      have hc1' := (hB.cell (p := ⟨b0, o0 + 1, none⟩) hbl).trans hc1
      clear hB
      go_wp2_with fail
      refine (HNU.out _).mono ?_
      rintro e w4 ⟨rfl, hB⟩
      have HX4 := hide (HX3.out.below_b hB)
      have HB4 := hide (HB3.out.trans (hB.mono HB3.out.size))
      clear hB HB3 HX3 hc1'
      have HX5 := hide (HX4.out.below_b ((Below.refl w4.heap.size w4).alloc (Nat.le_refl _) (.cells #[.int .u32 0, .int .i64 z] 24)))
      have HY5 : Hid (BoxAt (w4.alloc (.cells #[.int .u32 0, .int .i64 z] 24)) w4.heap.size 0 z) := hide (BoxAt.new w4 0 z)
      have HB5 := hide (HB4.out.alloc HB4.out.size (.cells #[.int .u32 0, .int .i64 z] 24))
      have d0 : (w4.alloc (.cells #[.int .u32 0, .int .i64 z] 24)).cell? ⟨g, 0, none⟩ = some (.int .u32 0) := HX5.out.c0
      have d1 : (w4.alloc (.cells #[.int .u32 0, .int .i64 z] 24)).cell? ⟨g, 1, none⟩ = some (.int .i64 0) := HX5.out.c1
      have f0 := HX5.out.frozen 0
      have f1 := HX5.out.frozen 1
      go_wp2_with fail
      have HXF : Hid (BoxAt (((w4.alloc (.cells #[.int .u32 0, .int .i64 z] 24)).setCell ⟨g, 0, none⟩ (.int .u32 0)).setCell ⟨g, 1, none⟩ (.int .i64 0)) g 0 0) := hide (HX5.out.st 0 0)
      have HBF := hide ((HB5.out.setCell (p := ⟨g, 0, none⟩) (Nat.le_of_eq HG.out) (.int .u32 0)).setCell (p := ⟨g, 1, none⟩) (Nat.le_of_eq HG.out) (.int .i64 0))
      clear d0 d1 f0 f1
      generalize ((w4.alloc (.cells #[.int .u32 0, .int .i64 z] 24)).setCell ⟨g, 0, none⟩ (.int .u32 0)).setCell ⟨g, 1, none⟩ (.int .i64 0) = WF at *
      have r0 : WF.cell? ⟨g, 0, none⟩ = some (.int .u32 0) := HXF.out.c0
      have r1 : WF.cell? ⟨g, 1, none⟩ = some (.int .i64 0) := HXF.out.c1
      unfold PNetPost
      rw [HP.out]
      exact bodyPost_ret (v := .tuple #[.agg #[.int .u32 0, .int .i64 0], .int .i64 2]) (by simp [results, Tryd.results14, go_sem, r0, r1]) rfl ⟨rfl, HBF.out⟩
    | some a =>
      cases y with
      | none =>
        have HP : Hid (parseNetS s.data.toList = none) := hide (by rw [HPN.out, pnet_right])
        have HPA : Hid (∀ W : World, Calls Tryd.prog 12 #[.string p] W (fun e w' => e = .returned (.tuple #[.int .u32 (a : Nat), .int .i64 0]) ∧ Below W.heap.size W w')) := hide HPA.out
        have HNU : Hid (∀ W : World, Calls Tryd.prog 38 #[.string q, .int .i64 32] W (fun e w' => e = .returned (.int .i64 (-1)) ∧ Below W.heap.size W w')) := hide HNU.out
        have ha := HLT.out a rfl
        have HM := hide (fun W => mayR_any ⟨a, -1⟩ ha W)
        rw [mayB_lo (show (-1 : Int) < 0 by omega)] at HM
        unfold Net.val at HM
        clear ha
        go_wp2_with fail
        refine (HPA.out _).mono ?_
        rintro e w3 ⟨rfl, hB⟩
        have HX3 := hide (HX2.out.below_b hB)
        have HB3 := hide (HB2.out.trans (hB.mono HB2.out.size))
        have hc1' := (hB.cell (p := ⟨b0, o0 + 1, none⟩) hbl).trans hc1
        clear hB
        go_wp2_with fail
        refine (HNU.out _).mono ?_
        rintro e w4 ⟨rfl, hB⟩
        have HX4 := hide (HX3.out.below_b hB)
        have HB4 := hide (HB3.out.trans (hB.mono HB3.out.size))
        clear hB HB3 HX3 hc1'
        have HX5 := hide (HX4.out.below_b ((Below.refl w4.heap.size w4).alloc (Nat.le_refl _) (.cells #[.int .u32 (a : Nat), .int .i64 (-1)] 24)))
        have HY5 : Hid (BoxAt (w4.alloc (.cells #[.int .u32 (a : Nat), .int .i64 (-1)] 24)) w4.heap.size a (-1)) := hide (BoxAt.new w4 a (-1))
        have HB5 := hide (HB4.out.alloc HB4.out.size (.cells #[.int .u32 (a : Nat), .int .i64 (-1)] 24))
        have d0 : (w4.alloc (.cells #[.int .u32 (a : Nat), .int .i64 (-1)] 24)).cell? ⟨g, 0, none⟩ = some (.int .u32 0) := HX5.out.c0
        have d1 : (w4.alloc (.cells #[.int .u32 (a : Nat), .int .i64 (-1)] 24)).cell? ⟨g, 1, none⟩ = some (.int .i64 0) := HX5.out.c1
        have f0 := HX5.out.frozen 0
        have f1 := HX5.out.frozen 1
        go_wp2_with fail
        refine (HM.out _).mono ?_
        rintro e w5 ⟨rfl, hB⟩
        clear d0 d1 f0 f1
        have HX6 := hide (HX5.out.below_b hB)
        have HY6 := hide (HY5.out.below_b hB)
        have HB6 := hide (HB5.out.trans (hB.mono HB5.out.size))
        clear hB
        have d0 : w5.cell? ⟨g, 0, none⟩ = some (.int .u32 0) := HX6.out.c0
        have d1 : w5.cell? ⟨g, 1, none⟩ = some (.int .i64 0) := HX6.out.c1
        have f0 := HX6.out.frozen 0
        have f1 := HX6.out.frozen 1
        go_wp2_with fail
        have HXF : Hid (BoxAt ((w5.setCell ⟨g, 0, none⟩ (.int .u32 0)).setCell ⟨g, 1, none⟩ (.int .i64 0)) g 0 0) := hide (HX6.out.st 0 0)
        have HBF := hide ((HB6.out.setCell (p := ⟨g, 0, none⟩) (Nat.le_of_eq HG.out) (.int .u32 0)).setCell (p := ⟨g, 1, none⟩) (Nat.le_of_eq HG.out) (.int .i64 0))
        clear d0 d1 f0 f1
        generalize (w5.setCell ⟨g, 0, none⟩ (.int .u32 0)).setCell ⟨g, 1, none⟩ (.int .i64 0) = WF at *
        have r0 : WF.cell? ⟨g, 0, none⟩ = some (.int .u32 0) := HXF.out.c0
        have r1 : WF.cell? ⟨g, 1, none⟩ = some (.int .i64 0) := HXF.out.c1
        unfold PNetPost
        rw [HP.out]
        exact bodyPost_ret (v := .tuple #[.agg #[.int .u32 0, .int .i64 0], .int .i64 2]) (by simp [results, Tryd.results14, go_sem, r0, r1]) rfl ⟨rfl, HBF.out⟩
      | some b =>
        cases hm : mayB ⟨a, b⟩ with
        | false =>
          have HP : Hid (parseNetS s.data.toList = none) := hide (by rw [HPN.out, pnet_both, hm, if_neg (by simp)])
          have HPA : Hid (∀ W : World, Calls Tryd.prog 12 #[.string p] W (fun e w' => e = .returned (.tuple #[.int .u32 (a : Nat), .int .i64 0]) ∧ Below W.heap.size W w')) := hide HPA.out
          have HNU : Hid (∀ W : World, Calls Tryd.prog 38 #[.string q, .int .i64 32] W (fun e w' => e = .returned (.int .i64 (b : Nat)) ∧ Below W.heap.size W w')) := hide HNU.out
          have ha := HLT.out a rfl
          have HM := hide (fun W => mayR_any ⟨a, b⟩ ha W)
          unfold Net.val at HM
          rw [hm] at HM
          clear hm ha
          go_wp2_with fail
          refine (HPA.out _).mono ?_
          rintro e w3 ⟨rfl, hB⟩
          have HX3 := hide (HX2.out.below_b hB)
          have HB3 := hide (HB2.out.trans (hB.mono HB2.out.size))
          have hc1' := (hB.cell (p := ⟨b0, o0 + 1, none⟩) hbl).trans hc1
          clear hB
          go_wp2_with fail
          refine (HNU.out _).mono ?_
          rintro e w4 ⟨rfl, hB⟩
          have HX4 := hide (HX3.out.below_b hB)
          have HB4 := hide (HB3.out.trans (hB.mono HB3.out.size))
          clear hB HB3 HX3 hc1'
          have HX5 := hide (HX4.out.below_b ((Below.refl w4.heap.size w4).alloc (Nat.le_refl _) (.cells #[.int .u32 (a : Nat), .int .i64 (b : Nat)] 24)))
          have HY5 : Hid (BoxAt (w4.alloc (.cells #[.int .u32 (a : Nat), .int .i64 (b : Nat)] 24)) w4.heap.size a (b : Nat)) := hide (BoxAt.new w4 a (b : Nat))
          have HB5 := hide (HB4.out.alloc HB4.out.size (.cells #[.int .u32 (a : Nat), .int .i64 (b : Nat)] 24))
          have d0 : (w4.alloc (.cells #[.int .u32 (a : Nat), .int .i64 (b : Nat)] 24)).cell? ⟨g, 0, none⟩ = some (.int .u32 0) := HX5.out.c0
          have d1 : (w4.alloc (.cells #[.int .u32 (a : Nat), .int .i64 (b : Nat)] 24)).cell? ⟨g, 1, none⟩ = some (.int .i64 0) := HX5.out.c1
          have f0 := HX5.out.frozen 0
          have f1 := HX5.out.frozen 1
          go_wp2_with fail
          refine (HM.out _).mono ?_
          rintro e w5 ⟨rfl, hB⟩
          clear d0 d1 f0 f1
          have HX6 := hide (HX5.out.below_b hB)
          have HY6 := hide (HY5.out.below_b hB)
          have HB6 := hide (HB5.out.trans (hB.mono HB5.out.size))
          clear hB
          have d0 : w5.cell? ⟨g, 0, none⟩ = some (.int .u32 0) := HX6.out.c0
          have d1 : w5.cell? ⟨g, 1, none⟩ = some (.int .i64 0) := HX6.out.c1
          have f0 := HX6.out.frozen 0
          have f1 := HX6.out.frozen 1
          go_wp2_with fail
          have HXF : Hid (BoxAt ((w5.setCell ⟨g, 0, none⟩ (.int .u32 0)).setCell ⟨g, 1, none⟩ (.int .i64 0)) g 0 0) := hide (HX6.out.st 0 0)
          have HBF := hide ((HB6.out.setCell (p := ⟨g, 0, none⟩) (Nat.le_of_eq HG.out) (.int .u32 0)).setCell (p := ⟨g, 1, none⟩) (Nat.le_of_eq HG.out) (.int .i64 0))
          clear d0 d1 f0 f1
          generalize (w5.setCell ⟨g, 0, none⟩ (.int .u32 0)).setCell ⟨g, 1, none⟩ (.int .i64 0) = WF at *
          have r0 : WF.cell? ⟨g, 0, none⟩ = some (.int .u32 0) := HXF.out.c0
          have r1 : WF.cell? ⟨g, 1, none⟩ = some (.int .i64 0) := HXF.out.c1
          unfold PNetPost
          rw [HP.out]
          exact bodyPost_ret (v := .tuple #[.agg #[.int .u32 0, .int .i64 0], .int .i64 2]) (by simp [results, Tryd.results14, go_sem, r0, r1]) rfl ⟨rfl, HBF.out⟩
        | true =>
          have HP : Hid (parseNetS s.data.toList = some ⟨a, b⟩) := hide (by rw [HPN.out, pnet_both, hm, if_pos rfl])
          have HPA : Hid (∀ W : World, Calls Tryd.prog 12 #[.string p] W (fun e w' => e = .returned (.tuple #[.int .u32 (a : Nat), .int .i64 0]) ∧ Below W.heap.size W w')) := hide HPA.out
          have HNU : Hid (∀ W : World, Calls Tryd.prog 38 #[.string q, .int .i64 32] W (fun e w' => e = .returned (.int .i64 (b : Nat)) ∧ Below W.heap.size W w')) := hide HNU.out
          have ha := HLT.out a rfl
          have HM := hide (fun W => mayR_any ⟨a, b⟩ ha W)
          unfold Net.val at HM
          rw [hm] at HM
          clear hm ha
          go_wp2_with fail
          refine (HPA.out _).mono ?_
          rintro e w3 ⟨rfl, hB⟩
          have HX3 := hide (HX2.out.below_b hB)
          have HB3 := hide (HB2.out.trans (hB.mono HB2.out.size))
          have hc1' := (hB.cell (p := ⟨b0, o0 + 1, none⟩) hbl).trans hc1
          clear hB
          go_wp2_with fail
          refine (HNU.out _).mono ?_
          rintro e w4 ⟨rfl, hB⟩
          have HX4 := hide (HX3.out.below_b hB)
          have HB4 := hide (HB3.out.trans (hB.mono HB3.out.size))
          clear hB HB3 HX3 hc1'
          have HX5 := hide (HX4.out.below_b ((Below.refl w4.heap.size w4).alloc (Nat.le_refl _) (.cells #[.int .u32 (a : Nat), .int .i64 (b : Nat)] 24)))
          have HY5 : Hid (BoxAt (w4.alloc (.cells #[.int .u32 (a : Nat), .int .i64 (b : Nat)] 24)) w4.heap.size a (b : Nat)) := hide (BoxAt.new w4 a (b : Nat))
          have HB5 := hide (HB4.out.alloc HB4.out.size (.cells #[.int .u32 (a : Nat), .int .i64 (b : Nat)] 24))
          have d0 : (w4.alloc (.cells #[.int .u32 (a : Nat), .int .i64 (b : Nat)] 24)).cell? ⟨g, 0, none⟩ = some (.int .u32 0) := HX5.out.c0
          have d1 : (w4.alloc (.cells #[.int .u32 (a : Nat), .int .i64 (b : Nat)] 24)).cell? ⟨g, 1, none⟩ = some (.int .i64 0) := HX5.out.c1
          have f0 := HX5.out.frozen 0
          have f1 := HX5.out.frozen 1
          go_wp2_with fail
          refine (HM.out _).mono ?_
          rintro e w5 ⟨rfl, hB⟩
          clear d0 d1 f0 f1
          have HX6 := hide (HX5.out.below_b hB)
          have HY6 := hide (HY5.out.below_b hB)
          have HB6 := hide (HB5.out.trans (hB.mono HB5.out.size))
          clear hB
          have d0 : w5.cell? ⟨g, 0, none⟩ = some (.int .u32 0) := HX6.out.c0
          have d1 : w5.cell? ⟨g, 1, none⟩ = some (.int .i64 0) := HX6.out.c1
          have f0 := HX6.out.frozen 0
          have f1 := HX6.out.frozen 1
          have y0 := HY6.out.c0
          have y1 := HY6.out.c1
          go_wp2_with fail
          have HXF : Hid (BoxAt ((w5.setCell ⟨g, 0, none⟩ (.int .u32 (a : Nat))).setCell ⟨g, 1, none⟩ (.int .i64 (b : Nat))) g a (b : Nat)) := hide (HX6.out.st a (b : Nat))
          have HBF := hide ((HB6.out.setCell (p := ⟨g, 0, none⟩) (Nat.le_of_eq HG.out) (.int .u32 (a : Nat))).setCell (p := ⟨g, 1, none⟩) (Nat.le_of_eq HG.out) (.int .i64 (b : Nat)))
          clear d0 d1 f0 f1
          generalize (w5.setCell ⟨g, 0, none⟩ (.int .u32 (a : Nat))).setCell ⟨g, 1, none⟩ (.int .i64 (b : Nat)) = WF at *
          have r0 : WF.cell? ⟨g, 0, none⟩ = some (.int .u32 (a : Nat)) := HXF.out.c0
          have r1 : WF.cell? ⟨g, 1, none⟩ = some (.int .i64 (b : Nat)) := HXF.out.c1
          unfold PNetPost
          rw [HP.out]
          exact bodyPost_ret (v := .tuple #[.agg #[.int .u32 (a : Nat), .int .i64 (b : Nat)], .int .i64 0]) (by simp [results, Tryd.results14, go_sem, r0, r1]) rfl ⟨rfl, HBF.out⟩

set_option maxRecDepth 100000 in
set_option maxHeartbeats 1000000 in
theorem printNetR_any (c : Net) (ha : c.a < 4294967296) (w : World) : Calls Tryd.prog 18 #[c.val] w (StrPost w (printNetS c)) := by
  have HM := hide (fun W => mayR_any c ha W)
  cases hm : mayB c with
  | false =>
    have hp : printNetS c = [] := by unfold printNetS; rw [hm]; rfl
    rw [hm] at HM
    rw [hp]
    obtain ⟨a, b⟩ := c
    unfold Net.val at HM ⊢
    dsimp only at ha HM ⊢
    clear hm hp
    have HB0 : Hid (Below w.heap.size w (w.alloc (.cells #[.int .u32 a, .int .i64 b] 24))) := hide ((Below.refl _ _).alloc (Nat.le_refl _) _)
    go_enter Tryd.func18, Tryd.ntmps18
    go_wp2_with fail
    refine (HM.out _).mono ?_
    rintro e w2 ⟨rfl, hB⟩
    go_wp2_with fail
    go_ret
    exact ⟨rfl, HB0.out.trans (hB.mono HB0.out.size)⟩
  | true =>
    have hok := (mayB_iff c).1 hm
    have hlo := hok.lo
    have hhi := hok.hi
    have hp : printNetS c = printS c.a ++ 47 :: decDigits c.b.toNat := by unfold printNetS; rw [if_pos hm]
    rw [hm] at HM
    rw [hp]
    obtain ⟨a, b⟩ := c
    unfold Net.val at HM ⊢
    dsimp only at ha HM hlo hhi ⊢
    obtain ⟨n, rfl⟩ : ∃ n : Nat, b = n := ⟨b.toNat, by omega⟩
    rw [Int.toNat_natCast]
    have HP := hide (fun W => printR_any a ha W)
    have HI := hide (fun W => digits_any n (by omega) W)
    have hl1 := prTo_len a 4
    rw [prTo_four] at hl1
    have hl2 := decDigits_le n
    unfold StrPost at HP HI
    have y1 : (printS a).length ≤ 1200 := by omega
    have y2 : (decDigits n).length ≤ 100 := by omega
    generalize decDigits n = D at *
    generalize printS a = E at *
    clear hok hm hp hl1 hl2
    have HB0 : Hid (Below w.heap.size w (w.alloc (.cells #[.int .u32 a, .int .i64 (n : Int)] 24))) := hide ((Below.refl _ _).alloc (Nat.le_refl _) _)
    have HX := hide (BoxAt.new w a (n : Int))
    go_enter Tryd.func18, Tryd.ntmps18
    go_wp2_with fail
    refine (HM.out _).mono ?_
    rintro e w2 ⟨rfl, hB⟩
    have HX2 := hide (HX.out.next hB)
    have HB2 := hide (HB0.out.trans (hB.mono HB0.out.size))
    clear hB HX HB0 HM
    go_wp2_with fail
    obtain ⟨g, hg⟩ : ∃ g, w.heap.size = g := ⟨_, rfl⟩
    rw [hg] at HX2 ⊢
    have HGg := hide hg
    clear hg
    refine wp_region_held_drew (S := fun w' => BoxAt w' g a (n : Int)) (by kernel_rfl) HX2.out (fun hHeld => ?_)
    refine wpAnyH_take (i := 0) (oi := { dst := some 6, op := Op.fieldAddr 24 (Operand.tmp 1) 0, type := 0, pos := "ref.go:131", after := #[], guard := none }) (v := ?_) rfl (by kernel_rfl) (by kernel_rfl) (by kernel_rfl) (fun _ _ _ h => h) (Or.inl ⟨by rfl, ?_⟩) hHeld ?_
    rotate_left
    · intro w hSw; (try dsimp only at hSw); go_simp; first | done | with_reducible rfl
    try simp only [Act.put, List.setIfInBounds_toArray, List.set_cons_zero, List.set_cons_succ]
    refine wpAnyH_take (i := 1) (oi := { dst := some 7, op := Op.load 22 (Operand.tmp 6), type := 22, pos := "ref.go:131", after := #[{ on := 0, ground := Ground.data }], guard := none }) (v := ?_) rfl (by kernel_rfl) (by kernel_rfl) (by kernel_rfl) (fun _ _ _ h => h) (Or.inl ⟨by rfl, ?_⟩) hHeld ?_
    rotate_left
    · intro w hSw; (try dsimp only at hSw); have e0 := hSw.c0; have e1 := hSw.c1; go_simp; first | done | with_reducible rfl
    try simp only [Act.put, List.setIfInBounds_toArray, List.set_cons_zero, List.set_cons_succ]
    refine wpAnyH_take (i := 4) (oi := { dst := some 10, op := Op.fieldAddr 24 (Operand.tmp 1) 1, type := 0, pos := "ref.go:131", after := #[], guard := none }) (v := ?_) rfl (by kernel_rfl) (by kernel_rfl) (by kernel_rfl) (fun _ _ _ h => h) (Or.inl ⟨by rfl, ?_⟩) hHeld ?_
    rotate_left
    · intro w hSw; (try dsimp only at hSw); go_simp; first | done | with_reducible rfl
    try simp only [Act.put, List.setIfInBounds_toArray, List.set_cons_zero, List.set_cons_succ]
    refine wpAnyH_take (i := 5) (oi := { dst := some 11, op := Op.load 3 (Operand.tmp 10), type := 3, pos := "ref.go:131", after := #[{ on := 4, ground := Ground.data }], guard := none }) (v := ?_) rfl (by kernel_rfl) (by kernel_rfl) (by kernel_rfl) (fun _ _ _ h => h) (Or.inl ⟨by rfl, ?_⟩) hHeld ?_
    rotate_left
    · intro w hSw; (try dsimp only at hSw); have e0 := hSw.c0; have e1 := hSw.c1; go_simp; first | done | with_reducible rfl
    try simp only [Act.put, List.setIfInBounds_toArray, List.set_cons_zero, List.set_cons_succ]
    have HB3 := hide HB2.out.drew
    have HX3 : Hid (BoxAt w2.drew g a (n : Int)) := hide HX2.out
    generalize w2.drew = w3 at *
    refine wpAnyH_ready (rs := [2]) (by kernel_rfl) (by simp) ?_
    refine AllReadyH.cons (o := { dst := some 8, op := Op.call { callee := Callee.value (Operand.func 16), args := #[Operand.tmp 7], argTypes := #[22] }, type := 9, pos := "ref.go:131", after := #[{ on := 1, ground := Ground.data }], guard := none }) rfl (fun K hK => ?_) AllReadyH.nil
    clear hHeld
    go_simp
    refine (HP.out _).mono ?_
    rintro e w4 ⟨rfl, hB⟩
    have HX4 := hide (HX3.out.next hB)
    have HB4 := hide (HB3.out.trans (hB.mono HB3.out.size))
    clear hB
    refine hK.out _ _ (HX4.out) (fun hHeld => ?_)
    clear hK K
    try simp only [Act.put, List.setIfInBounds_toArray, List.set_cons_zero, List.set_cons_succ]
    refine wpAnyH_take (i := 3) (oi := { dst := some 9, op := Op.binOp BinOp.add 9 (Operand.tmp 8) (Operand.const (Value.string { data := #[47] })) 9, type := 9, pos := "ref.go:131", after := #[{ on := 2, ground := Ground.data }], guard := none }) (v := ?_) rfl (by kernel_rfl) (by kernel_rfl) (by kernel_rfl) (fun _ _ _ h => h) (Or.inl ⟨by rfl, ?_⟩) hHeld ?_
    rotate_left
    · intro w hSw; (try dsimp only at hSw); have g1 : ¬ (9223372036854775807 < E.length + 1) := (by omega); go_simp; first | done | with_reducible rfl
    try simp only [Act.put, List.setIfInBounds_toArray, List.set_cons_zero, List.set_cons_succ]
    refine wpAnyH_ready (rs := [6]) (by kernel_rfl) (by simp) ?_
    refine AllReadyH.cons (o := { dst := some 12, op := Op.call { callee := Callee.value (Operand.func 41), args := #[Operand.tmp 11], argTypes := #[3] }, type := 9, pos := "ref.go:131", after := #[{ on := 5, ground := Ground.data }, { on := 2, ground := Ground.chain }], guard := none }) rfl (fun K hK => ?_) AllReadyH.nil
    clear hHeld
    go_simp
    refine (HI.out _).mono ?_
    rintro e w5 ⟨rfl, hB⟩
    have HX5 := hide (HX4.out.next hB)
    have HB5 := hide (HB4.out.trans (hB.mono HB4.out.size))
    clear hB
    refine hK.out _ _ (HX5.out) (fun hHeld => ?_)
    clear hK K
    try simp only [Act.put, List.setIfInBounds_toArray, List.set_cons_zero, List.set_cons_succ]
    refine wpAnyH_take (i := 7) (oi := { dst := some 13, op := Op.binOp BinOp.add 9 (Operand.tmp 9) (Operand.tmp 12) 9, type := 9, pos := "ref.go:131", after := #[{ on := 3, ground := Ground.data }, { on := 6, ground := Ground.data }], guard := none }) (v := ?_) rfl (by kernel_rfl) (by kernel_rfl) (by kernel_rfl) (fun _ _ _ h => h) (Or.inl ⟨by rfl, ?_⟩) hHeld ?_
    rotate_left
    · intro w hSw; (try dsimp only at hSw); have g1 : ¬ (9223372036854775807 < E.length + 1 + D.length) := (by omega); go_simp; first | done | with_reducible rfl
    try simp only [Act.put, List.setIfInBounds_toArray, List.set_cons_zero, List.set_cons_succ]
    refine wpAnyH_take (i := 8) (oi := { dst := some 2, op := Op.assign (Operand.tmp 13), type := 9, pos := "ref.go:131", after := #[{ on := 7, ground := Ground.data }, { on := 6, ground := Ground.chain }, { on := 0, ground := Ground.phase }, { on := 1, ground := Ground.phase }, { on := 2, ground := Ground.phase }, { on := 3, ground := Ground.phase }, { on := 4, ground := Ground.phase }, { on := 5, ground := Ground.phase }, { on := 6, ground := Ground.phase }, { on := 7, ground := Ground.phase }], guard := none }) (v := ?_) rfl (by kernel_rfl) (by kernel_rfl) (by kernel_rfl) (fun _ _ _ h => h) (Or.inl ⟨by rfl, ?_⟩) hHeld ?_
    rotate_left
    · intro w hSw; (try dsimp only at hSw); go_simp; first | done | with_reducible rfl
    try simp only [Act.put, List.setIfInBounds_toArray, List.set_cons_zero, List.set_cons_succ]
    refine wpAnyH_done (by kernel_rfl) ?_ _
    go_wp2_with fail
    go_ret
    exact ⟨ret_str (by simp), HB5.out⟩

set_option maxRecDepth 100000 in
theorem mayPort_any (n : Int) (w : World) : Calls Tryd.prog 19 #[.int .i64 n] w (fun e w' => e = .returned (.bool (decide (0 < n) && decide (n < 65536))) ∧ w = w') := by
  by_cases h1 : 1 ≤ n
  · by_cases h2 : n ≤ 65535
    · rw [show (decide (0 < n) && decide (n < 65536)) = true by simp; omega]
      have h3 : decide (1 ≤ n) = true := by simpa using h1
      go_enter Tryd.func19, Tryd.ntmps19
      go_wp2_with fail
      go_ret
      exact ⟨by simp, rfl⟩
    · rw [show (decide (0 < n) && decide (n < 65536)) = false by simp; omega]
      go_enter Tryd.func19, Tryd.ntmps19
      go_wp2_with fail
      go_ret
      exact ⟨by simp, rfl⟩
  · rw [show (decide (0 < n) && decide (n < 65536)) = false by simp; omega]
    go_enter Tryd.func19, Tryd.ntmps19
    go_wp2_with fail
    go_ret
    exact ⟨by simp, rfl⟩
end Go.Proofs.YtgikkjjnoakhdaaDoor
