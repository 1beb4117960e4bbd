/- pieces: the walk. -/
import Derived.Test.YtglnfnlpkhmlnaaGreatDoorRqPiece
namespace Go.Proofs.YtglnfnlpkhmlnaaGreatDoor
open Go.RowKit Go.Lib

abbrev psZ : Obj := .cells #[.int .i64 0, .slice none 0 0, .string ⟨#[]⟩, .slice none 0 0, .slice none 0 0, .int .i64 0, .int .i64 0] 30
set_option maxRecDepth 100000 in
set_option maxHeartbeats 2000000 in
theorem pieces_any (vo : Option Addr) (vc : Nat) (uo : Option Addr) (uc : Nat) (b : List UInt8) (cs : List Int) (w : World) (gv : GAt KB w (.slice vo b.length vc) b) (gu : GAt KI w (.slice uo cs.length uc) cs) (hbl : b.length ≤ 8000) (hcl : cs.length ≤ 200) (hok : ∀ c ∈ cs, intOk c) (hE : Env w) (hS : EnvS w) :
    Calls Tryz.prog 13 #[.slice vo b.length vc, .slice uo cs.length uc] w fun e w' => ∃ (pv : Value) (wv : Sl), e = .returned (.tuple #[pv, wv.v, .bool true]) ∧ PsNew w' w.heap.size pv (runP new0 b).1 ∧ RawsNew 27 w' w.heap.size wv.v (runP new0 b).2 ∧ Below w.heap.size w w' := by
  have hB1 := (Below.refl w.heap.size w).alloc (Nat.le_refl _) psZ
  have hx1 : RBox7 30 (w.alloc psZ) w.heap.size (.int .i64 0) (.slice none 0 0) (.string ⟨#[]⟩) (.slice none 0 0) (.slice none 0 0) (.int .i64 0) (.int .i64 0) := heap_alloc_new w _
  have hz1 : (w.alloc psZ).heap.size = w.heap.size + 1 := World.size_alloc _ _
  obtain ⟨n, hn⟩ : ∃ n, b.length = n := ⟨_, rfl⟩
  obtain ⟨cn, hcn⟩ : ∃ n, cs.length = n := ⟨_, rfl⟩
  rw [hn] at gv hbl ⊢
  rw [hcn] at gu hcl ⊢
  have hcv := to_strA (w.alloc psZ) _ _ _ _ (gv.below hB1)
  have HN := hideL hn
  have HCN := hideL hcn
  have HB1 := hideL hB1
  have HX1 := hideL hx1
  have HV := hideL gv
  have HU := hideL gu
  have HE := hideL hE
  have HES := hideL hS
  have HOK := hideL hok
  have LN := hideL new_any
  have HZ1 := hideL hz1
  have HS := hideL (show (bo b).toList == (bo b).toList from beq_self_eq_true _)
  clear hn hcn hB1 hx1 gv gu hE hS hok hz1
  go_enter Tryz.func13, Tryz.ntmps13
  go_wp2_with (first
    | (go_at_call 47; refine (LN.out _).mono ?_; rintro e w2 ⟨rfl, hB⟩; have HB2 := hideL hB; clear hB))
  have hpc : Pc w2.heap.size (w2.alloc psZ) new0 sl0 sl0 sl0 sl0 [] [] := Pc.new w2
  have hb3 : Below (w.heap.size + 1) (w.alloc psZ) (w2.alloc psZ) := by
    have h := HB2.out
    rw [HZ1.out] at h
    exact h.trans (((Below.refl w2.heap.size w2).alloc (Nat.le_refl _) psZ).mono (by have := h.size; rw [HZ1.out] at this; omega))
  have hp0 : w.heap.size + 1 ≤ w2.heap.size := by have := HB2.out.size; rw [HZ1.out] at this; omega
  obtain ⟨p0, hp⟩ : ∃ p, p = w2.heap.size := ⟨_, rfl⟩
  obtain ⟨W0, hw⟩ : ∃ W, W = w2.alloc psZ := ⟨_, rfl⟩
  rw [← hp] at hpc hp0 ⊢
  simp only [psZ] at hw
  rw [← hw] at hpc hb3 ⊢
  have HP0 := hideL hp0
  have HPC := hideL hpc
  have HB3 := hideL hb3
  clear hp hw hpc hb3 hp0 HB2 LN
  go_loopw [9, 10, 11] (fun o at_ i wr => ∃ (k a : Nat) (s : Ps) (lv hv bv ov : Sl) (xs : List Rw) (m : List RV), o = ov.v ∧ at_ = .int .i64 a ∧ i = .int .i64 k ∧ k ≤ cn + 1 ∧ a ≤ n ∧ HidL (k = cn + 1 → a = n) ∧ HidL (runP new0 (b.take a) = (s, xs)) ∧ HidL (Pc p0 wr s lv hv bv ov xs m) ∧ HidL (Below (w.heap.size + 1) (w.alloc psZ) wr)) (fun _ _ i _ => cn + 1 - (RowKit.intOf i).toNat)
  case atStart => exact ⟨0, 0, new0, sl0, sl0, sl0, sl0, [], [], rfl, rfl, rfl, Nat.zero_le _, Nat.zero_le _, ⟨fun h => by omega⟩, ⟨by rw [List.take_zero, runP_nil]⟩, HPC, HB3⟩
  case round =>
    obtain ⟨k, a, s, ⟨la, ln, lc⟩, ⟨ha, hn, hc⟩, ⟨ba, bn, bc⟩, ⟨oa, on, oc⟩, xs, m, rfl, rfl, rfl, hk, hak, HEND, HRUN, HPC2, HBW⟩ := hrel
    clear HPC HB3
    obtain ⟨W, rfl⟩ : ∃ W, W = wr := ⟨_, rfl⟩
    simp only [Sl.v] at HPC2 ⊢
    by_cases hlt : k ≤ cn
    · have hlt' : (k : Int) ≤ (cn : Int) := by omega
      by_cases hltc : k < cn
      · have hlc' : (k : Int) < (cn : Int) := by omega
        have hkc : k < cs.length := by rw [HCN.out]; exact hltc
        obtain ⟨b1, o1, e1, l1, c1⟩ := HU.out.at (k := k) hltc
        subst e1
        have hci : intOk (cs.getD k 0) := HOK.out _ (by simp [List.getD, hkc])
        have d1 : W.cell? ⟨b1, o1 + k * 1, none⟩ = some (.int .i64 (cs.getD k 0)) := (HBW.out.cell (p := ⟨b1, o1 + k * 1, none⟩) (Nat.lt_succ_of_lt l1)).trans ((HB1.out.cell (p := ⟨b1, o1 + k * 1, none⟩) l1).trans (c1 0 Nat.zero_lt_one))
        rw [Nat.mul_one] at d1
        generalize cs.getD k 0 = cc at d1 hci
        obtain ⟨hc1, hc2⟩ := hci
        clear c1 l1 hkc
        go_wp2_with fail
        clear d1
        obtain ⟨j, hj, hja, hje⟩ : ∃ j : Nat, min ((n : Int) - (a : Int)) (max 0 cc) = (j : Int) ∧ a + j ≤ n ∧ (k + 1 = cn + 1 → a + j = n) := ⟨(min ((n : Int) - (a : Int)) (max 0 cc)).toNat, by omega, by omega, fun h => by omega⟩
        rw [hj]
        have HJE := hideL hje
        clear hj hje
        have hwr : IntKind.i64.wrap ((a : Int) + (j : Int)) = (a : Int) + (j : Int) := by rw [IntWalk.i64_in _ (by omega)]
        have hcut := fun w => run_cut_lh (P := Tryz.prog) Tryz.underlying22 sizeB vo n vc a j (by have := HV.out.le; omega) w
        have hz3 : w.heap.size + 1 ≤ W.heap.size := by have h1 := HBW.out.size; rw [HZ1.out] at h1; exact h1
        have hBW : Below w.heap.size w W := HB1.out.trans (HBW.out.mono (Nat.le_succ _))
        have hlv := (con_run (b.take a) live_new).1
        have hgd := (good_run (b.take a) live_new good_new).1
        rw [HRUN.out] at hlv hgd
        have LF := feed_any s ⟨la, ln, lc⟩ ⟨ha, hn, hc⟩ ⟨ba, bn, bc⟩ (sl vo a j vc) ((b.drop a).take j) W.drew HPC2.out.gl HPC2.out.gh HPC2.out.gb ((HV.out.below hBW).piece hja) (by rw [List.length_take]; omega) hlv hgd (HE.out.next hBW.drew) (HES.out.next hBW.drew)
        unfold FeedPost at LF
        obtain ⟨⟨s2, ys⟩, hr2⟩ : ∃ r, runP s ((b.drop a).take j) = r := ⟨_, rfl⟩
        rw [hr2] at LF
        simp only [PsV, Sl.v] at LF
        have hrun2 : runP new0 (b.take (a + j)) = (s2, xs ++ ys) := by rw [List.take_add, runP_app, HRUN.out]; show ((runP s ((b.drop a).take j)).1, xs ++ (runP s ((b.drop a).take j)).2) = _; rw [hr2]
        have hxl := run_len (b.take (a + j)) new0
        rw [hrun2] at hxl
        have hxl : (xs ++ ys).length ≤ (b.take (a + j)).length := hxl
        have HXL := hideL (show xs.length + ys.length ≤ 200000 by rw [List.length_append, List.length_take] at hxl; omega)
        have HRUN2 := hideL hrun2
        have LF := hideL LF
        have HX := hideL (show RBox7 30 W.drew p0 (.int .i64 s.phase) (.slice la ln lc) (.string (bo s.start)) (.slice ha hn hc) (.slice ba bn bc) (.int .i64 s.left) (.int .i64 s.err) from HPC2.out.box)
        have c0 := HPC2.out.box.c0
        have c1 := HPC2.out.box.c1
        have c2 := HPC2.out.box.c2
        have c3 := HPC2.out.box.c3
        have c4 := HPC2.out.box.c4
        have c5 := HPC2.out.box.c5
        have c6 := HPC2.out.box.c6
        try simp only [Sl.v] at c1 c3 c4 HX
        clear hBW hlv hgd hr2 hrun2 hxl HRUN
        go_region_with (go_at_call 48; refine LF.out.mono ?_; rintro e w3 ⟨pv, ⟨wa, wn, wc⟩, rfl, ⟨⟨la2, ln2, lc2⟩, ⟨ha2, hn2, hc2⟩, ⟨ba2, bn2, bc2⟩, rfl, g1, g2, g3, g4⟩, hrw, hB⟩; (try simp only [Sl.v, PsV] at g1 g2 g3 g4 hrw ⊢); have hx3 := HX.out.next hB; have d0 := hx3.c0; have d1 := hx3.c1; have d2 := hx3.c2; have d3 := hx3.c3; have d4 := hx3.c4; have d5 := hx3.c5; have d6 := hx3.c6; have f0 := hx3.fz 0; have f1 := hx3.fz 1; have f2 := hx3.fz 2; have f3 := hx3.fz 3; have f4 := hx3.fz 4; have f5 := hx3.fz 5; have f6 := hx3.fz 6; have HX3 := hideL hx3; have G1 := hideL g1; have G2 := hideL g2; have G3 := hideL g3; have G4 := hideL g4; have HRW := hideL hrw; have HB := hideL hB; clear hx3 g1 g2 g3 g4 hrw hB)
        have hb3 : Below W.heap.size W w3 := ((Below.refl _ W).drew).trans HB.out
        have hpc4 := HPC2.out.fed (s' := s2) (lv' := ⟨la2, ln2, lc2⟩) (hv' := ⟨ha2, hn2, hc2⟩) (bv' := ⟨ba2, bn2, bc2⟩) hb3 G1.out G2.out G3.out G4.out (keepg_st7 w3 p0 (.int .i64 s2.phase) (.slice la2 ln2 lc2) (.string (bo s2.start)) (.slice ha2 hn2 hc2) (.slice ba2 bn2 bc2) (.int .i64 s2.left) (.int .i64 s2.err)) (HX3.out.st7 (.int .i64 s2.phase) (.slice la2 ln2 lc2) (.string (bo s2.start)) (.slice ha2 hn2 hc2) (.slice ba2 bn2 bc2) (.int .i64 s2.left) (.int .i64 s2.err))
        have hrw4 := RawsNew.store (p0 := p0) HRW.out (keepg_st7 w3 p0 (.int .i64 s2.phase) (.slice la2 ln2 lc2) (.string (bo s2.start)) (.slice ha2 hn2 hc2) (.slice ba2 bn2 bc2) (.int .i64 s2.left) (.int .i64 s2.err)) HPC2.out.lt
        have hb4 : Below (w.heap.size + 1) (w.alloc psZ) (st7 w3 p0 (.int .i64 s2.phase) (.slice la2 ln2 lc2) (.string (bo s2.start)) (.slice ha2 hn2 hc2) (.slice ba2 bn2 bc2) (.int .i64 s2.left) (.int .i64 s2.err)) := (HBW.out.trans (hb3.mono hz3)).trans ((keepg_st7 w3 p0 (.int .i64 s2.phase) (.slice la2 ln2 lc2) (.string (bo s2.start)) (.slice ha2 hn2 hc2) (.slice ba2 bn2 bc2) (.int .i64 s2.left) (.int .i64 s2.err)).below (fun q e => by have := HP0.out; have e : q = p0 := e; omega) (Nat.le_trans hz3 hb3.size))
        obtain ⟨⟨oa5, on5, oc5⟩, w5, m5, hrun, hpc5, hb5⟩ := hpc4.more hrw4 (fun q hq => HPC2.out.rows.lt hq) (by have := HPC2.out.lt; show p0 + 1 ≤ W.heap.size; omega) HXL.out
        have HB5 := hideL (hb4.trans (hb5.mono (by have := HP0.out; omega)))
        have HPC5 := hideL hpc5
        try simp only [Sl.v, st7] at hrun
        obtain ⟨WF, hWF⟩ : ∃ W', W' = st7 w3 p0 (.int .i64 s2.phase) (.slice la2 ln2 lc2) (.string (bo s2.start)) (.slice ha2 hn2 hc2) (.slice ba2 bn2 bc2) (.int .i64 s2.left) (.int .i64 s2.err) := ⟨_, rfl⟩
        simp only [st7] at hWF
        rw [← hWF] at hrun ⊢
        have HRUN5 := hideL hrun
        clear hWF hrun hpc5 hb5 hpc4 hrw4 hb4 hb3 HX3 HX HPC2 HBW LF HB HRW G1 G2 G3 G4 c0 c1 c2 c3 c4 c5 c6 d0 d1 d2 d3 d4 d5 d6 f0 f1 f2 f3 f4 f5 f6 hcut hcv
        go_wp2_with (at_builtin; refine wpList_append_runP rfl (.tmp 49) (.tmp 50) 31 31 31 rfl rfl _ _ _ w5 rfl rfl HRUN5.out ?_)
        go_roundw
        case rel => exact ⟨k + 1, a + j, s2, _, _, _, ⟨oa5, on5, oc5⟩, xs ++ ys, m5, rfl, by go_num, by go_num, by omega, hja, HJE, HRUN2, HPC5, HB5⟩
        case measure => simp [RowKit.intOf]; omega
      · have hlc' : ¬ (k : Int) < (cn : Int) := by omega
        go_wp2_with fail
        obtain ⟨j, hj, hja, hje⟩ : ∃ j : Nat, (n : Int) - (a : Int) = (j : Int) ∧ a + j ≤ n ∧ (k + 1 = cn + 1 → a + j = n) := ⟨n - a, by omega, by omega, fun h => by omega⟩
        rw [hj]
        have HJE := hideL hje
        clear hj hje
        have hwr : IntKind.i64.wrap ((a : Int) + (j : Int)) = (a : Int) + (j : Int) := by rw [IntWalk.i64_in _ (by omega)]
        have hcut := fun w => run_cut_lh (P := Tryz.prog) Tryz.underlying22 sizeB vo n vc a j (by have := HV.out.le; omega) w
        have hz3 : w.heap.size + 1 ≤ W.heap.size := by have h1 := HBW.out.size; rw [HZ1.out] at h1; exact h1
        have hBW : Below w.heap.size w W := HB1.out.trans (HBW.out.mono (Nat.le_succ _))
        have hlv := (con_run (b.take a) live_new).1
        have hgd := (good_run (b.take a) live_new good_new).1
        rw [HRUN.out] at hlv hgd
        have LF := feed_any s ⟨la, ln, lc⟩ ⟨ha, hn, hc⟩ ⟨ba, bn, bc⟩ (sl vo a j vc) ((b.drop a).take j) W.drew HPC2.out.gl HPC2.out.gh HPC2.out.gb ((HV.out.below hBW).piece hja) (by rw [List.length_take]; omega) hlv hgd (HE.out.next hBW.drew) (HES.out.next hBW.drew)
        unfold FeedPost at LF
        obtain ⟨⟨s2, ys⟩, hr2⟩ : ∃ r, runP s ((b.drop a).take j) = r := ⟨_, rfl⟩
        rw [hr2] at LF
        simp only [PsV, Sl.v] at LF
        have hrun2 : runP new0 (b.take (a + j)) = (s2, xs ++ ys) := by rw [List.take_add, runP_app, HRUN.out]; show ((runP s ((b.drop a).take j)).1, xs ++ (runP s ((b.drop a).take j)).2) = _; rw [hr2]
        have hxl := run_len (b.take (a + j)) new0
        rw [hrun2] at hxl
        have hxl : (xs ++ ys).length ≤ (b.take (a + j)).length := hxl
        have HXL := hideL (show xs.length + ys.length ≤ 200000 by rw [List.length_append, List.length_take] at hxl; omega)
        have HRUN2 := hideL hrun2
        have LF := hideL LF
        have HX := hideL (show RBox7 30 W.drew p0 (.int .i64 s.phase) (.slice la ln lc) (.string (bo s.start)) (.slice ha hn hc) (.slice ba bn bc) (.int .i64 s.left) (.int .i64 s.err) from HPC2.out.box)
        have c0 := HPC2.out.box.c0
        have c1 := HPC2.out.box.c1
        have c2 := HPC2.out.box.c2
        have c3 := HPC2.out.box.c3
        have c4 := HPC2.out.box.c4
        have c5 := HPC2.out.box.c5
        have c6 := HPC2.out.box.c6
        try simp only [Sl.v] at c1 c3 c4 HX
        clear hBW hlv hgd hr2 hrun2 hxl HRUN
        go_region_with (go_at_call 48; refine LF.out.mono ?_; rintro e w3 ⟨pv, ⟨wa, wn, wc⟩, rfl, ⟨⟨la2, ln2, lc2⟩, ⟨ha2, hn2, hc2⟩, ⟨ba2, bn2, bc2⟩, rfl, g1, g2, g3, g4⟩, hrw, hB⟩; (try simp only [Sl.v, PsV] at g1 g2 g3 g4 hrw ⊢); have hx3 := HX.out.next hB; have d0 := hx3.c0; have d1 := hx3.c1; have d2 := hx3.c2; have d3 := hx3.c3; have d4 := hx3.c4; have d5 := hx3.c5; have d6 := hx3.c6; have f0 := hx3.fz 0; have f1 := hx3.fz 1; have f2 := hx3.fz 2; have f3 := hx3.fz 3; have f4 := hx3.fz 4; have f5 := hx3.fz 5; have f6 := hx3.fz 6; have HX3 := hideL hx3; have G1 := hideL g1; have G2 := hideL g2; have G3 := hideL g3; have G4 := hideL g4; have HRW := hideL hrw; have HB := hideL hB; clear hx3 g1 g2 g3 g4 hrw hB)
        have hb3 : Below W.heap.size W w3 := ((Below.refl _ W).drew).trans HB.out
        have hpc4 := HPC2.out.fed (s' := s2) (lv' := ⟨la2, ln2, lc2⟩) (hv' := ⟨ha2, hn2, hc2⟩) (bv' := ⟨ba2, bn2, bc2⟩) hb3 G1.out G2.out G3.out G4.out (keepg_st7 w3 p0 (.int .i64 s2.phase) (.slice la2 ln2 lc2) (.string (bo s2.start)) (.slice ha2 hn2 hc2) (.slice ba2 bn2 bc2) (.int .i64 s2.left) (.int .i64 s2.err)) (HX3.out.st7 (.int .i64 s2.phase) (.slice la2 ln2 lc2) (.string (bo s2.start)) (.slice ha2 hn2 hc2) (.slice ba2 bn2 bc2) (.int .i64 s2.left) (.int .i64 s2.err))
        have hrw4 := RawsNew.store (p0 := p0) HRW.out (keepg_st7 w3 p0 (.int .i64 s2.phase) (.slice la2 ln2 lc2) (.string (bo s2.start)) (.slice ha2 hn2 hc2) (.slice ba2 bn2 bc2) (.int .i64 s2.left) (.int .i64 s2.err)) HPC2.out.lt
        have hb4 : Below (w.heap.size + 1) (w.alloc psZ) (st7 w3 p0 (.int .i64 s2.phase) (.slice la2 ln2 lc2) (.string (bo s2.start)) (.slice ha2 hn2 hc2) (.slice ba2 bn2 bc2) (.int .i64 s2.left) (.int .i64 s2.err)) := (HBW.out.trans (hb3.mono hz3)).trans ((keepg_st7 w3 p0 (.int .i64 s2.phase) (.slice la2 ln2 lc2) (.string (bo s2.start)) (.slice ha2 hn2 hc2) (.slice ba2 bn2 bc2) (.int .i64 s2.left) (.int .i64 s2.err)).below (fun q e => by have := HP0.out; have e : q = p0 := e; omega) (Nat.le_trans hz3 hb3.size))
        obtain ⟨⟨oa5, on5, oc5⟩, w5, m5, hrun, hpc5, hb5⟩ := hpc4.more hrw4 (fun q hq => HPC2.out.rows.lt hq) (by have := HPC2.out.lt; show p0 + 1 ≤ W.heap.size; omega) HXL.out
        have HB5 := hideL (hb4.trans (hb5.mono (by have := HP0.out; omega)))
        have HPC5 := hideL hpc5
        try simp only [Sl.v, st7] at hrun
        obtain ⟨WF, hWF⟩ : ∃ W', W' = st7 w3 p0 (.int .i64 s2.phase) (.slice la2 ln2 lc2) (.string (bo s2.start)) (.slice ha2 hn2 hc2) (.slice ba2 bn2 bc2) (.int .i64 s2.left) (.int .i64 s2.err) := ⟨_, rfl⟩
        simp only [st7] at hWF
        rw [← hWF] at hrun ⊢
        have HRUN5 := hideL hrun
        clear hWF hrun hpc5 hb5 hpc4 hrw4 hb4 hb3 HX3 HX HPC2 HBW LF HB HRW G1 G2 G3 G4 c0 c1 c2 c3 c4 c5 c6 d0 d1 d2 d3 d4 d5 d6 f0 f1 f2 f3 f4 f5 f6 hcut hcv
        go_wp2_with (at_builtin; refine wpList_append_runP rfl (.tmp 49) (.tmp 50) 31 31 31 rfl rfl _ _ _ w5 rfl rfl HRUN5.out ?_)
        go_roundw
        case rel => exact ⟨k + 1, a + j, s2, _, _, _, ⟨oa5, on5, oc5⟩, xs ++ ys, m5, rfl, by go_num, by go_num, by omega, hja, HJE, HRUN2, HPC5, HB5⟩
        case measure => simp [RowKit.intOf]; omega
    · have hlt' : ¬ (k : Int) ≤ (cn : Int) := by omega
      obtain rfl : a = n := HEND.out (by omega)
      have hrun := HRUN.out
      rw [List.take_of_length_le (by rw [HN.out]; exact Nat.le_refl _)] at hrun
      have hBW : Below w.heap.size w W := HB1.out.trans (HBW.out.mono (Nat.le_succ _))
      have hcv2 := to_strA W.drew _ _ _ _ (HV.out.below hBW.drew)
      have hcv3 := to_strA (st7 W w.heap.size (.int .i64 s.phase) (.slice la ln lc) (.string (bo s.start)) (.slice ha hn hc) (.slice ba bn bc) (.int .i64 s.left) (.int .i64 s.err)).drew _ _ _ _ (HV.out.below (hBW.trans (((keepg_st7 W w.heap.size (.int .i64 s.phase) (.slice la ln lc) (.string (bo s.start)) (.slice ha hn hc) (.slice ba bn bc) (.int .i64 s.left) (.int .i64 s.err)).drewR).below (fun q e => by have e : q = w.heap.size := e; omega) hBW.size)))
      simp only [st7] at hcv3
      have hpn := HPC2.out.psNew
      have hrn := HPC2.out.rawsNew
      have c0 := HPC2.out.box.c0
      have c1 := HPC2.out.box.c1
      have c2 := HPC2.out.box.c2
      have c3 := HPC2.out.box.c3
      have c4 := HPC2.out.box.c4
      have c5 := HPC2.out.box.c5
      have c6 := HPC2.out.box.c6
      have hy : RBox7 30 W w.heap.size (.int .i64 0) (.slice none 0 0) (.string ⟨#[]⟩) (.slice none 0 0) (.slice none 0 0) (.int .i64 0) (.int .i64 0) := (HBW.out.block _ (Nat.lt_succ_self _)).trans HX1.out
      have y0 := hy.c0
      have y1 := hy.c1
      have y2 := hy.c2
      have y3 := hy.c3
      have y4 := hy.c4
      have y5 := hy.c5
      have y6 := hy.c6
      have z0 := hy.fz 0
      have z1 := hy.fz 1
      have z2 := hy.fz 2
      have z3 := hy.fz 3
      have z4 := hy.fz 4
      have z5 := hy.fz 5
      have z6 := hy.fz 6
      have hyf := hy.st7 (.int .i64 s.phase) (.slice la ln lc) (.string (bo s.start)) (.slice ha hn hc) (.slice ba bn bc) (.int .i64 s.left) (.int .i64 s.err)
      have r0 := hyf.c0
      have r1 := hyf.c1
      have r2 := hyf.c2
      have r3 := hyf.c3
      have r4 := hyf.c4
      have r5 := hyf.c5
      have r6 := hyf.c6
      have hkg := (keepg_st7 W w.heap.size (.int .i64 s.phase) (.slice la ln lc) (.string (bo s.start)) (.slice ha hn hc) (.slice ba bn bc) (.int .i64 s.left) (.int .i64 s.err)).drewR
      have hfin : ∃ (pv : Value) (wv : Sl), Ending.returned (.tuple #[.agg #[.int .i64 s.phase, .slice la ln lc, .string (bo s.start), .slice ha hn hc, .slice ba bn bc, .int .i64 s.left, .int .i64 s.err], .slice oa on oc, .bool true]) = Ending.returned (.tuple #[pv, wv.v, .bool true]) ∧ PsNew (st7 W w.heap.size (.int .i64 s.phase) (.slice la ln lc) (.string (bo s.start)) (.slice ha hn hc) (.slice ba bn bc) (.int .i64 s.left) (.int .i64 s.err)).drew w.heap.size pv (runP new0 b).1 ∧ RawsNew 27 (st7 W w.heap.size (.int .i64 s.phase) (.slice la ln lc) (.string (bo s.start)) (.slice ha hn hc) (.slice ba bn bc) (.int .i64 s.left) (.int .i64 s.err)).drew w.heap.size wv.v (runP new0 b).2 ∧ Below w.heap.size w (st7 W w.heap.size (.int .i64 s.phase) (.slice la ln lc) (.string (bo s.start)) (.slice ha hn hc) (.slice ba bn bc) (.int .i64 s.left) (.int .i64 s.err)).drew := by
        have hp0 := HP0.out
        rw [hrun]
        exact ⟨_, ⟨oa, on, oc⟩, rfl, (hpn.keepg hkg (by omega)).base (by omega), (hrn.store hkg (by omega)).base (by omega), hBW.trans (hkg.below (fun q e => by have e : q = w.heap.size := e; omega) hBW.size)⟩
      simp only [st7] at hfin r0 r1 r2 r3 r4 r5 r6
      have HFIN := hideL hfin
      clear hfin hkg hyf hy hpn hrn hrun HPC2
      try simp only [Sl.v] at c1 c3 c4
      go_wp2_with fail
      go_region_with fail
      all_goals go_wp2_with fail
      all_goals try rw [Exit.noGoto_ret]
      all_goals exact bodyPost_ret (v := .tuple #[.agg #[.int .i64 s.phase, .slice la ln lc, .string (bo s.start), .slice ha hn hc, .slice ba bn bc, .int .i64 s.left, .int .i64 s.err], .slice oa on oc, .bool true]) (by simp [results, Tryz.results13, go_sem, r0, r1, r2, r3, r4, r5, r6]) rfl HFIN.out
end Go.Proofs.YtglnfnlpkhmlnaaGreatDoor
