/- An answer in memory of its own: made. -/
import Derived.Test.YtafmgoekgijfgaaGreatDoorARqM2
import Derived.Test.YtafmgoekgijfgaaGreatDoorAAnArg
import Derived.Test.YtafmgoekgijfgaaGreatDoorARqOwn
import Derived.Test.YtafmgoekgijfgaaGreatDoorARqM4
namespace Go.Proofs.YtafmgoekgijfgaaGreatDoor
open Go.RowKit Go.Lib

theorem ABox.other {W : World} {g k o : Nat} {v : Value} {c : Int} {h b : Value} (q : ABox W g c h b) (hne : g ≠ k) : ABox (W.setCell ⟨k, o, none⟩ v) g c h b := (heap_setCell_other W ⟨k, o, none⟩ g v hne).trans q
theorem ABox.nextB {W W' : World} {B g : Nat} {c : Int} {h b : Value} (q : ABox W g c h b) (hb : Below B W W') (hg : g < B) : ABox W' g c h b := (hb.block g hg).trans q
theorem ABox.st {W : World} {g : Nat} {c : Int} {h b : Value} (q : ABox W g c h b) (c' : Int) (h' b' : Value) : ABox (((W.setCell ⟨g, 0, none⟩ (.int .i64 c')).setCell ⟨g, 1, none⟩ h').setCell ⟨g, 2, none⟩ b') g c' h' b' := by
 have h1 := heap_setCell_same W g 0 _ _ (.int .i64 c') q
 have h2 := heap_setCell_same _ g 1 _ _ h' h1
 exact heap_setCell_same _ g 2 _ _ b' h2
theorem keep_st3 (W : World) (g : Nat) (a b c : Value) : Keep (fun k => k = g) W (((W.setCell ⟨g, 0, none⟩ a).setCell ⟨g, 1, none⟩ b).setCell ⟨g, 2, none⟩ c) :=
 keepg_trans (keepg_trans (keepg_set W g 0 a) (keepg_set _ g 1 b)) (keepg_set _ g 2 c)
set_option maxRecDepth 100000 in
set_option maxHeartbeats 2000000 in
theorem made_any (c : Int) (ba : Option Addr) (bn bc : Nat) (ha : Option Addr) (hn hc : Nat) (l : List Hd) (bd : List UInt8) (w0 : World) (hh : GAt KH w0 (.slice ha hn hc) l) (hb : GAt KB w0 (.slice ba bn bc) bd) (hf : Fits l) (hl : l.length ≤ 1000) (hbl : bd.length ≤ 1000000) :
   Calls Tryz.prog 67 #[.int .i64 c, .slice ba bn bc, .slice ha hn hc] w0 (fun e w' => ∃ hv bv : Sl, e = .returned (.agg #[.int .i64 c, hv.v, bv.v]) ∧ GRow KH w' w0.heap.size hv.v l ∧ GRow KB w' w0.heap.size bv.v bd ∧ Below w0.heap.size w0 w') := by
 have HB := hideL ((Below.refl w0.heap.size w0).alloc (Nat.le_refl _) (anC 0 (.slice none 0 0) (.slice none 0 0)))
 have HP := hideL (ABox.new w0 0 (.slice none 0 0) (.slice none 0 0))
 have HSZ := hideL (show (w0.alloc (anC 0 (.slice none 0 0) (.slice none 0 0))).heap.size = w0.heap.size + 1 by simp)
 have HH := hideL (hh.below HB.out)
 have HBD := hideL (hb.below HB.out)
 have HF := hideL hf
 have hln := hh.le.1
 have HLN := hideL hln
 have hn1 : hn ≤ 1000 := by omega
 have HHL := hideL hl
 have HBL := hideL hbl
 clear hh hb hf hln hl hbl
 go_enter Tryz.func67, Tryz.ntmps67
 go_wp2_with fail
 generalize w0.alloc (anC 0 (.slice none 0 0) (.slice none 0 0)) = w2 at *
 go_loopw [7, 12] (fun r i wr => ∃ (k : Nat) (rv : Sl), k ≤ hn ∧ i = .int .i64 k ∧ r = rv.v ∧ HidL (GRow KH wr w2.heap.size rv.v (l.take k)) ∧ HidL (Below w2.heap.size w2 wr)) (fun _ i _ => hn - (RowKit.intOf i).toNat)
 case atStart => exact ⟨0, ⟨none, 0, 0⟩, Nat.zero_le _, rfl, rfl, ⟨GRow.nil _ _⟩, ⟨Below.refl _ _⟩⟩
 case round =>
   obtain ⟨k, ⟨ra, rn, rc⟩, hk, rfl, rfl, HR, HB3⟩ := hrel
   obtain ⟨W, rfl⟩ : ∃ W, W = wr := ⟨_, rfl⟩
   simp only [Sl.v] at HR ⊢
   by_cases hlt : k < hn
   · have hlt' : (k : Int) < (hn : Int) := by omega
     have hkl : k < l.length := by have := HLN.out; omega
     obtain ⟨b, o, hao, hbl, hcell⟩ := (HH.out.below HB3.out).at (k := k) hlt
     subst hao
     have htk : l.take (k + 1) = l.take k ++ [l.getD k KH.dft] := by
       rw [List.take_add_one, List.getElem?_eq_getElem hkl]
       simp [List.getD, hkl]
     have hfit := HF.out.get hkl
     have htl : (l.take k).length ≤ 1000 := by rw [List.length_take]; omega
     generalize l.getD k KH.dft = c at *
     obtain ⟨xn, xv⟩ := c
     dsimp only at hfit
     have d0 : W.cell? ⟨b, o + k * 2, none⟩ = some (.string xn) := hcell 0 (by decide)
     have d1 : W.cell? ⟨b, o + k * 2 + 1, none⟩ = some (.string xv) := hcell 1 (by decide)
     have HX := hideL (HBox.new W xn xv)
     have HA := hideL ((Below.refl W.heap.size W).alloc (Nat.le_refl _) (.cells #[.string xn, .string xv] 83))
     have L1 := hideL (clone_any xn (by omega))
     have L2 := hideL (clone_any xv (by omega))
     obtain ⟨WI, hWI⟩ : ∃ x, x = W.alloc (.cells #[.string xn, .string xv] 83) := ⟨_, rfl⟩
     have hwk : IntKind.i64.wrap ((k : Int) + 1) = (k : Int) + 1 := by rw [IntWalk.i64_in _ (by omega)]
     have HTK := hideL htk
     have HTL := hideL htl
     clear hcell hbl hfit htk htl
     go_wp2_with fail
     rw [← hWI] at HX HA ⊢
     clear hWI d0 d1
     refine wp_region_held_drew (S := fun w' => HBox w' W.heap.size xn xv) (by kernel_rfl) HX.out.drew (fun hHeld => ?_)
     refine tl 0 rfl hHeld ?_
     try simp only [pA, pB, pC, pD]
     refine tl 1 rfl hHeld ?_
     try simp only [pA, pB, pC, pD]
     refine tm 2 (v := ?_) rfl hHeld ?_ ?_
     rotate_left
     · intro w hSw; (try dsimp only at hSw); have e0 := hSw.c0; have e1 := hSw.c1; go_simp; first | done | with_reducible rfl
     try simp only [pA, pB, pC, pD]
     refine tl 4 rfl hHeld ?_
     try simp only [pA, pB, pC, pD]
     refine tm 5 (v := ?_) rfl hHeld ?_ ?_
     rotate_left
     · intro w hSw; (try dsimp only at hSw); have e0 := hSw.c0; have e1 := hSw.c1; go_simp; first | done | with_reducible rfl
     try simp only [pA, pB, pC, pD]
     refine wpAnyH_ready (rs := [3]) (by kernel_rfl) (by simp) ?_
     refine aC rfl (fun K hK => ?_)
     clear hHeld
     go_simp
     refine (L1.out _).mono ?_
     rintro e W4 ⟨rfl, hB⟩
     have HX4 := hideL (HX.out.drew.next hB)
     have HA4 := hideL (HA.out.drew.trans (hB.mono HA.out.size))
     clear hB
     refine hK.out _ _ (HX4.out) (fun hHeld => ?_)
     clear hK K
     try simp only [pA, pB, pC, pD]
     refine wpAnyH_ready (rs := [6]) (by kernel_rfl) (by simp) ?_
     refine aC rfl (fun K hK => ?_)
     clear hHeld
     go_simp
     refine (L2.out _).mono ?_
     rintro e W5 ⟨rfl, hB⟩
     have HX5 := hideL (HX4.out.next hB)
     have HA5 := hideL (HA4.out.trans (hB.mono HA4.out.size))
     clear hB
     refine hK.out _ _ (HX5.out) (fun hHeld => ?_)
     clear hK K
     try simp only [pA, pB, pC, pD]
     refine tl 7 rfl hHeld ?_
     try simp only [pA, pB, pC, pD]
     refine wpAnyH_ready (rs := [8]) (by kernel_rfl) (by simp) ?_
     refine aC rfl (fun K hK => ?_)
     clear hHeld
     go_simp
     refine hK.out _ _ ((HX5.out.next ((Below.refl _ _).alloc (Nat.le_refl _) _))) (fun hHeld => ?_)
     clear hK K
     try simp only [pA, pB, pC, pD]
     refine wpAnyH_ready (rs := [9]) (by kernel_rfl) (by simp) ?_
     refine aC rfl (fun K hK => ?_)
     clear hHeld
     rw [if_pos (by rfl)]
     obtain ⟨⟨va, vn, vc⟩, W6, hrun, hr6, hk6⟩ := push_hK W5 w2.heap.size (.slice ra rn rc) (l.take k) (HR.out.below HA5.out) ⟨xn, xv⟩ (by have := HTL.out; omega) (Nat.le_trans HB3.out.size HA5.out.size)
     refine wp_append_runR _ _ _ _ _ rfl rfl _ _ (.slice va vn vc) W6 rfl rfl hrun ?_
     have HX6 := hideL (show HBox W6 W.heap.size xn xv from (hk6.block _ HX5.out.lt (fun e => Nat.lt_irrefl _ (HR.out.lt e))).trans HX5.out)
     rw [← HTK.out] at hr6
     have HR6 := hideL hr6
     have HB6 := hideL ((HB3.out.trans (HA5.out.mono HB3.out.size)).trans (hk6.below (fun q hq => HR.out.ge hq) (Nat.le_trans HB3.out.size HA5.out.size)))
     clear hrun hr6 hk6
     refine hK.out _ _ (HX6.out) (fun hHeld => ?_)
     clear hK K
     try simp only [pA, pB, pC, pD]
     refine tl 10 rfl hHeld ?_
     try simp only [pA, pB, pC, pD]
     refine wpAnyH_done (by kernel_rfl) ?_ _
     clear hHeld
     go_wp2_with fail
     go_roundw
     case rel => exact ⟨k + 1, ⟨va, vn, vc⟩, by omega, by go_num, rfl, HR6, HB6⟩
     case measure => simp [RowKit.intOf]; omega
   · obtain rfl : k = hn := by omega
     have hlt' : ¬ (k : Int) < (k : Int) := by omega
     have hR := HR.out
     rw [List.take_of_length_le (by have := HLN.out; omega)] at hR
     have HR2 := hideL hR
     have HP3 := hideL (HP.out.nextB HB3.out (by have := HSZ.out; omega))
     have LB := hideL (bclone_any (.slice ba bn bc) bd W (HBD.out.below HB3.out) HBL.out)
     clear hR HR
     go_wp2_with (go_at_call 81; refine LB.out.mono ?_; rintro e W5 ⟨⟨ca, cn, cc⟩, rfl, hr5, hB⟩
                  simp only [Sl.v] at hr5 ⊢
                  have HP5 := hideL (HP3.out.next hB)
                  have HR5 := hideL hr5
                  have HA5 := hideL hB
                  have q0 := HP5.out.c0
                  have q1 := HP5.out.c1
                  have q2 := HP5.out.c2
                  have z0 := HP5.out.fz 0
                  have z1 := HP5.out.fz 1
                  have z2 := HP5.out.fz 2
                  clear hr5 hB)
     have hP := HP5.out.st c (.slice ra rn rc) (.slice ca cn cc)
     have r0 := hP.c0
     have r1 := hP.c1
     have r2 := hP.c2
     have kk := keep_st3 W5 w0.heap.size (.int .i64 c) (.slice ra rn rc) (.slice ca cn cc)
     have hzz := HSZ.out
     have hW5 := HA5.out.size
     have hW3 := HB3.out.size
     have fin1 := (HR2.out.below HA5.out).keep kk (fun q hq e => by have := HR2.out.ge hq; have e : q = w0.heap.size := e; omega)
     have fin2 := HR5.out.keep kk (fun q hq e => by have := HR5.out.ge hq; have e : q = w0.heap.size := e; omega)
     have fin3 := (HB.out.trans ((HB3.out.trans (HA5.out.mono HB3.out.size)).mono HB.out.size)).trans (kk.below (B := w0.heap.size) (fun q e => by rw [e]; exact Nat.le_refl _) (by omega))
     exact bodyPost_ret (v := .agg #[.int .i64 c, .slice ra rn rc, .slice ca cn cc]) (by simp [results, Tryz.results67, go_sem, r0, r1, r2]) rfl ⟨⟨ra, rn, rc⟩, ⟨ca, cn, cc⟩, rfl, fin1.base (by omega), fin2.base (by omega), fin3⟩
end Go.Proofs.YtafmgoekgijfgaaGreatDoor
