/- A message in memory of its own: ownRaw. -/
import Derived.Test.YtafmgoekgijfgaaGreatDoorARqM2
import Derived.Test.YtafmgoekgijfgaaGreatDoorARqM4
import Derived.Test.YtafmgoekgijfgaaGreatDoorARqM3
import Derived.Deep.RegionHeld3
namespace Go.Proofs.YtafmgoekgijfgaaGreatDoor
open Go.RowKit Go.Lib

/-- One header more; what else stays. -/
theorem push_hK (W : World) (B : Nat) (v : Value) (l : List Hd) (h : GRow KH W B v l) (c : Hd) (hl : l.length ≤ 1000000) (hB : B ≤ W.heap.size) :
   ∃ v' : Sl, ∃ w', (Builtin.append_ #[24, 24] 24 #[v, .slice (some ⟨W.heap.size, 0, none⟩) 1 1]).run Tryz.prog (W.alloc (.cells #[.string c.n, .string c.v] 83)) = .ok v'.v w' ∧ GRow KH w' B v'.v (l ++ [c]) ∧ Keep (fun k => v.ownBlock = some k) W w' := by
 have hm : (1000001 : Nat) ≤ maxLen := by decide
 have hb := (Below.refl W.heap.size W).alloc (Nat.le_refl _) (.cells #[.string c.n, .string c.v] 83)
 obtain ⟨v', w', h1, h2, h3, _⟩ := append_g (K := KH) (P := Tryz.prog) 24 (.agg #[.string ByteArray.empty, .string ByteArray.empty]) 32 Tryz.underlying24 infoH rfl (W.alloc (.cells #[.string c.n, .string c.v] 83)) B v l (h.below hb) (.slice (some ⟨W.heap.size, 0, none⟩) 1 1) [c] (GAt.box _ _ c (0, 0) (heap_alloc_new W _) 1 (Nat.le_refl _)) (by simp; omega) (by simp; omega) (by simp; omega)
 obtain ⟨a, n, e⟩ := h2.gAt.len
 subst e
 exact ⟨⟨a, _, n⟩, w', h1, h2, (Keep.alloc _ W _).trans h3 (fun _ hx => .inl hx)⟩
/-- A box that holds a message. -/
def QBox (W : World) (g : Nat) (s : ByteArray) (h b : Value) : Prop := W.heap[g]? = some (.cells #[.string s, h, b] 33 (0, 0))
section
variable {W W' : World} {g : Nat} {s : ByteArray} {h b : Value}
theorem QBox.c0 (q : QBox W g s h b) : W.cell? ⟨g, 0, none⟩ = some (.string s) := (cell_of_row W g 0 _ _ _ q).trans rfl
theorem QBox.c1 (q : QBox W g s h b) : W.cell? ⟨g, 1, none⟩ = some h := (cell_of_row W g 1 _ _ _ q).trans rfl
theorem QBox.c2 (q : QBox W g s h b) : W.cell? ⟨g, 2, none⟩ = some b := (cell_of_row W g 2 _ _ _ q).trans rfl
theorem QBox.lt (q : QBox W g s h b) : g < W.heap.size := (Array.getElem?_eq_some_iff.1 q).1
theorem QBox.next (q : QBox W g s h b) (hb : Below W.heap.size W W') : QBox W' g s h b := (hb.block g q.lt).trans q
theorem QBox.nextB {B : Nat} (q : QBox W g s h b) (hb : Below B W W') (hg : g < B) : QBox W' g s h b := (hb.block g hg).trans q
theorem QBox.drew (q : QBox W g s h b) : QBox W.drew g s h b := q
theorem QBox.fz (q : QBox W g s h b) (i : Nat) : W.frozen? ⟨g, i, none⟩ = false := frozen_of_row W g i _ _ q
theorem QBox.other (q : QBox W g s h b) {k o : Nat} {v : Value} (hne : g ≠ k) : QBox (W.setCell ⟨k, o, none⟩ v) g s h b := (heap_setCell_other W ⟨k, o, none⟩ g v hne).trans q
theorem QBox.st (q : QBox W g s h b) (s' : ByteArray) (h' b' : Value) : QBox (((W.setCell ⟨g, 0, none⟩ (.string s')).setCell ⟨g, 1, none⟩ h').setCell ⟨g, 2, none⟩ b') g s' h' b' := by
 have h1 := heap_setCell_same W g 0 _ _ (.string s') q
 have h2 := heap_setCell_same _ g 1 _ _ h' h1
 exact heap_setCell_same _ g 2 _ _ b' h2
end
abbrev rawC (s : ByteArray) (h b : Value) : Obj := .cells #[.string s, h, b] 33
set_option maxRecDepth 100000 in
set_option maxHeartbeats 2000000 in
theorem ownRaw_any (r : RV) (x : Rw) (w : World) (hr : RawAt w r x) (hf : Fits x.heads) (hs : r.s.size ≤ 1000000) (hl : x.heads.length ≤ 1000) (hbl : x.body.length ≤ 1000000) :
   Calls Tryz.prog 46 #[.agg #[.string r.s, r.h.v, r.b.v]] w (fun e w' => ∃ hv bv : Sl, e = .returned (.agg #[.string r.s, hv.v, bv.v]) ∧ GRow KH w' w.heap.size hv.v x.heads ∧ GRow KB w' w.heap.size bv.v x.body ∧ Dis hv.v bv.v ∧ Below w.heap.size w w') := by
 obtain ⟨_, hh, hb⟩ := hr
 obtain ⟨l, hL⟩ : ∃ l, x.heads = l := ⟨_, rfl⟩
 obtain ⟨bd, hBD⟩ : ∃ b, x.body = b := ⟨_, rfl⟩
 rw [hL] at hh hf hl ⊢
 rw [hBD] at hb hbl ⊢
 clear hL hBD
 obtain ⟨s, ⟨ha, hn, hc⟩, ⟨ba, bn, bc⟩⟩ := r
 dsimp only at hs
 simp only [Sl.v] at hh hb ⊢
 have HB1 := (Below.refl w.heap.size w).alloc (Nat.le_refl _) (rawC s (.slice ha hn hc) (.slice ba bn bc))
 have Q1 : QBox (w.alloc (rawC s (.slice ha hn hc) (.slice ba bn bc))) w.heap.size s (.slice ha hn hc) (.slice ba bn bc) := heap_alloc_new w _
 obtain ⟨w1, hw1⟩ : ∃ x, x = w.alloc (rawC s (.slice ha hn hc) (.slice ba bn bc)) := ⟨_, rfl⟩
 have hz : w1.heap.size = w.heap.size + 1 := by rw [hw1, World.size_alloc]
 rw [← hw1] at HB1 Q1
 have HB2 := (Below.refl w1.heap.size w1).alloc (Nat.le_refl _) (rawC ⟨#[]⟩ (.slice none 0 0) (.slice none 0 0))
 have Q2 := Q1.next HB2
 have P2 : QBox (w1.alloc (rawC ⟨#[]⟩ (.slice none 0 0) (.slice none 0 0))) w1.heap.size ⟨#[]⟩ (.slice none 0 0) (.slice none 0 0) := heap_alloc_new w1 _
 obtain ⟨w2, hw2⟩ : ∃ x, x = w1.alloc (rawC ⟨#[]⟩ (.slice none 0 0) (.slice none 0 0)) := ⟨_, rfl⟩
 have hz2 : w2.heap.size = w.heap.size + 2 := by rw [hw2, World.size_alloc, hz]
 rw [← hw2] at HB2 Q2 P2
 rw [hz] at P2
 have HB := hideL (HB1.trans (HB2.mono HB1.size))
 have HQ := hideL Q2
 have HP := hideL P2
 have HH := hideL (hh.below HB.out)
 have HBD := hideL (hb.below HB.out)
 have HF := hideL hf
 have HSZ := hideL hz2
 have hln := hh.le.1
 have HLN := hideL hln
 have c1 := Q2.c1
 have hn1 : hn ≤ 1000 := by omega
 have LS := hideL (clone_any s (by omega))
 have HHL := hideL hl
 have HBL := hideL hbl
 clear hh hb hf hln hl HB1 HB2 Q1 Q2 P2 hs hbl
 go_enter Tryz.func46, Tryz.ntmps46
 go_wp2_with fail
 rw [hw1] at hw2
 rw [← hw2]
 clear hz hw1 hw2 c1 hz2
 go_loopw [3, 9] (fun r i wr => ∃ (k : Nat) (rv : Sl), k ≤ hn ∧ i = .int .i64 k ∧ r = rv.v ∧ HidL (GRow KH wr w2.heap.size rv.v (l.take k)) ∧ HidL (Below w2.heap.size w2 wr)) (fun _ i _ => hn - (RowKit.intOf i).toNat)
 case atStart => exact ⟨0, ⟨none, 0, 0⟩, Nat.zero_le _, rfl, rfl, ⟨GRow.nil _ _⟩, ⟨Below.refl _ _⟩⟩
 case round =>
   obtain ⟨k, ⟨ra, rn, rc⟩, hk, rfl, rfl, HR, HB3⟩ := hrel
   obtain ⟨W, rfl⟩ : ∃ W, W = wr := ⟨_, rfl⟩
   simp only [Sl.v] at HR ⊢
   by_cases hlt : k < hn
   · have hlt' : (k : Int) < (hn : Int) := by omega
     have hkl : k < l.length := by have := HLN.out; omega
     obtain ⟨b, o, hao, hbl, hcell⟩ := (HH.out.below HB3.out).at (k := k) hlt
     subst hao
     have htk : l.take (k + 1) = l.take k ++ [l.getD k KH.dft] := by
       rw [List.take_add_one, List.getElem?_eq_getElem hkl]
       simp [List.getD, hkl]
     have hfit := HF.out.get hkl
     have htl : (l.take k).length ≤ 1000 := by rw [List.length_take]; omega
     generalize l.getD k KH.dft = c at *
     obtain ⟨xn, xv⟩ := c
     dsimp only at hfit
     have d0 : W.cell? ⟨b, o + k * 2, none⟩ = some (.string xn) := hcell 0 (by decide)
     have d1 : W.cell? ⟨b, o + k * 2 + 1, none⟩ = some (.string xv) := hcell 1 (by decide)
     have HX := hideL (HBox.new W xn xv)
     have HA := hideL ((Below.refl W.heap.size W).alloc (Nat.le_refl _) (.cells #[.string xn, .string xv] 83))
     have L1 := hideL (clone_any xn (by omega))
     have L2 := hideL (clone_any xv (by omega))
     obtain ⟨WI, hWI⟩ : ∃ x, x = W.alloc (.cells #[.string xn, .string xv] 83) := ⟨_, rfl⟩
     have HTK := hideL htk
     have HTL := hideL htl
     clear hcell hbl hfit htk htl
     go_wp2_with fail
     rw [← hWI] at HX HA ⊢
     clear hWI d0 d1
     refine wp_region_held_drew (S := fun w' => HBox w' W.heap.size xn xv) (by kernel_rfl) HX.out.drew (fun hHeld => ?_)
     refine tl 0 rfl hHeld ?_
     try simp only [pA, pB, pC, pD]
     refine tl 1 rfl hHeld ?_
     try simp only [pA, pB, pC, pD]
     refine tm 2 (v := ?_) rfl hHeld ?_ ?_
     rotate_left
     · intro w hSw; (try dsimp only at hSw); have e0 := hSw.c0; have e1 := hSw.c1; go_simp; first | done | with_reducible rfl
     try simp only [pA, pB, pC, pD]
     refine tl 4 rfl hHeld ?_
     try simp only [pA, pB, pC, pD]
     refine tm 5 (v := ?_) rfl hHeld ?_ ?_
     rotate_left
     · intro w hSw; (try dsimp only at hSw); have e0 := hSw.c0; have e1 := hSw.c1; go_simp; first | done | with_reducible rfl
     try simp only [pA, pB, pC, pD]
     refine wpAnyH_ready (rs := [3]) (by kernel_rfl) (by simp) ?_
     refine aC rfl (fun K hK => ?_)
     clear hHeld
     go_simp
     refine (L1.out _).mono ?_
     rintro e W4 ⟨rfl, hB⟩
     have HX4 := hideL (HX.out.drew.next hB)
     have HA4 := hideL (HA.out.drew.trans (hB.mono HA.out.size))
     clear hB
     refine hK.out _ _ (HX4.out) (fun hHeld => ?_)
     clear hK K
     try simp only [pA, pB, pC, pD]
     refine wpAnyH_ready (rs := [6]) (by kernel_rfl) (by simp) ?_
     refine aC rfl (fun K hK => ?_)
     clear hHeld
     go_simp
     refine (L2.out _).mono ?_
     rintro e W5 ⟨rfl, hB⟩
     have HX5 := hideL (HX4.out.next hB)
     have HA5 := hideL (HA4.out.trans (hB.mono HA4.out.size))
     clear hB
     refine hK.out _ _ (HX5.out) (fun hHeld => ?_)
     clear hK K
     try simp only [pA, pB, pC, pD]
     refine tl 7 rfl hHeld ?_
     try simp only [pA, pB, pC, pD]
     refine wpAnyH_ready (rs := [8]) (by kernel_rfl) (by simp) ?_
     refine aC rfl (fun K hK => ?_)
     clear hHeld
     go_simp
     refine hK.out _ _ ((HX5.out.next ((Below.refl _ _).alloc (Nat.le_refl _) _))) (fun hHeld => ?_)
     clear hK K
     try simp only [pA, pB, pC, pD]
     refine wpAnyH_ready (rs := [9]) (by kernel_rfl) (by simp) ?_
     refine aC rfl (fun K hK => ?_)
     clear hHeld
     rw [if_pos (by rfl)]
     obtain ⟨⟨va, vn, vc⟩, W6, hrun, hr6, hk6⟩ := push_hK W5 w2.heap.size (.slice ra rn rc) (l.take k) (HR.out.below HA5.out) ⟨xn, xv⟩ (by have := HTL.out; omega) (Nat.le_trans HB3.out.size HA5.out.size)
     refine wp_append_runR _ _ _ _ _ rfl rfl _ _ (.slice va vn vc) W6 rfl rfl hrun ?_
     have HX6 := hideL (show HBox W6 W.heap.size xn xv from (hk6.block _ HX5.out.lt (fun e => Nat.lt_irrefl _ (HR.out.lt e))).trans HX5.out)
     rw [← HTK.out] at hr6
     have HR6 := hideL hr6
     have HB6 := hideL ((HB3.out.trans (HA5.out.mono HB3.out.size)).trans (hk6.below (fun q hq => HR.out.ge hq) (Nat.le_trans HB3.out.size HA5.out.size)))
     clear hrun hr6 hk6
     refine hK.out _ _ (HX6.out) (fun hHeld => ?_)
     clear hK K
     try simp only [pA, pB, pC, pD]
     refine tl 10 rfl hHeld ?_
     try simp only [pA, pB, pC, pD]
     refine wpAnyH_done (by kernel_rfl) ?_ _
     clear hHeld
     go_wp2_with fail
     go_roundw
     case rel => exact ⟨k + 1, ⟨va, vn, vc⟩, by omega, by go_num, rfl, HR6, HB6⟩
     case measure => simp [RowKit.intOf]; omega
   · obtain rfl : k = hn := by omega
     have hlt' : ¬ (k : Int) < (k : Int) := by omega
     have hR := HR.out
     rw [List.take_of_length_le (by have := HLN.out; omega)] at hR
     have HR2 := hideL hR
     have HQ3 := hideL (HQ.out.nextB HB3.out (by have := HSZ.out; omega))
     have HP3 := hideL (HP.out.nextB HB3.out (by have := HSZ.out; omega))
     have LB := hideL (fun (W' : World) (hb : Below W.heap.size W W') => bclone_any (.slice ba bn bc) bd W' ((HBD.out.below HB3.out).below hb) HBL.out)
     clear hR HR
     go_wp2_with fail
     refine wp_region_held_drew (S := fun w' => QBox w' w.heap.size s (.slice ha k hc) (.slice ba bn bc)) (by kernel_rfl) HQ3.out.drew (fun hHeld => ?_)
     refine tl 0 rfl hHeld ?_
     try simp only [pA, pB, pC, pD]
     refine tm 1 (v := ?_) rfl hHeld ?_ ?_
     rotate_left
     · intro w hSw; (try dsimp only at hSw); have e0 := hSw.c0; have e2 := hSw.c2; go_simp; first | done | with_reducible rfl
     try simp only [pA, pB, pC, pD]
     refine tl 3 rfl hHeld ?_
     try simp only [pA, pB, pC, pD]
     refine tl 4 rfl hHeld ?_
     try simp only [pA, pB, pC, pD]
     refine tm 5 (v := ?_) rfl hHeld ?_ ?_
     rotate_left
     · intro w hSw; (try dsimp only at hSw); have e0 := hSw.c0; have e2 := hSw.c2; go_simp; first | done | with_reducible rfl
     try simp only [pA, pB, pC, pD]
     refine wpAnyH_ready (rs := [2]) (by kernel_rfl) (by simp) ?_
     refine aC rfl (fun K hK => ?_)
     clear hHeld
     go_simp
     refine (LS.out _).mono ?_
     rintro e W4 ⟨rfl, hB⟩
     have HQ4 := hideL (HQ3.out.drew.next hB)
     have HA4 := hideL ((Below.refl W.heap.size W).drew.trans hB)
     clear hB
     refine hK.out _ _ (HQ4.out) (fun hHeld => ?_)
     clear hK K
     try simp only [pA, pB, pC, pD]
     refine wpAnyH_ready (rs := [6]) (by kernel_rfl) (by simp) ?_
     refine aC rfl (fun K hK => ?_)
     clear hHeld
     go_simp
     refine (LB.out _ HA4.out).mono ?_
     rintro e W5 ⟨⟨ca, cn, cc⟩, rfl, hr5, hB⟩
     simp only [Sl.v] at hr5 ⊢
     have HQ5 := hideL (HQ4.out.next hB)
     have HA5 := hideL (HA4.out.trans (hB.mono HA4.out.size))
     have HR5 := hideL hr5
     have HP5 := hideL (HP3.out.next HA5.out)
     have p0 := HP5.out.c0
     have p1 := HP5.out.c1
     have p2 := HP5.out.c2
     have f0 := HP5.out.fz 0
     have f1 := HP5.out.fz 1
     have f2 := HP5.out.fz 2
     clear hB hr5
     refine hK.out _ _ (HQ5.out) (fun hHeld => ?_)
     clear hK K
     try simp only [pA, pB, pC, pD]
     refine tl 7 rfl hHeld ?_
     try simp only [pA, pB, pC, pD]
     refine wpAnyH_ready (rs := [8]) (by kernel_rfl) (by simp) ?_
     refine aC rfl (fun K hK => ?_)
     clear hHeld
     go_simp
     refine hK.out _ _ ((((HQ5.out.other (Nat.ne_of_lt (Nat.lt_succ_self _))).other (Nat.ne_of_lt (Nat.lt_succ_self _))).other (Nat.ne_of_lt (Nat.lt_succ_self _)))) (fun hHeld => ?_)
     clear hK K
     try simp only [Act.put]
     refine wpAnyH_done (by kernel_rfl) ?_ _
     clear hHeld
     go_wp2_with fail
     have hP := HP5.out.st s (.slice ra rn rc) (.slice ca cn cc)
     have r0 := hP.c0
     have r1 := hP.c1
     have r2 := hP.c2
     have kk : Keep (fun q => q = w.heap.size + 1) W5 _ := keepg_trans (keepg_trans (keepg_set W5 (w.heap.size + 1) 0 (.string s)) (keepg_set _ (w.heap.size + 1) 1 (.slice ra rn rc))) (keepg_set _ (w.heap.size + 1) 2 (.slice ca cn cc))
     have hzz := HSZ.out
     have hW5 := HA5.out.size
     have hW3 := HB3.out.size
     have fin1 := (HR2.out.below HA5.out).keep kk (fun q hq e => by have := HR2.out.ge hq; have e : q = w.heap.size + 1 := e; omega)
     have fin2 := HR5.out.keep kk (fun q hq e => by have := HR5.out.ge hq; have := HA4.out.size; have e : q = w.heap.size + 1 := e; omega)
     have fin3 := (HB.out.trans ((HB3.out.trans (HA5.out.mono HB3.out.size)).mono HB.out.size)).trans (kk.below (B := w.heap.size) (fun q e => by rw [e]; omega) (by omega))
     have fin4 : Dis (.slice ra rn rc) (.slice ca cn cc) := fun q h1 h2 => by
       have := HR2.out.lt h1
       have := HR5.out.ge h2
       have := HA4.out.size
       omega
     exact bodyPost_ret (v := .agg #[.string s, .slice ra rn rc, .slice ca cn cc]) (by simp [results, Tryz.results46, go_sem, r0, r1, r2]) rfl ⟨⟨ra, rn, rc⟩, ⟨ca, cn, cc⟩, rfl, fin1.base (by omega), fin2.base (by have := HA4.out.size; omega), fin4, fin3⟩
end Go.Proofs.YtafmgoekgijfgaaGreatDoor
