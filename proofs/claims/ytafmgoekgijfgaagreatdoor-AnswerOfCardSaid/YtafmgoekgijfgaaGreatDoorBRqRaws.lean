/- Idle, Raws. -/
import Derived.Test.YtafmgoekgijfgaaGreatDoorBRqFeed
namespace Go.Proofs.YtafmgoekgijfgaaGreatDoor
open Go.RowKit Go.Lib

abbrev psO7 (s : Ps) (lv hv bv : Sl) : Obj := .cells #[.int .i64 s.phase, lv.v, .string (bo s.start), hv.v, bv.v, .int .i64 s.left, .int .i64 s.err] 101
theorem ps_box (w : World) (s : Ps) (lv hv bv : Sl) : RBox7 101 (w.alloc (psO7 s lv hv bv)) w.heap.size (.int .i64 s.phase) lv.v (.string (bo s.start)) hv.v bv.v (.int .i64 s.left) (.int .i64 s.err) := heap_alloc_new w _
set_option maxRecDepth 100000 in
set_option maxHeartbeats 1000000 in
theorem idle_any (s : Ps) (lv hv bv : Sl) (w : World) (gl : GAt KB w lv.v s.line) (gh : GAt KH w hv.v s.heads) (gb : GAt KB w bv.v s.body) (hl : liveP s) (hg : goodS s) : Calls Tryz.prog 70 #[PsV s lv hv bv] w fun e w' => e = .returned (.bool (idleP s)) ∧ Below w.heap.size w w' := by
 have hx := ps_box w s lv hv bv
 have HB := hideL ((Below.refl w.heap.size w).alloc (Nat.le_refl _) (psO7 s lv hv bv))
 have c0 := hx.c0
 have c1 := hx.c1
 have c2 := hx.c2
 have c3 := hx.c3
 have c4 := hx.c4
 have c5 := hx.c5
 have c6 := hx.c6
 have g1 := hg.line
 have g2 := hg.body
 have g3 := hg.start
 have g4 := mayH_len hg.heads
 have hsz : (bo s.start).size = s.start.length := bo_size _
 unfold idleP
 obtain ⟨la, ln, lc⟩ := lv
 obtain ⟨ha, hn, hc⟩ := hv
 obtain ⟨ba, bn, bc⟩ := bv
 have n1 : ln = s.line.length := gl.le.1
 have n3 : hn = s.heads.length := gh.le.1
 have n4 : bn = s.body.length := gb.le.1
 have hsq : (bo s.start).size = s.start.length := bo_size _
 obtain ⟨S, hS⟩ : ∃ S, bo s.start = S := ⟨_, rfl⟩
 simp only [Sl.v, PsV, psO7] at c0 c1 c2 c3 c4 c5 c6 HB ⊢
 rw [hS] at c0 c1 c2 c3 c4 c5 c6 HB hsq ⊢
 obtain ⟨z, hz⟩ : ∃ z, S.size = z := ⟨_, rfl⟩
 have q1 : ln ≤ 2000 := by omega
 have q2 : z ≤ 2000 := by omega
 have q3 : hn ≤ 2000 := by omega
 have q4 : bn ≤ 2000 := by omega
 have HN := hideL n1
 by_cases he : s.err = 0
 · have b6 : ((s.err : Int) == 0) = true := by rw [he]; rfl
   by_cases hp : s.phase = 0
   · have b0 : ((s.phase : Int) == 0) = true := by rw [hp]; rfl
     have hz0 := hg.left (by omega) (by omega)
     have b5 : ((s.left : Int) == 0) = true := by rw [hz0]; rfl
     obtain ⟨j1, j2, j3⟩ := (hl he).2.2.2.1 hp
     have z0 : z = 0 := by rw [← hz, hsq, j1]; rfl
     have h0 : hn = 0 := by rw [n3, j2]; rfl
     have k0 : bn = 0 := by rw [n4, j3]; rfl
     subst h0 k0
     rw [z0] at hz
     by_cases hln : s.line = []
     · have l0 : ln = 0 := by rw [n1, hln]; rfl
       subst l0
       rw [decide_eq_true ⟨he, hp, hln⟩]
       clear he hp hz0 j1 j2 j3 hln hx gl gh gb hl hg g1 g2 g3 g4 n1 n3 n4 hsz hsq q1 q2 q3 q4 z0 HN
       go_enter Tryz.func70, Tryz.ntmps70
       go_wp2
       go_ret
       exact ⟨rfl, HB.out⟩
     · have b1 : ((ln : Int) == 0) = false := beq_eq_false_iff_ne.2 (fun e => hln (List.eq_nil_of_length_eq_zero (by omega)))
       have b2 : decide (ln = 0) = false := decide_eq_false (fun e => hln (List.eq_nil_of_length_eq_zero (by omega)))
       rw [decide_eq_false (fun h => hln h.2.2)]
       clear he hp hz0 j1 j2 j3 hln hx gl gh gb hl hg g1 g2 g3 g4 n1 n3 n4 hsz hsq q2 q3 q4 z0 HN
       go_enter Tryz.func70, Tryz.ntmps70
       go_wp2
       go_ret
       exact ⟨rfl, HB.out⟩
   · have b0 : ((s.phase : Int) == 0) = false := beq_eq_false_iff_ne.2 (by omega)
     rw [decide_eq_false (fun h => hp h.2.1)]
     clear he hp hx gl gh gb hl hg g1 g2 g3 g4 n1 n3 n4 hsz hsq HN
     go_enter Tryz.func70, Tryz.ntmps70
     go_wp2
     go_ret
     exact ⟨rfl, HB.out⟩
 · have b6 : ((s.err : Int) == 0) = false := beq_eq_false_iff_ne.2 (by omega)
   rw [decide_eq_false (fun h => he h.1)]
   clear he hx gl gh gb hl hg g1 g2 g3 g4 n1 n3 n4 hsz hsq HN
   go_enter Tryz.func70, Tryz.ntmps70
   go_wp2
   go_ret
   exact ⟨rfl, HB.out⟩
/-- What Raws answers. -/
def rawE (b : List UInt8) : Nat := if (rowP b).2.1 = true then 0 else if (rowP b).2.2 = 0 then 2 else (rowP b).2.2
def rawL (b : List UInt8) : List Rw := if (rowP b).2.1 = true then (rowP b).1 else []
set_option maxRecDepth 100000 in
set_option maxHeartbeats 1000000 in
theorem raws_any (v : Value) (b : List UInt8) (w : World) (gv : GAt KB w v b) (hbl : b.length ≤ 200000) (hE : Env w) (hS : EnvS w) :
   Calls Tryz.prog 37 #[v] w fun e w' => ∃ wv : Sl, e = .returned (.tuple #[wv.v, .int .i64 (rawE b)]) ∧ RawsNew 33 w' w.heap.size wv.v (rawL b) ∧ Below w.heap.size w w' := by
 have LN := hideL new_any
 have LF : HidL (∀ W, Below w.heap.size w W → Calls Tryz.prog 68 #[psA 0 ⟨#[]⟩ 0 0, v] W (FeedPost W new0 b)) := ⟨fun W hb => feed_any new0 sl0 sl0 sl0 v b W (GAt.nil W) (GAt.nil W) (GAt.nil W) (gv.below hb) hbl live_new good_new (hE.next hb) (hS.next hb)⟩
 have hlv := (con_run b live_new).1
 have hgd := (good_run b live_new good_new).1
 have hrr := run_row b
 unfold rawE rawL
 rw [hrr]
 simp only
 obtain ⟨⟨sf, xf⟩, hr⟩ : ∃ r, runP new0 b = r := ⟨_, rfl⟩
 unfold FeedPost at LF
 rw [hr] at hlv hgd LF ⊢
 simp only at hlv hgd LF ⊢
 obtain ⟨vo, vc, rfl⟩ := gv.len
 have HLV := hideL hlv
 have HGD := hideL hgd
 clear gv hbl hE hS hlv hgd hrr hr
 obtain ⟨id, hid⟩ : ∃ x, idleP sf = x := ⟨_, rfl⟩
 rw [hid]
 have HID := hideL hid
 clear hid
 cases id with
 | true =>
   rw [if_pos rfl, if_pos rfl]
   go_enter Tryz.func37, Tryz.ntmps37
   go_wp2_with (first
     | (go_at_call 69; refine (LN.out _).mono ?_; rintro e w2 ⟨rfl, hB⟩; have HB2 := hideL hB; clear hB)
     | (go_at_call 68; refine (LF.out _ HB2.out).mono ?_; rintro e w3 ⟨pv, ⟨wa, wn, wc⟩, rfl, ⟨⟨la, ln, lc⟩, ⟨ha, hn, hc⟩, ⟨ba, bn, bc⟩, rfl, g1, g2, g3, _⟩, hrw, hB⟩
        have hA := (Below.refl w3.heap.size w3).alloc (Nat.le_refl _) (psO7 sf ⟨la, ln, lc⟩ ⟨ha, hn, hc⟩ ⟨ba, bn, bc⟩)
        have hx := ps_box w3 sf ⟨la, ln, lc⟩ ⟨ha, hn, hc⟩ ⟨ba, bn, bc⟩
        have HB4 := hideL HB2.out
        have HB5 := hideL ((HB2.out.trans (hB.mono HB2.out.size)).trans (hA.mono (Nat.le_trans HB2.out.size hB.size)))
        have LI := idle_any sf ⟨la, ln, lc⟩ ⟨ha, hn, hc⟩ ⟨ba, bn, bc⟩ (w3.alloc (psO7 sf ⟨la, ln, lc⟩ ⟨ha, hn, hc⟩ ⟨ba, bn, bc⟩)) (g1.below hA) (g2.below hA) (g3.below hA) HLV.out HGD.out
        rw [HID.out] at LI
        have HRW := hideL (hrw.below hA)
        have d0 := hx.c0
        have d1 := hx.c1
        have d2 := hx.c2
        have d3 := hx.c3
        have d4 := hx.c4
        have d5 := hx.c5
        have d6 := hx.c6
        have HX := hideL hx
        simp only [Sl.v, PsV, psO7] at d0 d1 d2 d3 d4 d5 d6 LI HB5 HRW ⊢
        have LI := hideL LI
        clear hB hA hx g1 g2 g3 hrw)
     | (go_at_call 70; refine LI.out.mono ?_; rintro e w4 ⟨rfl, hB⟩
        have e5 := (HX.out.next hB).c6
        clear d0 d1 d2 d3 d4 d5 d6))
   go_ret2
   exact ⟨⟨wa, wn, wc⟩, rfl, (HRW.out.below hB).base HB4.out.size, HB5.out.trans (hB.mono HB5.out.size)⟩
 | false =>
   rw [if_neg Bool.false_ne_true, if_neg Bool.false_ne_true]
   by_cases he : sf.err = 0
   · have e6 : ((sf.err : Int) == 0) = true := by rw [he]; rfl
     rw [if_pos he]
     clear he
     go_enter Tryz.func37, Tryz.ntmps37
     go_wp2_with (first
       | (go_at_call 69; refine (LN.out _).mono ?_; rintro e w2 ⟨rfl, hB⟩; have HB2 := hideL hB; clear hB)
       | (go_at_call 68; refine (LF.out _ HB2.out).mono ?_; rintro e w3 ⟨pv, ⟨wa, wn, wc⟩, rfl, ⟨⟨la, ln, lc⟩, ⟨ha, hn, hc⟩, ⟨ba, bn, bc⟩, rfl, g1, g2, g3, _⟩, hrw, hB⟩
          have hA := (Below.refl w3.heap.size w3).alloc (Nat.le_refl _) (psO7 sf ⟨la, ln, lc⟩ ⟨ha, hn, hc⟩ ⟨ba, bn, bc⟩)
          have hx := ps_box w3 sf ⟨la, ln, lc⟩ ⟨ha, hn, hc⟩ ⟨ba, bn, bc⟩
          have HB4 := hideL HB2.out
          have HB5 := hideL ((HB2.out.trans (hB.mono HB2.out.size)).trans (hA.mono (Nat.le_trans HB2.out.size hB.size)))
          have LI := idle_any sf ⟨la, ln, lc⟩ ⟨ha, hn, hc⟩ ⟨ba, bn, bc⟩ (w3.alloc (psO7 sf ⟨la, ln, lc⟩ ⟨ha, hn, hc⟩ ⟨ba, bn, bc⟩)) (g1.below hA) (g2.below hA) (g3.below hA) HLV.out HGD.out
          rw [HID.out] at LI
          have HRW := hideL (hrw.below hA)
          have d0 := hx.c0
          have d1 := hx.c1
          have d2 := hx.c2
          have d3 := hx.c3
          have d4 := hx.c4
          have d5 := hx.c5
          have d6 := hx.c6
          have HX := hideL hx
          simp only [Sl.v, PsV, psO7] at d0 d1 d2 d3 d4 d5 d6 LI HB5 HRW ⊢
          have LI := hideL LI
          clear hB hA hx g1 g2 g3 hrw)
       | (go_at_call 70; refine LI.out.mono ?_; rintro e w4 ⟨rfl, hB⟩
          have e5 := (HX.out.next hB).c6
          clear d0 d1 d2 d3 d4 d5 d6))
     go_ret2
     exact ⟨sl0, rfl, RawsNew.nil _ _ _, HB5.out.trans (hB.mono HB5.out.size)⟩
   · have e6 : ((sf.err : Int) == 0) = false := beq_eq_false_iff_ne.2 (by omega)
     rw [if_neg he]
     clear he
     go_enter Tryz.func37, Tryz.ntmps37
     go_wp2_with (first
       | (go_at_call 69; refine (LN.out _).mono ?_; rintro e w2 ⟨rfl, hB⟩; have HB2 := hideL hB; clear hB)
       | (go_at_call 68; refine (LF.out _ HB2.out).mono ?_; rintro e w3 ⟨pv, ⟨wa, wn, wc⟩, rfl, ⟨⟨la, ln, lc⟩, ⟨ha, hn, hc⟩, ⟨ba, bn, bc⟩, rfl, g1, g2, g3, _⟩, hrw, hB⟩
          have hA := (Below.refl w3.heap.size w3).alloc (Nat.le_refl _) (psO7 sf ⟨la, ln, lc⟩ ⟨ha, hn, hc⟩ ⟨ba, bn, bc⟩)
          have hx := ps_box w3 sf ⟨la, ln, lc⟩ ⟨ha, hn, hc⟩ ⟨ba, bn, bc⟩
          have HB4 := hideL HB2.out
          have HB5 := hideL ((HB2.out.trans (hB.mono HB2.out.size)).trans (hA.mono (Nat.le_trans HB2.out.size hB.size)))
          have LI := idle_any sf ⟨la, ln, lc⟩ ⟨ha, hn, hc⟩ ⟨ba, bn, bc⟩ (w3.alloc (psO7 sf ⟨la, ln, lc⟩ ⟨ha, hn, hc⟩ ⟨ba, bn, bc⟩)) (g1.below hA) (g2.below hA) (g3.below hA) HLV.out HGD.out
          rw [HID.out] at LI
          have HRW := hideL (hrw.below hA)
          have d0 := hx.c0
          have d1 := hx.c1
          have d2 := hx.c2
          have d3 := hx.c3
          have d4 := hx.c4
          have d5 := hx.c5
          have d6 := hx.c6
          have HX := hideL hx
          simp only [Sl.v, PsV, psO7] at d0 d1 d2 d3 d4 d5 d6 LI HB5 HRW ⊢
          have LI := hideL LI
          clear hB hA hx g1 g2 g3 hrw)
       | (go_at_call 70; refine LI.out.mono ?_; rintro e w4 ⟨rfl, hB⟩
          have e5 := (HX.out.next hB).c6
          clear d0 d1 d2 d3 d4 d5 d6))
     go_region_with fail
     all_goals go_wp2_with fail
     all_goals go_ret2
     all_goals exact ⟨sl0, rfl, RawsNew.nil _ _ _, (HB5.out.trans (hB.mono HB5.out.size)).drew⟩
end Go.Proofs.YtafmgoekgijfgaaGreatDoor
