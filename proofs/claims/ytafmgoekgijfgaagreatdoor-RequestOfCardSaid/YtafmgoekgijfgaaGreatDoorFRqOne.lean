/- One: the one request that bytes are. -/
import Derived.Test.YtafmgoekgijfgaaGreatDoorFRqRaws
import Derived.Test.YtafmgoekgijfgaaGreatDoorFRqOfP
namespace Go.Proofs.YtafmgoekgijfgaaGreatDoor
open Go.RowKit Go.Lib

theorem row_good (b : List UInt8) : ∀ x ∈ (rowP b).1, goodR x := by
 rw [run_row]
 exact (good_run b live_new good_new).2
theorem row_idle {b : List UInt8} (h : (rowP b).2.1 = true) : (rowP b).2.2 = 0 := by
 rw [run_row] at h ⊢
 unfold idleP at h
 exact (of_decide_eq_true h).1
theorem one_e {b : List UInt8} (h : rawE b ≠ 0) : oneP b = (rawE b, none) := by
 unfold rawE at h ⊢
 unfold oneP
 by_cases hi : (rowP b).2.1 = true
 · rw [if_pos hi] at h; exact absurd rfl h
 rw [if_neg hi]
 by_cases he : (rowP b).2.2 = 0
 · rw [if_pos he, if_neg (fun h => h he)]
   have : (rowP b).2.1 = false := by simpa using hi
   rw [this]
 · rw [if_neg he, if_pos he]
theorem one_l {b : List UInt8} (h : rawE b = 0) : oneP b = (match rawL b with
 | [x] => match ofRP x with
   | some r => (0, some r)
   | none => (2, none)
 | _ => (2, none)) ∧ rawL b = (rowP b).1 := by
 have hi : (rowP b).2.1 = true := by
   unfold rawE at h
   by_cases hi : (rowP b).2.1 = true
   · exact hi
   rw [if_neg hi] at h
   split at h
   · cases h
   · rename_i he; exact absurd h he
 have he := row_idle hi
 unfold rawL oneP
 rw [if_pos hi, if_neg (fun h => h he), hi]
 refine ⟨?_, rfl⟩
 split
 · rename_i x hx _ h2
   rw [h2]
   rfl
 · rename_i hx
   split
   · rename_i x h2
     exact absurd h2 (hx x rfl)
   · rfl
theorem raw_at {w : World} {B : Nat} {wv : Sl} {x : Rw} (h : RawsNew 33 w B wv.v [x]) : wv.n = 1 ∧ ∃ b o c, ∃ r : RV, wv = ⟨some ⟨b, o, none⟩, 1, c⟩ ∧ w.cell? ⟨b, o, none⟩ = some (.string r.s) ∧ w.cell? ⟨b, o + 1, none⟩ = some r.h.v ∧ w.cell? ⟨b, o + 2, none⟩ = some r.b.v ∧ RawAt w r x := by
 obtain ⟨a, n, c⟩ := wv
 have hat := h.at
 obtain ⟨ao, cap, e⟩ := hat.len
 simp only [Sl.v] at e hat
 injection e with e1 e2 e3
 subst e1 e2 e3
 obtain ⟨b, o, r, he, _, h0, h1, h2, h3⟩ := hat.at (k := 0) Nat.zero_lt_one
 subst he
 exact ⟨rfl, b, o, _, r, rfl, by simpa using h0, by simpa using h1, by simpa using h2, h3⟩
theorem one_no : ∀ ys : List Rw, ys.length ≠ 1 → (match ys with
 | [x] => match ofRP x with
   | some r => (0, some r)
   | none => (2, none)
 | _ => (2, none)) = ((2, none) : Nat × Option Rq)
 | [], _ => rfl
 | [_], h => absurd rfl h
 | _ :: _ :: _, _ => rfl
/-- What One answers. -/
def OnePost (w : World) (b : List UInt8) (e : Ending) (w' : World) : Prop := (match oneP b with
 | (_, some q) => ∃ v : QV, e = .returned (.tuple #[v.v, .int .i64 0]) ∧ ReqAt w' v q ∧ ReqGe w.heap.size v
 | (n, none) => e = .returned (.tuple #[.agg #[.string ⟨#[]⟩, .string ⟨#[]⟩, .string ⟨#[]⟩, .string ⟨#[]⟩, .string ⟨#[]⟩, .slice none 0 0, .slice none 0 0], .int .i64 n])) ∧ Below w.heap.size w w'
theorem rq_new (w : World) : RBox7 26 (w.alloc rqO) w.heap.size (.string ⟨#[]⟩) (.string ⟨#[]⟩) (.string ⟨#[]⟩) (.string ⟨#[]⟩) (.string ⟨#[]⟩) (.slice none 0 0) (.slice none 0 0) := heap_alloc_new w _
set_option maxRecDepth 100000 in
set_option maxHeartbeats 2000000 in
theorem one_any (v : Value) (b : List UInt8) (w : World) (gv : GAt KB w v b) (hbl : b.length ≤ 200000) (hE : Env w) (hS : EnvS w) : Calls Tryz.prog 9 #[v] w (OnePost w b) := by
 have HB1 := hideL ((Below.refl w.heap.size w).alloc (Nat.le_refl _) rqO)
 have HX := hideL (rq_new w)
 have LR := raws_any v b (w.alloc rqO) (gv.below HB1.out) hbl (hE.next HB1.out) (hS.next HB1.out)
 have HE := hideL hE
 have HES := hideL hS
 have hgood := row_good b
 unfold OnePost
 obtain ⟨vo, vc, rfl⟩ := gv.len
 by_cases h0 : rawE b = 0
 · obtain ⟨h1, h2⟩ := one_l h0
   rw [h1]
   rw [← h2] at hgood
   rw [h0] at LR
   obtain ⟨xs, hxs⟩ : ∃ xs, rawL b = xs := ⟨_, rfl⟩
   rw [hxs] at LR hgood ⊢
   have LR := hideL LR
   clear gv hbl hE hS h0 h1 h2 hxs
   by_cases hl : xs.length = 1
   · obtain ⟨x, rfl⟩ : ∃ x, xs = [x] := List.length_eq_one_iff.1 hl
     simp only
     obtain ⟨g1, g2, g3⟩ := hgood x (by simp)
     have LO := fun (r : RV) (W : World) (hb : Below w.heap.size w W) (hr : RawAt W r x) => of_any r x W hr (good_fits g1) (by rw [← size_list, hr.1]; omega) (by have := mayH_len g1; omega) (by omega) (HE.out.next hb) (HES.out.next hb)
     unfold OfPost at LO
     clear hgood hl g1 g2 g3
     cases ho : ofRP x with
     | none =>
       simp only [ho] at LO
       have LO := hideL LO
       clear ho
       go_enter Tryz.func9, Tryz.ntmps9
       go_wp2_with (first
             | (go_at_call 37; refine LR.out.mono ?_; rintro e w3 ⟨wv, rfl, hrw, hB⟩
                obtain ⟨_, b0, o0, c0, ⟨rs, ⟨rha, rhn, rhc⟩, ⟨rba, rbn, rbc⟩⟩, rfl, k0, k1, k2, hra⟩ := raw_at hrw
                have HX3 := hideL (HX.out.next hB)
                have HB3 := hideL (HB1.out.trans (hB.mono HB1.out.size))
                have HRA := hideL hra
                simp only [Sl.v] at k1 k2 ⊢
                clear hB hrw hra)
             | (go_at_call 13; have LO2 := LO.out ⟨rs, ⟨rha, rhn, rhc⟩, ⟨rba, rbn, rbc⟩⟩ _ HB3.out HRA.out; simp only [Sl.v] at LO2; refine LO2.mono ?_; clear LO2
                rintro e w4 ⟨rfl, hB⟩
                have HX4 := hideL (HX3.out.next hB)
                have q0 := HX4.out.c0
                have q1 := HX4.out.c1
                have q2 := HX4.out.c2
                have q3 := HX4.out.c3
                have q4 := HX4.out.c4
                have q5 := HX4.out.c5
                have q6 := HX4.out.c6
                have z0 := HX4.out.fz 0
                have z1 := HX4.out.fz 1
                have z2 := HX4.out.fz 2
                have z3 := HX4.out.fz 3
                have z4 := HX4.out.fz 4
                have z5 := HX4.out.fz 5
                have z6 := HX4.out.fz 6
                have HB4 := hideL (HB3.out.trans (hB.mono HB3.out.size))
                clear hB))
       exact bodyPost_ret (v := .tuple #[.agg #[.string ⟨#[]⟩, .string ⟨#[]⟩, .string ⟨#[]⟩, .string ⟨#[]⟩, .string ⟨#[]⟩, .slice none 0 0, .slice none 0 0], .int .i64 2]) (by
         have hy := HX4.out.st7 (.string ⟨#[]⟩) (.string ⟨#[]⟩) (.string ⟨#[]⟩) (.string ⟨#[]⟩) (.string ⟨#[]⟩) (.slice none 0 0) (.slice none 0 0)
         have r0 := hy.c0
         have r1 := hy.c1
         have r2 := hy.c2
         have r3 := hy.c3
         have r4 := hy.c4
         have r5 := hy.c5
         have r6 := hy.c6
         simp [results, Tryz.results9, go_sem, r0, r1, r2, r3, r4, r5, r6]) rfl ⟨rfl, below_st7 HB4.out (Nat.le_refl _)⟩
     | some q =>
       simp only [ho] at LO
       have LO := hideL LO
       clear ho
       go_enter Tryz.func9, Tryz.ntmps9
       go_wp2_with (first
             | (go_at_call 37; refine LR.out.mono ?_; rintro e w3 ⟨wv, rfl, hrw, hB⟩
                obtain ⟨_, b0, o0, c0, ⟨rs, ⟨rha, rhn, rhc⟩, ⟨rba, rbn, rbc⟩⟩, rfl, k0, k1, k2, hra⟩ := raw_at hrw
                have HX3 := hideL (HX.out.next hB)
                have HB3 := hideL (HB1.out.trans (hB.mono HB1.out.size))
                have HRA := hideL hra
                simp only [Sl.v] at k1 k2 ⊢
                clear hB hrw hra)
             | (go_at_call 13; have LO2 := LO.out ⟨rs, ⟨rha, rhn, rhc⟩, ⟨rba, rbn, rbc⟩⟩ _ HB3.out HRA.out; simp only [Sl.v] at LO2; refine LO2.mono ?_; clear LO2
                rintro e w4 ⟨⟨⟨qm, qt, qp, qq, qo, ⟨ha, hn, hc⟩, ⟨ba, bn, bc⟩⟩, rfl, hq, hg⟩, hB⟩
                simp only [Sl.v, QV.v] at hq hg ⊢
                have HX4 := hideL (HX3.out.next hB)
                have q0 := HX4.out.c0
                have q1 := HX4.out.c1
                have q2 := HX4.out.c2
                have q3 := HX4.out.c3
                have q4 := HX4.out.c4
                have q5 := HX4.out.c5
                have q6 := HX4.out.c6
                have z0 := HX4.out.fz 0
                have z1 := HX4.out.fz 1
                have z2 := HX4.out.fz 2
                have z3 := HX4.out.fz 3
                have z4 := HX4.out.fz 4
                have z5 := HX4.out.fz 5
                have z6 := HX4.out.fz 6
                have HB4 := hideL (HB3.out.trans (hB.mono HB3.out.size))
                have HQ := hideL hq
                have HGE := hideL hg
                clear hB hq hg))
       have hy := HX4.out.st7 (.string qm) (.string qt) (.string qp) (.string qq) (.string qo) (.slice ha hn hc) (.slice ba bn bc)
       have r0 := hy.c0
       have r1 := hy.c1
       have r2 := hy.c2
       have r3 := hy.c3
       have r4 := hy.c4
       have r5 := hy.c5
       have r6 := hy.c6
       have kk := keepg_st7 w4 w.heap.size (.string qm) (.string qt) (.string qp) (.string qq) (.string qo) (.slice ha hn hc) (.slice ba bn bc)
       obtain ⟨z1, z2, z3, z4, z5, z6, z7⟩ := HQ.out
       have hz3 := HX3.out.lt
       have f1 := z6.keep kk (fun q hq e => by have := HGE.out.1 q hq; have e : q = w.heap.size := e; omega)
       have f2 := z7.keep kk (fun q hq e => by have := HGE.out.2 q hq; have e : q = w.heap.size := e; omega)
       exact bodyPost_ret (v := .tuple #[.agg #[.string qm, .string qt, .string qp, .string qq, .string qo, .slice ha hn hc, .slice ba bn bc], .int .i64 0]) (by simp [results, Tryz.results9, go_sem, r0, r1, r2, r3, r4, r5, r6]) rfl ⟨⟨⟨qm, qt, qp, qq, qo, ⟨ha, hn, hc⟩, ⟨ba, bn, bc⟩⟩, rfl, ⟨z1, z2, z3, z4, z5, f1, f2⟩, fun q hq => Nat.le_trans HB3.out.size (HGE.out.1 q hq), fun q hq => Nat.le_trans HB3.out.size (HGE.out.2 q hq)⟩, below_st7 HB4.out (Nat.le_refl _)⟩
   · rw [one_no xs hl]
     simp only
     have HL := hideL hl
     clear hgood hl
     go_enter Tryz.func9, Tryz.ntmps9
     go_wp2_with (go_at_call 37; refine LR.out.mono ?_; rintro e w3 ⟨⟨wa, wn, wc⟩, rfl, hrw, hB⟩
                  have hwn : wn = xs.length := by
                    obtain ⟨ao, cap, e⟩ := hrw.at.len
                    injection e
                  have i1 : ((wn : Int) != 1) = true := by rw [bne_iff_ne]; intro e; exact HL.out (by omega)
                  have HX4 := hideL (HX.out.next hB)
                  have q0 := HX4.out.c0
                  have q1 := HX4.out.c1
                  have q2 := HX4.out.c2
                  have q3 := HX4.out.c3
                  have q4 := HX4.out.c4
                  have q5 := HX4.out.c5
                  have q6 := HX4.out.c6
                  have z0 := HX4.out.fz 0
                  have z1 := HX4.out.fz 1
                  have z2 := HX4.out.fz 2
                  have z3 := HX4.out.fz 3
                  have z4 := HX4.out.fz 4
                  have z5 := HX4.out.fz 5
                  have z6 := HX4.out.fz 6
                  have HB4 := hideL (HB1.out.trans (hB.mono HB1.out.size))
                  simp only [Sl.v]
                  clear hB hrw hwn)
     exact bodyPost_ret (v := .tuple #[.agg #[.string ⟨#[]⟩, .string ⟨#[]⟩, .string ⟨#[]⟩, .string ⟨#[]⟩, .string ⟨#[]⟩, .slice none 0 0, .slice none 0 0], .int .i64 2]) (by
       have hy := HX4.out.st7 (.string ⟨#[]⟩) (.string ⟨#[]⟩) (.string ⟨#[]⟩) (.string ⟨#[]⟩) (.string ⟨#[]⟩) (.slice none 0 0) (.slice none 0 0)
       have r0 := hy.c0
       have r1 := hy.c1
       have r2 := hy.c2
       have r3 := hy.c3
       have r4 := hy.c4
       have r5 := hy.c5
       have r6 := hy.c6
       simp [results, Tryz.results9, go_sem, r0, r1, r2, r3, r4, r5, r6]) rfl ⟨rfl, below_st7 HB4.out (Nat.le_refl _)⟩
 · rw [one_e h0]
   simp only
   obtain ⟨n, hn⟩ : ∃ n, rawE b = n := ⟨_, rfl⟩
   rw [hn] at LR h0 ⊢
   have i0 : ((n : Int) != 0) = true := by rw [bne_iff_ne]; omega
   have LR := hideL LR
   clear gv hbl hE hS hgood hn h0
   go_enter Tryz.func9, Tryz.ntmps9
   go_wp2_with (go_at_call 37; refine LR.out.mono ?_; rintro e w3 ⟨⟨wa, wn, wc⟩, rfl, hrw, hB⟩
                have HX4 := hideL (HX.out.next hB)
                have q0 := HX4.out.c0
                have q1 := HX4.out.c1
                have q2 := HX4.out.c2
                have q3 := HX4.out.c3
                have q4 := HX4.out.c4
                have q5 := HX4.out.c5
                have q6 := HX4.out.c6
                have z0 := HX4.out.fz 0
                have z1 := HX4.out.fz 1
                have z2 := HX4.out.fz 2
                have z3 := HX4.out.fz 3
                have z4 := HX4.out.fz 4
                have z5 := HX4.out.fz 5
                have z6 := HX4.out.fz 6
                have HB4 := hideL (HB1.out.trans (hB.mono HB1.out.size))
                simp only [Sl.v]
                clear hB hrw)
   exact bodyPost_ret (v := .tuple #[.agg #[.string ⟨#[]⟩, .string ⟨#[]⟩, .string ⟨#[]⟩, .string ⟨#[]⟩, .string ⟨#[]⟩, .slice none 0 0, .slice none 0 0], .int .i64 n]) (by
     have hy := HX4.out.st7 (.string ⟨#[]⟩) (.string ⟨#[]⟩) (.string ⟨#[]⟩) (.string ⟨#[]⟩) (.string ⟨#[]⟩) (.slice none 0 0) (.slice none 0 0)
     have r0 := hy.c0
     have r1 := hy.c1
     have r2 := hy.c2
     have r3 := hy.c3
     have r4 := hy.c4
     have r5 := hy.c5
     have r6 := hy.c6
     simp [results, Tryz.results9, go_sem, r0, r1, r2, r3, r4, r5, r6]) rfl ⟨rfl, below_st7 HB4.out (Nat.le_refl _)⟩
end Go.Proofs.YtafmgoekgijfgaaGreatDoor
