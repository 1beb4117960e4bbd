/- A reading in memory of its own: own. -/
import Derived.Test.YtafmgoekgijfgaaGreatDoorBRqOwn
import Derived.Test.YtafmgoekgijfgaaGreatDoorBRqM5
import Derived.Deep.DeepCutAuto
import Derived.Deep.CutBlock
namespace Go.Proofs.YtafmgoekgijfgaaGreatDoor
open Go.RowKit Go.Lib

theorem RBox7.other {tr : TypeId} {W : World} {g k o : Nat} {v a0 a1 a2 a3 a4 a5 a6 : Value} (h : RBox7 tr W g a0 a1 a2 a3 a4 a5 a6) (hne : g ≠ k) : RBox7 tr (W.setCell ⟨k, o, none⟩ v) g a0 a1 a2 a3 a4 a5 a6 := (heap_setCell_other W ⟨k, o, none⟩ g v hne).trans h
set_option maxRecDepth 100000 in
set_option maxHeartbeats 2000000 in
theorem own_parsing (s : Ps) (lv hv bv : Sl) (w : World) (hl : GAt KB w lv.v s.line) (hh : GAt KH w hv.v s.heads) (hb : GAt KB w bv.v s.body) (hg : goodS s) :
   Calls Tryz.prog 106 #[PsV s lv hv bv] w (fun e w' => ∃ l h b : Sl, e = .returned (PsV s l h b) ∧ GRow KB w' w.heap.size l.v s.line ∧ GRow KH w' w.heap.size h.v s.heads ∧ GRow KB w' w.heap.size b.v s.body ∧ Dis l.v h.v ∧ Dis l.v b.v ∧ Dis h.v b.v ∧ Below w.heap.size w w') := by
 have g1 := hg.line
 have g2 := hg.body
 have g3 := hg.start
 have g4 := mayH_len hg.heads
 have g5 := good_fits hg.heads
 obtain ⟨p, line, st, hds, body, left, err⟩ := s
 dsimp only at hl hh hb g1 g2 g3 g4 g5
 obtain ⟨S, hS⟩ : ∃ S, bo st = S := ⟨_, rfl⟩
 have hS1 : S.size ≤ 1000000 := by rw [← hS, bo_size]; omega
 have hS2 : S.data.toList = st := by rw [← hS]; exact bo_list st
 dsimp only [PsV]
 rw [hS]
 obtain ⟨la, ln, lc⟩ := lv
 obtain ⟨ha, hn, hc⟩ := hv
 obtain ⟨ba, bn, bc⟩ := bv
 simp only [Sl.v] at hl hh hb ⊢
 have hx1 : RBox7 101 (w.alloc (.cells #[.int .i64 p, .slice la ln lc, .string S, .slice ha hn hc, .slice ba bn bc, .int .i64 left, .int .i64 err] 101)) w.heap.size (.int .i64 p) (.slice la ln lc) (.string S) (.slice ha hn hc) (.slice ba bn bc) (.int .i64 left) (.int .i64 err) := heap_alloc_new w _
 have hb1 := (Below.refl w.heap.size w).alloc (Nat.le_refl _) (.cells #[.int .i64 p, .slice la ln lc, .string S, .slice ha hn hc, .slice ba bn bc, .int .i64 left, .int .i64 err] 101)
 obtain ⟨w1, hw1⟩ : ∃ x, x = w.alloc (.cells #[.int .i64 p, .slice la ln lc, .string S, .slice ha hn hc, .slice ba bn bc, .int .i64 left, .int .i64 err] 101) := ⟨_, rfl⟩
 have hz : w1.heap.size = w.heap.size + 1 := by rw [hw1, World.size_alloc]
 rw [← hw1] at hx1 hb1
 have hb2 := (Below.refl w1.heap.size w1).alloc (Nat.le_refl _) (.cells #[.int .i64 0, .slice none 0 0, .string ⟨#[]⟩, .slice none 0 0, .slice none 0 0, .int .i64 0, .int .i64 0] 101)
 have hx2 := hx1.next hb2
 have hy2 : RBox7 101 (w1.alloc (.cells #[.int .i64 0, .slice none 0 0, .string ⟨#[]⟩, .slice none 0 0, .slice none 0 0, .int .i64 0, .int .i64 0] 101)) w1.heap.size (.int .i64 0) (.slice none 0 0) (.string ⟨#[]⟩) (.slice none 0 0) (.slice none 0 0) (.int .i64 0) (.int .i64 0) := heap_alloc_new w1 _
 obtain ⟨w2, hw2⟩ : ∃ x, x = w1.alloc (.cells #[.int .i64 0, .slice none 0 0, .string ⟨#[]⟩, .slice none 0 0, .slice none 0 0, .int .i64 0, .int .i64 0] 101) := ⟨_, rfl⟩
 have hz2 : w2.heap.size = w.heap.size + 2 := by rw [hw2, World.size_alloc, hz]
 rw [← hw2] at hx2 hy2 hb2
 rw [hz] at hy2
 rw [hw1] at hw2
 have HB := hideL (hb1.trans (hb2.mono hb1.size))
 have HX := hideL hx2
 have HY := hideL hy2
 have HZ := hideL hz2
 have LB := hideL (bclone_any (.slice la ln lc) line w2 (hl.below HB.out) (by omega))
 have LO := hideL (fun (W : World) (hb' : Below w.heap.size w W) => ownRaw_any ⟨S, ⟨ha, hn, hc⟩, ⟨ba, bn, bc⟩⟩ ⟨st, hds, body⟩ W ⟨hS2, hh.below hb', hb.below hb'⟩ g5 hS1 (show hds.length ≤ 1000 by omega) (show body.length ≤ 1000000 by omega))
 simp only [Sl.v] at LO
 have c1 := hx2.c1
 clear hl hh hb g1 g2 g3 g4 g5 hb1 hb2 hx1 hx2 hy2 hz hz2 hS hS1 hS2 hg hw1
 go_enter Tryz.func106, Tryz.ntmps106
 go_upto_region 1 with fail
 rw [← hw2]
 clear hw2
 go_wp2_with (first
   | (go_at_call 81; refine (LB.out).mono ?_; rintro e w3 ⟨⟨la', ln', lc'⟩, rfl, hr, hB⟩
      have X3 := HX.out.next hB
      have d1 := X3.c1
      have d2 := X3.c2
      have d3 := X3.c3
      have d4 := X3.c4
      have f1 := X3.fz 1
      have HX3 := hideL (X3.s1 (.slice la' ln' lc'))
      have HZ3 := hideL hB.size
      have HR := hideL hr
      have HB3 := hideL ((HB.out.trans (hB.mono HB.out.size)).trans (Keep.below (keepg_set w3 w.heap.size 1 (.slice la' ln' lc')) (B := w.heap.size) (fun k e => by rw [e]; exact Nat.le_refl _) (by have := HB.out.size; have := hB.size; omega)))
      have HY3 := hideL ((HY.out.next hB).other (k := w.heap.size) (o := 1) (v := .slice la' ln' lc') (Nat.succ_ne_self _))
      simp only [Sl.v] at HR ⊢
      clear hB hr X3)
   | (go_at_call 46; refine (LO.out _ HB3.out).mono ?_; rintro e w4 ⟨⟨ha', hn', hc'⟩, ⟨ba', bn', bc'⟩, rfl, hr1, hr2, hdis, hB⟩
      have X4 := HX3.out.next hB
      have q0 := X4.c0
      have q1 := X4.c1
      have q2 := X4.c2
      have q3 := X4.c3
      have q4 := X4.c4
      have q5 := X4.c5
      have q6 := X4.c6
      have h2 := X4.fz 2
      have h3 := X4.fz 3
      have h4 := X4.fz 4
      have Y4 := HY3.out.next hB
      have y0 := Y4.c0
      have y1 := Y4.c1
      have y2 := Y4.c2
      have y3 := Y4.c3
      have y4 := Y4.c4
      have y5 := Y4.c5
      have y6 := Y4.c6
      have z0 := Y4.fz 0
      have z1 := Y4.fz 1
      have z2 := Y4.fz 2
      have z3 := Y4.fz 3
      have z4 := Y4.fz 4
      have z5 := Y4.fz 5
      have z6 := Y4.fz 6
      have HY4 := hideL Y4
      have HR1 := hideL hr1
      have HR2 := hideL hr2
      have HDI := hideL hdis
      have HB4 := hideL hB
      simp only at HR1 HR2 HDI ⊢
      clear hB hr1 hr2 hdis X4 Y4))
 have hP := (((HY4.out.other (k := w.heap.size) (o := 2) (v := .string S) (Nat.succ_ne_self _)).other (k := w.heap.size) (o := 3) (v := .slice ha' hn' hc') (Nat.succ_ne_self _)).other (k := w.heap.size) (o := 4) (v := .slice ba' bn' bc') (Nat.succ_ne_self _)).st7 (.int .i64 p) (.slice la' ln' lc') (.string S) (.slice ha' hn' hc') (.slice ba' bn' bc') (.int .i64 left) (.int .i64 err)
 have r0 := hP.c0
 have r1 := hP.c1
 have r2 := hP.c2
 have r3 := hP.c3
 have r4 := hP.c4
 have r5 := hP.c5
 have r6 := hP.c6
 have k1 : Keep (fun q => q = w.heap.size) w4 _ := keepg_trans (keepg_trans (keepg_set w4 w.heap.size 2 (.string S)) (keepg_set _ w.heap.size 3 (.slice ha' hn' hc'))) (keepg_set _ w.heap.size 4 (.slice ba' bn' bc'))
 have kk : Keep (fun q => q = w.heap.size ∨ q = w.heap.size + 1) w4 _ := (k1.mono (fun _ h => .inl (.inl h))).trans (keepg_st7 _ (w.heap.size + 1) (.int .i64 p) (.slice la' ln' lc') (.string S) (.slice ha' hn' hc') (.slice ba' bn' bc') (.int .i64 left) (.int .i64 err)) (fun _ h => .inl (.inr h))
 have hz2 := HZ.out
 have hz3 := HZ3.out
 have hs3 : (w3.setCell ⟨w.heap.size, 1, none⟩ (.slice la' ln' lc')).heap.size = w3.heap.size := by simp
 have hz4 := HB4.out.size
 rw [hs3] at hz4
 have R0 := ((HR.out.keep (keepg_set w3 w.heap.size 1 (.slice la' ln' lc')) (fun q hq e => by have := HR.out.ge hq; have e : q = w.heap.size := e; omega)).below HB4.out)
 have R1 := HR1.out
 have R2 := HR2.out
 rw [hs3] at R1 R2
 have fin0 := R0.keep kk (fun q hq e => by have := R0.ge hq; have e : q = w.heap.size ∨ q = w.heap.size + 1 := e; omega)
 have fin1 := R1.keep kk (fun q hq e => by have := R1.ge hq; have e : q = w.heap.size ∨ q = w.heap.size + 1 := e; omega)
 have fin2 := R2.keep kk (fun q hq e => by have := R2.ge hq; have e : q = w.heap.size ∨ q = w.heap.size + 1 := e; omega)
 have hl3 : ∀ q, Value.ownBlock (.slice la' ln' lc') = some q → q < w3.heap.size := fun q hq => HR.out.lt hq
 have d1 : Dis (.slice la' ln' lc') (.slice ha' hn' hc') := fun q h1 h2 => by
   have := hl3 q h1
   have := R1.ge h2
   omega
 have d2 : Dis (.slice la' ln' lc') (.slice ba' bn' bc') := fun q h1 h2 => by
   have := hl3 q h1
   have := R2.ge h2
   omega
 have fin3 := (HB3.out.trans (HB4.out.mono HB3.out.size)).trans (kk.below (B := w.heap.size) (fun q e => by rcases e with e | e <;> omega) (by omega))
 exact bodyPost_ret (v := .agg #[.int .i64 p, .slice la' ln' lc', .string S, .slice ha' hn' hc', .slice ba' bn' bc', .int .i64 left, .int .i64 err]) (by simp [results, Tryz.results106, go_sem, r0, r1, r2, r3, r4, r5, r6]) rfl ⟨⟨la', ln', lc'⟩, ⟨ha', hn', hc'⟩, ⟨ba', bn', bc'⟩, rfl, fin0.base (by omega), fin1.base (by omega), fin2.base (by omega), d1, d2, HDI.out, fin3⟩
end Go.Proofs.YtafmgoekgijfgaaGreatDoor
