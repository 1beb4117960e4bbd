/- The document's Same, SameRaw, SameRaws. -/
import Derived.Test.YtafmgoekgijfgaaGreatDoorFRqM6
import Derived.Test.YtafmgoekgijfgaaGreatDoorFRqFeed
import Derived.Test.YtafmgoekgijfgaaGreatDoorFHdRefT
namespace Go.Proofs.YtafmgoekgijfgaaGreatDoor
open Go.RowKit Go.Lib

theorem bys_eq {a b : ByteArray} {l m : List UInt8} (h1 : a.data.toList = l) (h2 : b.data.toList = m) : a = b ↔ l = m := by
 subst h1 h2
 constructor
 · rintro rfl; rfl
 · intro h
   cases a; cases b
   congr 1
   exact Array.toList_inj.1 h
abbrev cO (a : Array Value) (t : TypeId) : Obj := .cells a t (0, 0)
theorem lt_of_some {W : World} {k : Nat} {o : Obj} (h : W.heap[k]? = some o) : k < W.heap.size := (Array.getElem?_eq_some_iff.1 h).1
set_option maxRecDepth 100000 in
set_option maxHeartbeats 2000000 in
theorem sameRqC (s0 s1 s2 s3 s4 t0 t1 t2 t3 t4 : ByteArray) (ha : Option Addr) (hn hc : Nat) (ba : Option Addr) (bn bc : Nat) (ka : Option Addr) (kn kc : Nat) (la : Option Addr) (ln lc : Nat) (x y : Rq) (w : World)
   (h1 : ReqAt w ⟨s0, s1, s2, s3, s4, ⟨ha, hn, hc⟩, ⟨ba, bn, bc⟩⟩ x) (h2 : ReqAt w ⟨t0, t1, t2, t3, t4, ⟨ka, kn, kc⟩, ⟨la, ln, lc⟩⟩ y) (hm : y.heads.length ≤ 1000) :
   Calls Tryz.prog 11 #[.agg #[.string s0, .string s1, .string s2, .string s3, .string s4, .slice ha hn hc, .slice ba bn bc], .agg #[.string t0, .string t1, .string t2, .string t3, .string t4, .slice ka kn kc, .slice la ln lc]] w fun e w' => (∃ z, e = .returned (.bool z) ∧ (z = true ↔ x = y)) ∧ Below w.heap.size w w' := by
 obtain ⟨e0, e1, e2, e3, e4, g1, g2⟩ := h1
 obtain ⟨f0, f1, f2, f3, f4, k1, k2⟩ := h2
 simp only [Sl.v] at g1 g2 k1 k2
 have j0 := bys_eq e0 f0
 have j1 := bys_eq e1 f1
 have j2 := bys_eq e2 f2
 have j3 := bys_eq e3 f3
 have j4 := bys_eq e4 f4
 clear e0 f0 e1 f1 e2 f2 e3 f3 e4 f4
 obtain ⟨x0, x1, x2, x3, x4, x5, x6⟩ := x
 obtain ⟨y0, y1, y2, y3, y4, y5, y6⟩ := y
 simp only at g1 g2 k1 k2 hm j0 j1 j2 j3 j4
 have b1 := heap_alloc_new w (cO #[.string s0, .string s1, .string s2, .string s3, .string s4, .slice ha hn hc, .slice ba bn bc] 26)
 have B1 := (Below.refl w.heap.size w).alloc (Nat.le_refl _) (cO #[.string s0, .string s1, .string s2, .string s3, .string s4, .slice ha hn hc, .slice ba bn bc] 26)
 have b2 := heap_alloc_new (w.alloc (cO #[.string s0, .string s1, .string s2, .string s3, .string s4, .slice ha hn hc, .slice ba bn bc] 26)) (cO #[.string t0, .string t1, .string t2, .string t3, .string t4, .slice ka kn kc, .slice la ln lc] 26)
 have B2 := (Below.refl (w.alloc (cO #[.string s0, .string s1, .string s2, .string s3, .string s4, .slice ha hn hc, .slice ba bn bc] 26)).heap.size (w.alloc (cO #[.string s0, .string s1, .string s2, .string s3, .string s4, .slice ha hn hc, .slice ba bn bc] 26))).alloc (Nat.le_refl _) (cO #[.string t0, .string t1, .string t2, .string t3, .string t4, .slice ka kn kc, .slice la ln lc] 26)
 have b1 := (B2.block _ (by rw [World.size_alloc]; omega)).trans b1
 have hB := B1.trans (B2.mono B1.size)
 rw [World.size_alloc] at b2
 clear B1 B2
 have H1 := hideL b1
 have H2 := hideL b2
 have HB := hideL hB
 have G1 := hideL (g1.below hB)
 have G2 := hideL (g2.below hB)
 have K1 := hideL (k1.below hB)
 have K2 := hideL (k2.below hB)
 have HM := hideL hm
 clear hB g1 g2 k1 k2 hm
 have q0 := cell_of_row _ _ 0 _ _ _ b1
 have p0 := cell_of_row _ _ 0 _ _ _ b2
 have q1 := cell_of_row _ _ 1 _ _ _ b1
 have p1 := cell_of_row _ _ 1 _ _ _ b2
 have q2 := cell_of_row _ _ 2 _ _ _ b1
 have p2 := cell_of_row _ _ 2 _ _ _ b2
 have q3 := cell_of_row _ _ 3 _ _ _ b1
 have p3 := cell_of_row _ _ 3 _ _ _ b2
 have q4 := cell_of_row _ _ 4 _ _ _ b1
 have p4 := cell_of_row _ _ 4 _ _ _ b2
 have q5 := cell_of_row _ _ 5 _ _ _ b1
 have p5 := cell_of_row _ _ 5 _ _ _ b2
 have q6 := cell_of_row _ _ 6 _ _ _ b1
 have p6 := cell_of_row _ _ 6 _ _ _ b2
 clear b1 b2
 simp only [List.getElem?_toArray, List.getElem?_cons_zero, List.getElem?_cons_succ] at q0 p0 q1 p1 q2 p2 q3 p3 q4 p4 q5 p5 q6 p6
 by_cases c0 : s0 = t0
 rotate_left
 · have c0' := eqs_false c0
   have N := hideL (fun e : (⟨x0, x1, x2, x3, x4, x5, x6⟩ : Rq) = ⟨y0, y1, y2, y3, y4, y5, y6⟩ => c0 (j0.2 (by injection e)))
   clear j0 j1 j2 j3 j4 c0
   go_enter Tryz.func11, Tryz.ntmps11
   go_wp2_with fail
   go_ret
   exact ⟨⟨false, rfl, fun h => absurd h Bool.false_ne_true, fun h => absurd h N.out⟩, HB.out⟩
 have c0' := eqs_true c0
 have E0 := hideL (j0.1 c0)
 clear c0 j0
 by_cases c1 : s1 = t1
 rotate_left
 · have c1' := eqs_false c1
   have N := hideL (fun e : (⟨x0, x1, x2, x3, x4, x5, x6⟩ : Rq) = ⟨y0, y1, y2, y3, y4, y5, y6⟩ => c1 (j1.2 (by injection e)))
   clear j1 j2 j3 j4 c1
   go_enter Tryz.func11, Tryz.ntmps11
   go_wp2_with fail
   go_ret
   exact ⟨⟨false, rfl, fun h => absurd h Bool.false_ne_true, fun h => absurd h N.out⟩, HB.out⟩
 have c1' := eqs_true c1
 have E1 := hideL (j1.1 c1)
 clear c1 j1
 by_cases c2 : s2 = t2
 rotate_left
 · have c2' := eqs_false c2
   have N := hideL (fun e : (⟨x0, x1, x2, x3, x4, x5, x6⟩ : Rq) = ⟨y0, y1, y2, y3, y4, y5, y6⟩ => c2 (j2.2 (by injection e)))
   clear j2 j3 j4 c2
   go_enter Tryz.func11, Tryz.ntmps11
   go_wp2_with fail
   go_ret
   exact ⟨⟨false, rfl, fun h => absurd h Bool.false_ne_true, fun h => absurd h N.out⟩, HB.out⟩
 have c2' := eqs_true c2
 have E2 := hideL (j2.1 c2)
 clear c2 j2
 by_cases c3 : s3 = t3
 rotate_left
 · have c3' := eqs_false c3
   have N := hideL (fun e : (⟨x0, x1, x2, x3, x4, x5, x6⟩ : Rq) = ⟨y0, y1, y2, y3, y4, y5, y6⟩ => c3 (j3.2 (by injection e)))
   clear j3 j4 c3
   go_enter Tryz.func11, Tryz.ntmps11
   go_wp2_with fail
   go_ret
   exact ⟨⟨false, rfl, fun h => absurd h Bool.false_ne_true, fun h => absurd h N.out⟩, HB.out⟩
 have c3' := eqs_true c3
 have E3 := hideL (j3.1 c3)
 clear c3 j3
 by_cases c4 : s4 = t4
 rotate_left
 · have c4' := eqs_false c4
   have N := hideL (fun e : (⟨x0, x1, x2, x3, x4, x5, x6⟩ : Rq) = ⟨y0, y1, y2, y3, y4, y5, y6⟩ => c4 (j4.2 (by injection e)))
   clear j4 c4
   go_enter Tryz.func11, Tryz.ntmps11
   go_wp2_with fail
   go_ret
   exact ⟨⟨false, rfl, fun h => absurd h Bool.false_ne_true, fun h => absurd h N.out⟩, HB.out⟩
 have c4' := eqs_true c4
 have E4 := hideL (j4.1 c4)
 clear c4 j4
 have LS := hideL (same_any _ _ _ _ _ G1.out K1.out HM.out)
 by_cases ch : x5 = y5
 rotate_left
 · have N := hideL (fun e : (⟨x0, x1, x2, x3, x4, x5, x6⟩ : Rq) = ⟨y0, y1, y2, y3, y4, y5, y6⟩ => ch (by injection e))
   have hch := hideL (decide_eq_false ch)
   clear ch
   go_enter Tryz.func11, Tryz.ntmps11
   go_wp2_with (go_at_call 39; refine LS.out.mono ?_; rintro e w4 ⟨rfl, hB4⟩
                have HB4 := hideL (HB.out.trans (hB4.mono HB.out.size))
                rw [hch.out]
                have b1 := (hB4.block _ (lt_of_some H1.out)).trans H1.out
                have b2 := (hB4.block _ (lt_of_some H2.out)).trans H2.out
                clear hB4 b1 b2)
   go_ret
   exact ⟨⟨false, rfl, fun h => absurd h Bool.false_ne_true, fun h => absurd h N.out⟩, HB4.out⟩
 have hch := hideL (decide_eq_true ch)
 have EH := hideL ch
 clear ch
 by_cases cb : bo x6 = bo y6
 · have cb' := eqs_true cb
   have EB := hideL (bo_inj cb)
   clear cb
   go_enter Tryz.func11, Tryz.ntmps11
   go_wp2_with (go_at_call 39; refine LS.out.mono ?_; rintro e w4 ⟨rfl, hB4⟩
                have HB4 := hideL (HB.out.trans (hB4.mono HB.out.size))
                rw [hch.out]
                have b1 := (hB4.block _ (lt_of_some H1.out)).trans H1.out
                have b2 := (hB4.block _ (lt_of_some H2.out)).trans H2.out
                have b16 := cell_of_row _ _ 6 _ _ _ b1
                have b26 := cell_of_row _ _ 6 _ _ _ b2
                simp only [List.getElem?_toArray, List.getElem?_cons_zero, List.getElem?_cons_succ] at b16 b26
                have v1 := to_strA w4 _ _ _ _ (G2.out.below hB4)
                have v2 := to_strA w4 _ _ _ _ (K2.out.below hB4)
                clear hB4 b1 b2)
   go_ret
   exact ⟨⟨true, rfl, fun _ => by rw [E0.out, E1.out, E2.out, E3.out, E4.out, EH.out, EB.out], fun _ => rfl⟩, HB4.out⟩
 · have cb' := eqs_false cb
   have N := hideL (fun e : (⟨x0, x1, x2, x3, x4, x5, x6⟩ : Rq) = ⟨y0, y1, y2, y3, y4, y5, y6⟩ => cb (by injection e with i0 i1 i2 i3 i4 i5 i6; rw [i6]))
   clear cb
   go_enter Tryz.func11, Tryz.ntmps11
   go_wp2_with (go_at_call 39; refine LS.out.mono ?_; rintro e w4 ⟨rfl, hB4⟩
                have HB4 := hideL (HB.out.trans (hB4.mono HB.out.size))
                rw [hch.out]
                have b1 := (hB4.block _ (lt_of_some H1.out)).trans H1.out
                have b2 := (hB4.block _ (lt_of_some H2.out)).trans H2.out
                have b16 := cell_of_row _ _ 6 _ _ _ b1
                have b26 := cell_of_row _ _ 6 _ _ _ b2
                simp only [List.getElem?_toArray, List.getElem?_cons_zero, List.getElem?_cons_succ] at b16 b26
                have v1 := to_strA w4 _ _ _ _ (G2.out.below hB4)
                have v2 := to_strA w4 _ _ _ _ (K2.out.below hB4)
                clear hB4 b1 b2)
   go_ret
   exact ⟨⟨false, rfl, fun h => absurd h Bool.false_ne_true, fun h => absurd h N.out⟩, HB4.out⟩
end Go.Proofs.YtafmgoekgijfgaaGreatDoor
