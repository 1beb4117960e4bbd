/- The document's Same, SameRaw, SameRaws. -/
import Derived.Test.YtglnfnlpkhmlnaaGreatDoorRqM6
import Derived.Test.YtglnfnlpkhmlnaaGreatDoorRqFeed
import Derived.Test.YtglnfnlpkhmlnaaGreatDoorHdRefT
namespace Go.Proofs.YtglnfnlpkhmlnaaGreatDoor
open Go.RowKit Go.Lib

theorem bys_eq {a b : ByteArray} {l m : List UInt8} (h1 : a.data.toList = l) (h2 : b.data.toList = m) : a = b ↔ l = m := by
  subst h1 h2
  constructor
  · rintro rfl; rfl
  · intro h
    cases a; cases b
    congr 1
    exact Array.toList_inj.1 h
abbrev cO (a : Array Value) (t : TypeId) : Obj := .cells a t (0, 0)
theorem lt_of_some {W : World} {k : Nat} {o : Obj} (h : W.heap[k]? = some o) : k < W.heap.size := (Array.getElem?_eq_some_iff.1 h).1
set_option maxRecDepth 100000 in
set_option maxHeartbeats 2000000 in
theorem sameRawC (s0 t0 : ByteArray) (ha : Option Addr) (hn hc : Nat) (ba : Option Addr) (bn bc : Nat) (ka : Option Addr) (kn kc : Nat) (la : Option Addr) (ln lc : Nat) (x y : Rw) (w : World)
    (h1 : RawAt w ⟨s0, ⟨ha, hn, hc⟩, ⟨ba, bn, bc⟩⟩ x) (h2 : RawAt w ⟨t0, ⟨ka, kn, kc⟩, ⟨la, ln, lc⟩⟩ y) (hm : y.heads.length ≤ 1000) :
    Calls Tryz.prog 50 #[.agg #[.string s0, .slice ha hn hc, .slice ba bn bc], .agg #[.string t0, .slice ka kn kc, .slice la ln lc]] w fun e w' => (∃ z, e = .returned (.bool z) ∧ (z = true ↔ x = y)) ∧ Below w.heap.size w w' := by
  obtain ⟨e0, g1, g2⟩ := h1
  obtain ⟨f0, k1, k2⟩ := h2
  simp only [Sl.v] at g1 g2 k1 k2
  have j0 := bys_eq e0 f0
  clear e0 f0
  obtain ⟨x0, x1, x2⟩ := x
  obtain ⟨y0, y1, y2⟩ := y
  simp only at g1 g2 k1 k2 hm j0
  have b1 := heap_alloc_new w (cO #[.string s0, .slice ha hn hc, .slice ba bn bc] 27)
  have B1 := (Below.refl w.heap.size w).alloc (Nat.le_refl _) (cO #[.string s0, .slice ha hn hc, .slice ba bn bc] 27)
  have b2 := heap_alloc_new (w.alloc (cO #[.string s0, .slice ha hn hc, .slice ba bn bc] 27)) (cO #[.string t0, .slice ka kn kc, .slice la ln lc] 27)
  have B2 := (Below.refl (w.alloc (cO #[.string s0, .slice ha hn hc, .slice ba bn bc] 27)).heap.size (w.alloc (cO #[.string s0, .slice ha hn hc, .slice ba bn bc] 27))).alloc (Nat.le_refl _) (cO #[.string t0, .slice ka kn kc, .slice la ln lc] 27)
  have b1 := (B2.block _ (by rw [World.size_alloc]; omega)).trans b1
  have hB := B1.trans (B2.mono B1.size)
  rw [World.size_alloc] at b2
  clear B1 B2
  have H1 := hideL b1
  have H2 := hideL b2
  have HB := hideL hB
  have G1 := hideL (g1.below hB)
  have G2 := hideL (g2.below hB)
  have K1 := hideL (k1.below hB)
  have K2 := hideL (k2.below hB)
  have HM := hideL hm
  clear hB g1 g2 k1 k2 hm
  have q0 := cell_of_row _ _ 0 _ _ _ b1
  have p0 := cell_of_row _ _ 0 _ _ _ b2
  have q1 := cell_of_row _ _ 1 _ _ _ b1
  have p1 := cell_of_row _ _ 1 _ _ _ b2
  have q2 := cell_of_row _ _ 2 _ _ _ b1
  have p2 := cell_of_row _ _ 2 _ _ _ b2
  clear b1 b2
  simp only [List.getElem?_toArray, List.getElem?_cons_zero, List.getElem?_cons_succ] at q0 p0 q1 p1 q2 p2
  by_cases c0 : s0 = t0
  rotate_left
  · have c0' := eqs_false c0
    have N := hideL (fun e : (⟨x0, x1, x2⟩ : Rw) = ⟨y0, y1, y2⟩ => c0 (j0.2 (by injection e)))
    clear j0 c0
    go_enter Tryz.func50, Tryz.ntmps50
    go_wp2_with fail
    go_ret
    exact ⟨⟨false, rfl, fun h => absurd h Bool.false_ne_true, fun h => absurd h N.out⟩, HB.out⟩
  have c0' := eqs_true c0
  have E0 := hideL (j0.1 c0)
  clear c0 j0
  have LS := hideL (same_any _ _ _ _ _ G1.out K1.out HM.out)
  by_cases ch : x1 = y1
  rotate_left
  · have N := hideL (fun e : (⟨x0, x1, x2⟩ : Rw) = ⟨y0, y1, y2⟩ => ch (by injection e))
    have hch := hideL (decide_eq_false ch)
    clear ch
    go_enter Tryz.func50, Tryz.ntmps50
    go_wp2_with (go_at_call 51; refine LS.out.mono ?_; rintro e w4 ⟨rfl, hB4⟩
                 have HB4 := hideL (HB.out.trans (hB4.mono HB.out.size))
                 rw [hch.out]
                 have b1 := (hB4.block _ (lt_of_some H1.out)).trans H1.out
                 have b2 := (hB4.block _ (lt_of_some H2.out)).trans H2.out
                 clear hB4 b1 b2)
    go_ret
    exact ⟨⟨false, rfl, fun h => absurd h Bool.false_ne_true, fun h => absurd h N.out⟩, HB4.out⟩
  have hch := hideL (decide_eq_true ch)
  have EH := hideL ch
  clear ch
  by_cases cb : bo x2 = bo y2
  · have cb' := eqs_true cb
    have EB := hideL (bo_inj cb)
    clear cb
    go_enter Tryz.func50, Tryz.ntmps50
    go_wp2_with (go_at_call 51; refine LS.out.mono ?_; rintro e w4 ⟨rfl, hB4⟩
                 have HB4 := hideL (HB.out.trans (hB4.mono HB.out.size))
                 rw [hch.out]
                 have b1 := (hB4.block _ (lt_of_some H1.out)).trans H1.out
                 have b2 := (hB4.block _ (lt_of_some H2.out)).trans H2.out
                 have b16 := cell_of_row _ _ 2 _ _ _ b1
                 have b26 := cell_of_row _ _ 2 _ _ _ b2
                 simp only [List.getElem?_toArray, List.getElem?_cons_zero, List.getElem?_cons_succ] at b16 b26
                 have v1 := to_strA w4 _ _ _ _ (G2.out.below hB4)
                 have v2 := to_strA w4 _ _ _ _ (K2.out.below hB4)
                 clear hB4 b1 b2)
    go_ret
    exact ⟨⟨true, rfl, fun _ => by rw [E0.out, EH.out, EB.out], fun _ => rfl⟩, HB4.out⟩
  · have cb' := eqs_false cb
    have N := hideL (fun e : (⟨x0, x1, x2⟩ : Rw) = ⟨y0, y1, y2⟩ => cb (by injection e with i0 i1 i2; rw [i2]))
    clear cb
    go_enter Tryz.func50, Tryz.ntmps50
    go_wp2_with (go_at_call 51; refine LS.out.mono ?_; rintro e w4 ⟨rfl, hB4⟩
                 have HB4 := hideL (HB.out.trans (hB4.mono HB.out.size))
                 rw [hch.out]
                 have b1 := (hB4.block _ (lt_of_some H1.out)).trans H1.out
                 have b2 := (hB4.block _ (lt_of_some H2.out)).trans H2.out
                 have b16 := cell_of_row _ _ 2 _ _ _ b1
                 have b26 := cell_of_row _ _ 2 _ _ _ b2
                 simp only [List.getElem?_toArray, List.getElem?_cons_zero, List.getElem?_cons_succ] at b16 b26
                 have v1 := to_strA w4 _ _ _ _ (G2.out.below hB4)
                 have v2 := to_strA w4 _ _ _ _ (K2.out.below hB4)
                 clear hB4 b1 b2)
    go_ret
    exact ⟨⟨false, rfl, fun h => absurd h Bool.false_ne_true, fun h => absurd h N.out⟩, HB4.out⟩
set_option maxRecDepth 100000 in
set_option maxHeartbeats 2000000 in
theorem sameRqC (s0 s1 s2 s3 s4 t0 t1 t2 t3 t4 : ByteArray) (ha : Option Addr) (hn hc : Nat) (ba : Option Addr) (bn bc : Nat) (ka : Option Addr) (kn kc : Nat) (la : Option Addr) (ln lc : Nat) (x y : Rq) (w : World)
    (h1 : ReqAt w ⟨s0, s1, s2, s3, s4, ⟨ha, hn, hc⟩, ⟨ba, bn, bc⟩⟩ x) (h2 : ReqAt w ⟨t0, t1, t2, t3, t4, ⟨ka, kn, kc⟩, ⟨la, ln, lc⟩⟩ y) (hm : y.heads.length ≤ 1000) :
    Calls Tryz.prog 20 #[.agg #[.string s0, .string s1, .string s2, .string s3, .string s4, .slice ha hn hc, .slice ba bn bc], .agg #[.string t0, .string t1, .string t2, .string t3, .string t4, .slice ka kn kc, .slice la ln lc]] w fun e w' => (∃ z, e = .returned (.bool z) ∧ (z = true ↔ x = y)) ∧ Below w.heap.size w w' := by
  obtain ⟨e0, e1, e2, e3, e4, g1, g2⟩ := h1
  obtain ⟨f0, f1, f2, f3, f4, k1, k2⟩ := h2
  simp only [Sl.v] at g1 g2 k1 k2
  have j0 := bys_eq e0 f0
  have j1 := bys_eq e1 f1
  have j2 := bys_eq e2 f2
  have j3 := bys_eq e3 f3
  have j4 := bys_eq e4 f4
  clear e0 f0 e1 f1 e2 f2 e3 f3 e4 f4
  obtain ⟨x0, x1, x2, x3, x4, x5, x6⟩ := x
  obtain ⟨y0, y1, y2, y3, y4, y5, y6⟩ := y
  simp only at g1 g2 k1 k2 hm j0 j1 j2 j3 j4
  have b1 := heap_alloc_new w (cO #[.string s0, .string s1, .string s2, .string s3, .string s4, .slice ha hn hc, .slice ba bn bc] 42)
  have B1 := (Below.refl w.heap.size w).alloc (Nat.le_refl _) (cO #[.string s0, .string s1, .string s2, .string s3, .string s4, .slice ha hn hc, .slice ba bn bc] 42)
  have b2 := heap_alloc_new (w.alloc (cO #[.string s0, .string s1, .string s2, .string s3, .string s4, .slice ha hn hc, .slice ba bn bc] 42)) (cO #[.string t0, .string t1, .string t2, .string t3, .string t4, .slice ka kn kc, .slice la ln lc] 42)
  have B2 := (Below.refl (w.alloc (cO #[.string s0, .string s1, .string s2, .string s3, .string s4, .slice ha hn hc, .slice ba bn bc] 42)).heap.size (w.alloc (cO #[.string s0, .string s1, .string s2, .string s3, .string s4, .slice ha hn hc, .slice ba bn bc] 42))).alloc (Nat.le_refl _) (cO #[.string t0, .string t1, .string t2, .string t3, .string t4, .slice ka kn kc, .slice la ln lc] 42)
  have b1 := (B2.block _ (by rw [World.size_alloc]; omega)).trans b1
  have hB := B1.trans (B2.mono B1.size)
  rw [World.size_alloc] at b2
  clear B1 B2
  have H1 := hideL b1
  have H2 := hideL b2
  have HB := hideL hB
  have G1 := hideL (g1.below hB)
  have G2 := hideL (g2.below hB)
  have K1 := hideL (k1.below hB)
  have K2 := hideL (k2.below hB)
  have HM := hideL hm
  clear hB g1 g2 k1 k2 hm
  have q0 := cell_of_row _ _ 0 _ _ _ b1
  have p0 := cell_of_row _ _ 0 _ _ _ b2
  have q1 := cell_of_row _ _ 1 _ _ _ b1
  have p1 := cell_of_row _ _ 1 _ _ _ b2
  have q2 := cell_of_row _ _ 2 _ _ _ b1
  have p2 := cell_of_row _ _ 2 _ _ _ b2
  have q3 := cell_of_row _ _ 3 _ _ _ b1
  have p3 := cell_of_row _ _ 3 _ _ _ b2
  have q4 := cell_of_row _ _ 4 _ _ _ b1
  have p4 := cell_of_row _ _ 4 _ _ _ b2
  have q5 := cell_of_row _ _ 5 _ _ _ b1
  have p5 := cell_of_row _ _ 5 _ _ _ b2
  have q6 := cell_of_row _ _ 6 _ _ _ b1
  have p6 := cell_of_row _ _ 6 _ _ _ b2
  clear b1 b2
  simp only [List.getElem?_toArray, List.getElem?_cons_zero, List.getElem?_cons_succ] at q0 p0 q1 p1 q2 p2 q3 p3 q4 p4 q5 p5 q6 p6
  by_cases c0 : s0 = t0
  rotate_left
  · have c0' := eqs_false c0
    have N := hideL (fun e : (⟨x0, x1, x2, x3, x4, x5, x6⟩ : Rq) = ⟨y0, y1, y2, y3, y4, y5, y6⟩ => c0 (j0.2 (by injection e)))
    clear j0 j1 j2 j3 j4 c0
    go_enter Tryz.func20, Tryz.ntmps20
    go_wp2_with fail
    go_ret
    exact ⟨⟨false, rfl, fun h => absurd h Bool.false_ne_true, fun h => absurd h N.out⟩, HB.out⟩
  have c0' := eqs_true c0
  have E0 := hideL (j0.1 c0)
  clear c0 j0
  by_cases c1 : s1 = t1
  rotate_left
  · have c1' := eqs_false c1
    have N := hideL (fun e : (⟨x0, x1, x2, x3, x4, x5, x6⟩ : Rq) = ⟨y0, y1, y2, y3, y4, y5, y6⟩ => c1 (j1.2 (by injection e)))
    clear j1 j2 j3 j4 c1
    go_enter Tryz.func20, Tryz.ntmps20
    go_wp2_with fail
    go_ret
    exact ⟨⟨false, rfl, fun h => absurd h Bool.false_ne_true, fun h => absurd h N.out⟩, HB.out⟩
  have c1' := eqs_true c1
  have E1 := hideL (j1.1 c1)
  clear c1 j1
  by_cases c2 : s2 = t2
  rotate_left
  · have c2' := eqs_false c2
    have N := hideL (fun e : (⟨x0, x1, x2, x3, x4, x5, x6⟩ : Rq) = ⟨y0, y1, y2, y3, y4, y5, y6⟩ => c2 (j2.2 (by injection e)))
    clear j2 j3 j4 c2
    go_enter Tryz.func20, Tryz.ntmps20
    go_wp2_with fail
    go_ret
    exact ⟨⟨false, rfl, fun h => absurd h Bool.false_ne_true, fun h => absurd h N.out⟩, HB.out⟩
  have c2' := eqs_true c2
  have E2 := hideL (j2.1 c2)
  clear c2 j2
  by_cases c3 : s3 = t3
  rotate_left
  · have c3' := eqs_false c3
    have N := hideL (fun e : (⟨x0, x1, x2, x3, x4, x5, x6⟩ : Rq) = ⟨y0, y1, y2, y3, y4, y5, y6⟩ => c3 (j3.2 (by injection e)))
    clear j3 j4 c3
    go_enter Tryz.func20, Tryz.ntmps20
    go_wp2_with fail
    go_ret
    exact ⟨⟨false, rfl, fun h => absurd h Bool.false_ne_true, fun h => absurd h N.out⟩, HB.out⟩
  have c3' := eqs_true c3
  have E3 := hideL (j3.1 c3)
  clear c3 j3
  by_cases c4 : s4 = t4
  rotate_left
  · have c4' := eqs_false c4
    have N := hideL (fun e : (⟨x0, x1, x2, x3, x4, x5, x6⟩ : Rq) = ⟨y0, y1, y2, y3, y4, y5, y6⟩ => c4 (j4.2 (by injection e)))
    clear j4 c4
    go_enter Tryz.func20, Tryz.ntmps20
    go_wp2_with fail
    go_ret
    exact ⟨⟨false, rfl, fun h => absurd h Bool.false_ne_true, fun h => absurd h N.out⟩, HB.out⟩
  have c4' := eqs_true c4
  have E4 := hideL (j4.1 c4)
  clear c4 j4
  have LS := hideL (same_any _ _ _ _ _ G1.out K1.out HM.out)
  by_cases ch : x5 = y5
  rotate_left
  · have N := hideL (fun e : (⟨x0, x1, x2, x3, x4, x5, x6⟩ : Rq) = ⟨y0, y1, y2, y3, y4, y5, y6⟩ => ch (by injection e))
    have hch := hideL (decide_eq_false ch)
    clear ch
    go_enter Tryz.func20, Tryz.ntmps20
    go_wp2_with (go_at_call 51; refine LS.out.mono ?_; rintro e w4 ⟨rfl, hB4⟩
                 have HB4 := hideL (HB.out.trans (hB4.mono HB.out.size))
                 rw [hch.out]
                 have b1 := (hB4.block _ (lt_of_some H1.out)).trans H1.out
                 have b2 := (hB4.block _ (lt_of_some H2.out)).trans H2.out
                 clear hB4 b1 b2)
    go_ret
    exact ⟨⟨false, rfl, fun h => absurd h Bool.false_ne_true, fun h => absurd h N.out⟩, HB4.out⟩
  have hch := hideL (decide_eq_true ch)
  have EH := hideL ch
  clear ch
  by_cases cb : bo x6 = bo y6
  · have cb' := eqs_true cb
    have EB := hideL (bo_inj cb)
    clear cb
    go_enter Tryz.func20, Tryz.ntmps20
    go_wp2_with (go_at_call 51; refine LS.out.mono ?_; rintro e w4 ⟨rfl, hB4⟩
                 have HB4 := hideL (HB.out.trans (hB4.mono HB.out.size))
                 rw [hch.out]
                 have b1 := (hB4.block _ (lt_of_some H1.out)).trans H1.out
                 have b2 := (hB4.block _ (lt_of_some H2.out)).trans H2.out
                 have b16 := cell_of_row _ _ 6 _ _ _ b1
                 have b26 := cell_of_row _ _ 6 _ _ _ b2
                 simp only [List.getElem?_toArray, List.getElem?_cons_zero, List.getElem?_cons_succ] at b16 b26
                 have v1 := to_strA w4 _ _ _ _ (G2.out.below hB4)
                 have v2 := to_strA w4 _ _ _ _ (K2.out.below hB4)
                 clear hB4 b1 b2)
    go_ret
    exact ⟨⟨true, rfl, fun _ => by rw [E0.out, E1.out, E2.out, E3.out, E4.out, EH.out, EB.out], fun _ => rfl⟩, HB4.out⟩
  · have cb' := eqs_false cb
    have N := hideL (fun e : (⟨x0, x1, x2, x3, x4, x5, x6⟩ : Rq) = ⟨y0, y1, y2, y3, y4, y5, y6⟩ => cb (by injection e with i0 i1 i2 i3 i4 i5 i6; rw [i6]))
    clear cb
    go_enter Tryz.func20, Tryz.ntmps20
    go_wp2_with (go_at_call 51; refine LS.out.mono ?_; rintro e w4 ⟨rfl, hB4⟩
                 have HB4 := hideL (HB.out.trans (hB4.mono HB.out.size))
                 rw [hch.out]
                 have b1 := (hB4.block _ (lt_of_some H1.out)).trans H1.out
                 have b2 := (hB4.block _ (lt_of_some H2.out)).trans H2.out
                 have b16 := cell_of_row _ _ 6 _ _ _ b1
                 have b26 := cell_of_row _ _ 6 _ _ _ b2
                 simp only [List.getElem?_toArray, List.getElem?_cons_zero, List.getElem?_cons_succ] at b16 b26
                 have v1 := to_strA w4 _ _ _ _ (G2.out.below hB4)
                 have v2 := to_strA w4 _ _ _ _ (K2.out.below hB4)
                 clear hB4 b1 b2)
    go_ret
    exact ⟨⟨false, rfl, fun h => absurd h Bool.false_ne_true, fun h => absurd h N.out⟩, HB4.out⟩
theorem raws_step {a b : List Rw} {k : Nat} (ha : k < a.length) (hb : k < b.length) : a.drop k = b.drop k ↔ (a.getD k ⟨[], [], []⟩ = b.getD k ⟨[], [], []⟩ ∧ a.drop (k + 1) = b.drop (k + 1)) := by
  rw [List.drop_eq_getElem_cons ha, List.drop_eq_getElem_cons hb, show a.getD k ⟨[], [], []⟩ = a[k] by simp [List.getD, ha], show b.getD k ⟨[], [], []⟩ = b[k] by simp [List.getD, hb]]
  simp only [List.cons.injEq]
set_option maxRecDepth 100000 in
set_option maxHeartbeats 1000000 in
theorem sameRaws_any (va vb : Value) (a b : List Rw) (w : World) (ha : RawsAt 27 w va a) (hb : RawsAt 27 w vb b) (hm : ∀ x ∈ b, x.heads.length ≤ 1000) (hl : b.length ≤ 1000000) :
    Calls Tryz.prog 15 #[va, vb] w fun e w' => (∃ z, e = .returned (.bool z) ∧ (z = true ↔ a = b)) ∧ Below w.heap.size w w' := by
  obtain ⟨ao, ac, rfl⟩ := ha.len
  obtain ⟨bo, bc, rfl⟩ := hb.len
  by_cases hne : a.length = b.length
  · have hne' : (((a.length : Nat) : Int) != ((b.length : Nat) : Int)) = false := by rw [hne]; simp
    have H0 : HidL (a = b ↔ a.drop 0 = b.drop 0) := ⟨Iff.rfl⟩
    obtain ⟨n, hn⟩ : ∃ n, b.length = n := ⟨_, rfl⟩
    rw [hn] at hne hb hne' hl ⊢
    rw [hne] at ha hne' ⊢
    have HA := hideL ha
    have HB' := hideL hb
    have HN := hideL hne
    have HM := hideL hn
    have HS := hideL hm
    clear ha hb hne hn hm
    go_enter Tryz.func15, Tryz.ntmps15
    go_wp2_with fail
    go_loopw [5] (fun i wr => ∃ k : Nat, k ≤ n ∧ i = .int .i64 k ∧ HidL (Below w.heap.size w wr) ∧ HidL (a = b ↔ a.drop k = b.drop k)) (fun i _ => n - (RowKit.intOf i).toNat)
    case atStart => exact ⟨0, Nat.zero_le _, rfl, ⟨Below.refl _ _⟩, H0⟩
    case round =>
      obtain ⟨k, hk, rfl, HB, HD⟩ := hrel
      clear H0
      obtain ⟨W, rfl⟩ : ∃ W, W = wr := ⟨_, rfl⟩
      by_cases hlt : k < n
      · have hlt' : (k : Int) < (n : Int) := by omega
        obtain ⟨b1, o1, r1, e1, l1, c10, c11, c12, x1⟩ := HA.out.at (k := k) hlt
        obtain ⟨b2, o2, r2, e2, l2, c20, c21, c22, x2⟩ := HB'.out.at (k := k) hlt
        subst e1 e2
        have hst := HD.out.trans (raws_step (by rw [HN.out]; exact hlt) (by rw [HM.out]; exact hlt))
        have hlen : (b.getD k ⟨[], [], []⟩).heads.length ≤ 1000 := by
          have hkb : k < b.length := by rw [HM.out]; exact hlt
          rw [show b.getD k ⟨[], [], []⟩ = b[k] by simp [List.getD, hkb]]
          exact HS.out _ (List.getElem_mem hkb)
        obtain ⟨s0, ⟨ha, hn, hc⟩, ⟨ba, bn, bc⟩⟩ := r1
        obtain ⟨t0, ⟨ka, kn, kc⟩, ⟨la, ln, lc⟩⟩ := r2
        simp only [Sl.v] at c11 c12 c21 c22
        have d0 := (HB.out.cell (p := ⟨b1, o1 + k * 3, none⟩) l1).trans c10
        have d1 := (HB.out.cell (p := ⟨b1, o1 + k * 3 + 1, none⟩) l1).trans c11
        have d2 := (HB.out.cell (p := ⟨b1, o1 + k * 3 + 2, none⟩) l1).trans c12
        have d3 := (HB.out.cell (p := ⟨b2, o2 + k * 3, none⟩) l2).trans c20
        have d4 := (HB.out.cell (p := ⟨b2, o2 + k * 3 + 1, none⟩) l2).trans c21
        have d5 := (HB.out.cell (p := ⟨b2, o2 + k * 3 + 2, none⟩) l2).trans c22
        have hbd : Below w.heap.size w W.drew := HB.out.drew
        have LS := hideL (sameRawC s0 t0 ha hn hc ba bn bc ka kn kc la ln lc _ _ W.drew (x1.below hbd) (x2.below hbd) hlen)
        have HST := hideL hst
        have HBD := hideL hbd
        clear c10 c11 c12 c20 c21 c22 l1 l2 HD x1 x2 hlen hst hbd HB
        go_wp2_with fail
        go_region_with (go_at_call 50; refine LS.out.mono ?_; rintro e w4 ⟨⟨z, rfl, hz⟩, hB4⟩; have HB4 := hideL (HBD.out.trans (hB4.mono HBD.out.size)); have HZ := hideL hz; clear hB4 hz)
        all_goals
          cases z with
          | true =>
            have HD2 := hideL (HST.out.trans ((and_iff_right (HZ.out.1 rfl)).trans Iff.rfl))
            go_wp2_with fail
            go_roundw
            case rel => exact ⟨k + 1, by omega, by go_num, HB4, HD2⟩
            case measure => simp [RowKit.intOf]; omega
          | false =>
            have N := hideL (fun e : a = b => Bool.false_ne_true (HZ.out.2 (HST.out.1 e).1))
            go_wp2_with fail
            go_ret
            exact ⟨⟨false, rfl, fun h => absurd h Bool.false_ne_true, fun h => absurd h N.out⟩, HB4.out⟩
      · obtain rfl : k = n := by omega
        have hlt' : ¬ (k : Int) < (k : Int) := by omega
        have hE : a = b := HD.out.2 (by rw [List.drop_of_length_le (by rw [HN.out]; exact Nat.le_refl _), List.drop_of_length_le (by rw [HM.out]; exact Nat.le_refl _)])
        have HE := hideL hE
        clear hE
        go_wp2_with fail
        go_ret
        exact ⟨.inr ⟨rfl, HE.out⟩, HB.out⟩
  · have N := hideL (fun e : a = b => hne (by rw [e]))
    obtain ⟨n, hn⟩ : ∃ n, a.length = n := ⟨_, rfl⟩
    obtain ⟨n2, hn2⟩ : ∃ n, b.length = n := ⟨_, rfl⟩
    rw [hn] at hne ⊢
    rw [hn2] at hne ⊢
    have hne' : ((n : Int) != (n2 : Int)) = true := by simp; omega
    clear hne hn hn2 ha hb hm
    go_enter Tryz.func15, Tryz.ntmps15
    go_wp2_with fail
    go_ret
    exact ⟨⟨false, rfl, fun h => absurd h Bool.false_ne_true, fun h => absurd h N.out⟩, Below.refl _ _⟩
end Go.Proofs.YtglnfnlpkhmlnaaGreatDoor
