/- slices.Equal at headers. The program's Same. One, Of, Feed, Same in written-out form, case by case: what the laws of the requests call. May, and Bytes. -/
import Derived.Test.YtafmgoekgijfgaaGreatDoorYHdRefT
import Derived.Test.YtafmgoekgijfgaaGreatDoorYRqSame
import Derived.Test.YtafmgoekgijfgaaGreatDoorYRqM4
import Derived.Test.YtafmgoekgijfgaaGreatDoorYRqOne
import Derived.Test.YtafmgoekgijfgaaGreatDoorYRqPiece
import Derived.Test.YtafmgoekgijfgaaGreatDoorYRqM1
import Derived.Test.YtafmgoekgijfgaaGreatDoorYRqM8
namespace Go.Proofs.YtafmgoekgijfgaaGreatDoor
open Go.RowKit Go.Lib

set_option maxRecDepth 100000 in
set_option maxHeartbeats 1000000 in
theorem heq_any (va vb : Value) (a b : List Hd) (w : World) (ha : GAt KH w va a) (hb : GAt KH w vb b) (hm : b.length ≤ 1000) :
   Calls Tryz.prog 58 #[va, vb] w (fun e w' => e = .returned (.bool (decide (a = b))) ∧ Below w.heap.size w w') := by
 obtain ⟨ao, ac, rfl⟩ := ha.len
 obtain ⟨bo, bc, rfl⟩ := hb.len
 by_cases hne : a.length = b.length
 · have hne' : (((a.length : Nat) : Int) != ((b.length : Nat) : Int)) = false := by rw [hne]; simp
   obtain ⟨V, hV⟩ : ∃ V, decide (a = b) = V := ⟨_, rfl⟩
   rw [hV]
   have H0 : HidL (decide (a.drop 0 = b.drop 0) = V) := ⟨hV⟩
   obtain ⟨n, hn⟩ : ∃ n, b.length = n := ⟨_, rfl⟩
   rw [hn] at hne hb hne' hm ⊢
   rw [hne] at ha hne' ⊢
   have HA := hideL ha
   have HB' := hideL hb
   have HN := hideL hne
   have HM := hideL hn
   clear ha hb hV hne hn
   go_enter Tryz.func58, Tryz.ntmps58
   go_wp2_with fail
   go_loopw [13] (fun i wr => ∃ k : Nat, k ≤ n ∧ i = .int .i64 k ∧ HidL (Below w.heap.size w wr) ∧ HidL (decide (a.drop k = b.drop k) = V)) (fun i _ => n - (RowKit.intOf i).toNat)
   case atStart => exact ⟨0, Nat.zero_le _, rfl, ⟨Below.refl _ _⟩, H0⟩
   case round =>
     obtain ⟨k, hk, rfl, HB, HD⟩ := hrel
     clear H0
     obtain ⟨W, rfl⟩ : ∃ W, W = wr := ⟨_, rfl⟩
     by_cases hlt : k < n
     · have hlt' : (k : Int) < (n : Int) := by omega
       obtain ⟨b1, o1, e1, l1, c1⟩ := HA.out.at (k := k) hlt
       obtain ⟨b2, o2, e2, l2, c2⟩ := HB'.out.at (k := k) hlt
       subst e1 e2
       have hD := HD.out
       rw [heads_step (by rw [HN.out]; exact hlt) (by rw [HM.out]; exact hlt)] at hD
       generalize a.getD k KH.dft = x at *
       generalize b.getD k KH.dft = y at *
       obtain ⟨xn, xv⟩ := x
       obtain ⟨yn, yv⟩ := y
       have d1 : W.cell? ⟨b1, o1 + k * 2, none⟩ = some (.string xn) := (HB.out.cell (p := ⟨b1, o1 + k * 2, none⟩) l1).trans (c1 0 (by decide))
       have d2 : W.cell? ⟨b1, o1 + k * 2 + 1, none⟩ = some (.string xv) := (HB.out.cell (p := ⟨b1, o1 + k * 2 + 1, none⟩) l1).trans (c1 1 (by decide))
       have d3 : W.cell? ⟨b2, o2 + k * 2, none⟩ = some (.string yn) := (HB.out.cell (p := ⟨b2, o2 + k * 2, none⟩) l2).trans (c2 0 (by decide))
       have d4 : W.cell? ⟨b2, o2 + k * 2 + 1, none⟩ = some (.string yv) := (HB.out.cell (p := ⟨b2, o2 + k * 2 + 1, none⟩) l2).trans (c2 1 (by decide))
       clear HD l1 l2 c1 c2
       by_cases hx : xn = yn ∧ xv = yv
       · have he1 := eqs_true hx.1
         have he2 := eqs_true hx.2
         rw [decide_eq_true (show (⟨xn, xv⟩ : Hd) = ⟨yn, yv⟩ by rw [hx.1, hx.2]), Bool.true_and] at hD
         have HN2 := hideL hD
         clear hD hx
         go_wp2_with go_region
         all_goals go_roundw
         all_goals first
           | (case rel => exact ⟨k + 1, by omega, by go_num, ⟨HB.out.drew⟩, HN2⟩)
           | (case measure => simp [RowKit.intOf]; omega)
       · rw [decide_eq_false (fun e : (⟨xn, xv⟩ : Hd) = ⟨yn, yv⟩ => hx (by injection e with e1 e2; exact ⟨e1, e2⟩)), Bool.false_and] at hD
         subst hD
         by_cases hy : xn = yn
         · have he1 := eqs_true hy
           have he2 := eqs_false (fun e => hx ⟨hy, e⟩)
           clear hx hy
           go_wp2_with go_region
           all_goals go_ret
           all_goals exact ⟨rfl, HB.out.drew⟩
         · have he1 := eqs_false hy
           clear hx hy
           go_wp2_with go_region
           all_goals go_ret
           all_goals exact ⟨rfl, HB.out.drew⟩
     · obtain rfl : k = n := by omega
       have hlt' : ¬ (k : Int) < (k : Int) := by omega
       have hD := HD.out
       rw [List.drop_of_length_le (by rw [HN.out]; omega), List.drop_of_length_le (by rw [HM.out]; omega)] at hD
       have hBt : V = true := by rw [← hD]; rfl
       subst hBt
       clear HD hD
       go_wp2_with fail
       go_ret
       exact ⟨rfl, HB.out⟩
 · rw [decide_eq_false (fun e => hne (by rw [e]))]
   have hne' : (((a.length : Nat) : Int) == ((b.length : Nat) : Int)) = false := beq_eq_false_iff_ne.2 (by omega)
   clear ha hb
   go_enter Tryz.func58, Tryz.ntmps58
   go_wp2_with fail
   go_ret
   exact ⟨rfl, Below.refl _ _⟩
end Go.Proofs.YtafmgoekgijfgaaGreatDoor
namespace Go.Proofs.YtafmgoekgijfgaaGreatDoor
open Go.RowKit Go.Lib

set_option maxRecDepth 100000 in
set_option maxHeartbeats 2000000 in
theorem sameQC (s0 s1 s2 s3 s4 t0 t1 t2 t3 t4 : ByteArray) (ha : Option Addr) (hn hc : Nat) (ba : Option Addr) (bn bc : Nat) (ka : Option Addr) (kn kc : Nat) (la : Option Addr) (ln lc : Nat) (x y : Rq) (w : World)
   (h1 : ReqAt w ⟨s0, s1, s2, s3, s4, ⟨ha, hn, hc⟩, ⟨ba, bn, bc⟩⟩ x) (h2 : ReqAt w ⟨t0, t1, t2, t3, t4, ⟨ka, kn, kc⟩, ⟨la, ln, lc⟩⟩ y) (hm : y.heads.length ≤ 1000) :
   Calls Tryz.prog 20 #[.agg #[.string s0, .string s1, .string s2, .string s3, .string s4, .slice ha hn hc, .slice ba bn bc], .agg #[.string t0, .string t1, .string t2, .string t3, .string t4, .slice ka kn kc, .slice la ln lc]] w fun e w' => (∃ z, e = .returned (.bool z) ∧ (z = true ↔ x = y)) ∧ Below w.heap.size w w' := by
 obtain ⟨e0, e1, e2, e3, e4, g1, g2⟩ := h1
 obtain ⟨f0, f1, f2, f3, f4, k1, k2⟩ := h2
 simp only [Sl.v] at g1 g2 k1 k2
 have j0 := bys_eq e0 f0
 have j1 := bys_eq e1 f1
 have j2 := bys_eq e2 f2
 have j3 := bys_eq e3 f3
 have j4 := bys_eq e4 f4
 clear e0 f0 e1 f1 e2 f2 e3 f3 e4 f4
 obtain ⟨x0, x1, x2, x3, x4, x5, x6⟩ := x
 obtain ⟨y0, y1, y2, y3, y4, y5, y6⟩ := y
 simp only at g1 g2 k1 k2 hm j0 j1 j2 j3 j4
 have b1 := heap_alloc_new w (cO #[.string s0, .string s1, .string s2, .string s3, .string s4, .slice ha hn hc, .slice ba bn bc] 26)
 have B1 := (Below.refl w.heap.size w).alloc (Nat.le_refl _) (cO #[.string s0, .string s1, .string s2, .string s3, .string s4, .slice ha hn hc, .slice ba bn bc] 26)
 have b2 := heap_alloc_new (w.alloc (cO #[.string s0, .string s1, .string s2, .string s3, .string s4, .slice ha hn hc, .slice ba bn bc] 26)) (cO #[.string t0, .string t1, .string t2, .string t3, .string t4, .slice ka kn kc, .slice la ln lc] 26)
 have B2 := (Below.refl (w.alloc (cO #[.string s0, .string s1, .string s2, .string s3, .string s4, .slice ha hn hc, .slice ba bn bc] 26)).heap.size (w.alloc (cO #[.string s0, .string s1, .string s2, .string s3, .string s4, .slice ha hn hc, .slice ba bn bc] 26))).alloc (Nat.le_refl _) (cO #[.string t0, .string t1, .string t2, .string t3, .string t4, .slice ka kn kc, .slice la ln lc] 26)
 have b1 := (B2.block _ (by rw [World.size_alloc]; omega)).trans b1
 have hB := B1.trans (B2.mono B1.size)
 rw [World.size_alloc] at b2
 clear B1 B2
 have H1 := hideL b1
 have H2 := hideL b2
 have HB := hideL hB
 have G1 := hideL (g1.below hB)
 have G2 := hideL (g2.below hB)
 have K1 := hideL (k1.below hB)
 have K2 := hideL (k2.below hB)
 have HM := hideL hm
 clear hB g1 g2 k1 k2 hm
 have q0 := cell_of_row _ _ 0 _ _ _ b1
 have p0 := cell_of_row _ _ 0 _ _ _ b2
 have q1 := cell_of_row _ _ 1 _ _ _ b1
 have p1 := cell_of_row _ _ 1 _ _ _ b2
 have q2 := cell_of_row _ _ 2 _ _ _ b1
 have p2 := cell_of_row _ _ 2 _ _ _ b2
 have q3 := cell_of_row _ _ 3 _ _ _ b1
 have p3 := cell_of_row _ _ 3 _ _ _ b2
 have q4 := cell_of_row _ _ 4 _ _ _ b1
 have p4 := cell_of_row _ _ 4 _ _ _ b2
 have q5 := cell_of_row _ _ 5 _ _ _ b1
 have p5 := cell_of_row _ _ 5 _ _ _ b2
 have q6 := cell_of_row _ _ 6 _ _ _ b1
 have p6 := cell_of_row _ _ 6 _ _ _ b2
 clear b1 b2
 simp only [List.getElem?_toArray, List.getElem?_cons_zero, List.getElem?_cons_succ] at q0 p0 q1 p1 q2 p2 q3 p3 q4 p4 q5 p5 q6 p6
 by_cases c0 : s0 = t0
 rotate_left
 · have c0' := eqs_false c0
   have N := hideL (fun e : (⟨x0, x1, x2, x3, x4, x5, x6⟩ : Rq) = ⟨y0, y1, y2, y3, y4, y5, y6⟩ => c0 (j0.2 (by injection e)))
   clear j0 j1 j2 j3 j4 c0
   go_enter Tryz.func20, Tryz.ntmps20
   go_wp2_with fail
   go_ret
   exact ⟨⟨false, rfl, fun h => absurd h Bool.false_ne_true, fun h => absurd h N.out⟩, HB.out⟩
 have c0' := eqs_true c0
 have E0 := hideL (j0.1 c0)
 clear c0 j0
 by_cases c1 : s1 = t1
 rotate_left
 · have c1' := eqs_false c1
   have N := hideL (fun e : (⟨x0, x1, x2, x3, x4, x5, x6⟩ : Rq) = ⟨y0, y1, y2, y3, y4, y5, y6⟩ => c1 (j1.2 (by injection e)))
   clear j1 j2 j3 j4 c1
   go_enter Tryz.func20, Tryz.ntmps20
   go_wp2_with fail
   go_ret
   exact ⟨⟨false, rfl, fun h => absurd h Bool.false_ne_true, fun h => absurd h N.out⟩, HB.out⟩
 have c1' := eqs_true c1
 have E1 := hideL (j1.1 c1)
 clear c1 j1
 by_cases c2 : s2 = t2
 rotate_left
 · have c2' := eqs_false c2
   have N := hideL (fun e : (⟨x0, x1, x2, x3, x4, x5, x6⟩ : Rq) = ⟨y0, y1, y2, y3, y4, y5, y6⟩ => c2 (j2.2 (by injection e)))
   clear j2 j3 j4 c2
   go_enter Tryz.func20, Tryz.ntmps20
   go_wp2_with fail
   go_ret
   exact ⟨⟨false, rfl, fun h => absurd h Bool.false_ne_true, fun h => absurd h N.out⟩, HB.out⟩
 have c2' := eqs_true c2
 have E2 := hideL (j2.1 c2)
 clear c2 j2
 by_cases c3 : s3 = t3
 rotate_left
 · have c3' := eqs_false c3
   have N := hideL (fun e : (⟨x0, x1, x2, x3, x4, x5, x6⟩ : Rq) = ⟨y0, y1, y2, y3, y4, y5, y6⟩ => c3 (j3.2 (by injection e)))
   clear j3 j4 c3
   go_enter Tryz.func20, Tryz.ntmps20
   go_wp2_with fail
   go_ret
   exact ⟨⟨false, rfl, fun h => absurd h Bool.false_ne_true, fun h => absurd h N.out⟩, HB.out⟩
 have c3' := eqs_true c3
 have E3 := hideL (j3.1 c3)
 clear c3 j3
 by_cases c4 : s4 = t4
 rotate_left
 · have c4' := eqs_false c4
   have N := hideL (fun e : (⟨x0, x1, x2, x3, x4, x5, x6⟩ : Rq) = ⟨y0, y1, y2, y3, y4, y5, y6⟩ => c4 (j4.2 (by injection e)))
   clear j4 c4
   go_enter Tryz.func20, Tryz.ntmps20
   go_wp2_with fail
   go_ret
   exact ⟨⟨false, rfl, fun h => absurd h Bool.false_ne_true, fun h => absurd h N.out⟩, HB.out⟩
 have c4' := eqs_true c4
 have E4 := hideL (j4.1 c4)
 clear c4 j4
 have LS := hideL (heq_any _ _ _ _ _ G1.out K1.out HM.out)
 by_cases ch : x5 = y5
 rotate_left
 · have N := hideL (fun e : (⟨x0, x1, x2, x3, x4, x5, x6⟩ : Rq) = ⟨y0, y1, y2, y3, y4, y5, y6⟩ => ch (by injection e))
   have hch := hideL (decide_eq_false ch)
   clear ch
   go_enter Tryz.func20, Tryz.ntmps20
   go_wp2_with (go_at_call 58; refine LS.out.mono ?_; rintro e w4 ⟨rfl, hB4⟩
                have HB4 := hideL (HB.out.trans (hB4.mono HB.out.size))
                rw [hch.out]
                have b1 := (hB4.block _ (lt_of_some H1.out)).trans H1.out
                have b2 := (hB4.block _ (lt_of_some H2.out)).trans H2.out
                clear hB4 b1 b2)
   go_ret
   exact ⟨⟨false, rfl, fun h => absurd h Bool.false_ne_true, fun h => absurd h N.out⟩, HB4.out⟩
 have hch := hideL (decide_eq_true ch)
 have EH := hideL ch
 clear ch
 by_cases cb : x6 = y6
 · have hcb := hideL (decide_eq_true cb)
   have EB := hideL cb
   clear cb
   go_enter Tryz.func20, Tryz.ntmps20
   go_wp2_with (first
             | (go_at_call 58; refine LS.out.mono ?_; rintro e w4 ⟨rfl, hB4⟩
                have HB4 := hideL (HB.out.trans (hB4.mono HB.out.size))
                rw [hch.out]
                have b1 := (hB4.block _ (lt_of_some H1.out)).trans H1.out
                have b2 := (hB4.block _ (lt_of_some H2.out)).trans H2.out
                have b16 := cell_of_row _ _ 6 _ _ _ b1
                have b26 := cell_of_row _ _ 6 _ _ _ b2
                simp only [List.getElem?_toArray, List.getElem?_cons_zero, List.getElem?_cons_succ] at b16 b26
                have LQ := hideL (bequal_any _ _ _ _ w4 (G2.out.below hB4) (K2.out.below hB4))
                rw [hcb.out] at LQ
                clear hB4 b1 b2)
             | (go_at_call 59; refine LQ.out.mono ?_; rintro e w5 ⟨rfl, rfl⟩))
   go_ret
   exact ⟨⟨true, rfl, fun _ => by rw [E0.out, E1.out, E2.out, E3.out, E4.out, EH.out, EB.out], fun _ => rfl⟩, HB4.out⟩
 · have hcb := hideL (decide_eq_false cb)
   have N := hideL (fun e : (⟨x0, x1, x2, x3, x4, x5, x6⟩ : Rq) = ⟨y0, y1, y2, y3, y4, y5, y6⟩ => cb (by injection e))
   clear cb
   go_enter Tryz.func20, Tryz.ntmps20
   go_wp2_with (first
             | (go_at_call 58; refine LS.out.mono ?_; rintro e w4 ⟨rfl, hB4⟩
                have HB4 := hideL (HB.out.trans (hB4.mono HB.out.size))
                rw [hch.out]
                have b1 := (hB4.block _ (lt_of_some H1.out)).trans H1.out
                have b2 := (hB4.block _ (lt_of_some H2.out)).trans H2.out
                have b16 := cell_of_row _ _ 6 _ _ _ b1
                have b26 := cell_of_row _ _ 6 _ _ _ b2
                simp only [List.getElem?_toArray, List.getElem?_cons_zero, List.getElem?_cons_succ] at b16 b26
                have LQ := hideL (bequal_any _ _ _ _ w4 (G2.out.below hB4) (K2.out.below hB4))
                rw [hcb.out] at LQ
                clear hB4 b1 b2)
             | (go_at_call 59; refine LQ.out.mono ?_; rintro e w5 ⟨rfl, rfl⟩))
   go_ret
   exact ⟨⟨false, rfl, fun h => absurd h Bool.false_ne_true, fun h => absurd h N.out⟩, HB4.out⟩
end Go.Proofs.YtafmgoekgijfgaaGreatDoor
namespace Go.Proofs.YtafmgoekgijfgaaGreatDoor
open Go.RowKit Go.Lib

def OneOk (w : World) (q : Rq) (e : Ending) (w' : World) : Prop := (∃ (m t p r o : ByteArray) (ha : Option Addr) (hn hc : Nat) (ba : Option Addr) (bn bc : Nat), e = .returned (.tuple #[.agg #[.string m, .string t, .string p, .string r, .string o, .slice ha hn hc, .slice ba bn bc], .int .i64 0]) ∧ ReqAt w' ⟨m, t, p, r, o, ⟨ha, hn, hc⟩, ⟨ba, bn, bc⟩⟩ q ∧ ReqGe w.heap.size ⟨m, t, p, r, o, ⟨ha, hn, hc⟩, ⟨ba, bn, bc⟩⟩) ∧ Below w.heap.size w w'
abbrev rqN (n : Int) : Value := .tuple #[.agg #[.string ⟨#[]⟩, .string ⟨#[]⟩, .string ⟨#[]⟩, .string ⟨#[]⟩, .string ⟨#[]⟩, .slice none 0 0, .slice none 0 0], .int .i64 n]
theorem of_okC {x : Rw} {q : Rq} (h : ofRP x = some q) (s : ByteArray) (ra : Option Addr) (rn rc : Nat) (sa : Option Addr) (sn sc : Nat) (w : World) (hr : RawAt w ⟨s, ⟨ra, rn, rc⟩, ⟨sa, sn, sc⟩⟩ x) (hf : Fits x.heads) (hs0 : s.size ≤ 1000000) (hl : x.heads.length ≤ 1000) (hbl : x.body.length ≤ 1000000) (hE : Env w) (hS : EnvS w) :
   Calls Tryz.prog 13 #[.agg #[.string s, .slice ra rn rc, .slice sa sn sc]] w (OneOk w q) := by
 refine (of_any ⟨s, ⟨ra, rn, rc⟩, ⟨sa, sn, sc⟩⟩ x w hr hf hs0 hl hbl hE hS).mono ?_
 unfold OfPost
 rw [h]
 rintro e w' ⟨⟨⟨m, t, p, r, o, ⟨ha, hn, hc⟩, ⟨ba, bn, bc⟩⟩, rfl, h1, h2⟩, hB⟩
 exact ⟨⟨m, t, p, r, o, ha, hn, hc, ba, bn, bc, rfl, h1, h2⟩, hB⟩
theorem of_badC {x : Rw} (h : ofRP x = none) (s : ByteArray) (ra : Option Addr) (rn rc : Nat) (sa : Option Addr) (sn sc : Nat) (w : World) (hr : RawAt w ⟨s, ⟨ra, rn, rc⟩, ⟨sa, sn, sc⟩⟩ x) (hf : Fits x.heads) (hs0 : s.size ≤ 1000000) (hl : x.heads.length ≤ 1000) (hbl : x.body.length ≤ 1000000) (hE : Env w) (hS : EnvS w) :
   Calls Tryz.prog 13 #[.agg #[.string s, .slice ra rn rc, .slice sa sn sc]] w (fun e w' => e = .returned (rqN 2) ∧ Below w.heap.size w w') := by
 refine (of_any ⟨s, ⟨ra, rn, rc⟩, ⟨sa, sn, sc⟩⟩ x w hr hf hs0 hl hbl hE hS).mono ?_
 unfold OfPost
 rw [h]
 rintro e w' ⟨rfl, hB⟩
 exact ⟨rfl, hB⟩
end Go.Proofs.YtafmgoekgijfgaaGreatDoor
namespace Go.Proofs.YtafmgoekgijfgaaGreatDoor
open Go.RowKit Go.Lib

/-- What Of answers, whichever it is. -/
def OfAll (w : World) (x : Rw) (e : Ending) (w' : World) : Prop := (∃ (m t p r o : ByteArray) (ha : Option Addr) (hn hc : Nat) (ba : Option Addr) (bn bc : Nat) (k : Nat), e = .returned (.tuple #[.agg #[.string m, .string t, .string p, .string r, .string o, .slice ha hn hc, .slice ba bn bc], .int .i64 k]) ∧ (ofRP x = none → k = 2) ∧ (∀ q, ofRP x = some q → k = 0 ∧ ReqAt w' ⟨m, t, p, r, o, ⟨ha, hn, hc⟩, ⟨ba, bn, bc⟩⟩ q)) ∧ Below w.heap.size w w'
theorem of_allC {x : Rw} (s : ByteArray) (ra : Option Addr) (rn rc : Nat) (sa : Option Addr) (sn sc : Nat) (w : World) (hr : RawAt w ⟨s, ⟨ra, rn, rc⟩, ⟨sa, sn, sc⟩⟩ x) (hf : Fits x.heads) (hs0 : s.size ≤ 1000000) (hl : x.heads.length ≤ 1000) (hbl : x.body.length ≤ 1000000) (hE : Env w) (hS : EnvS w) :
   Calls Tryz.prog 13 #[.agg #[.string s, .slice ra rn rc, .slice sa sn sc]] w (OfAll w x) := by
 cases ho : ofRP x with
 | none =>
   refine (of_badC ho s ra rn rc sa sn sc w hr hf hs0 hl hbl hE hS).mono ?_
   rintro e w' ⟨rfl, hB⟩
   exact ⟨⟨_, _, _, _, _, none, 0, 0, none, 0, 0, 2, rfl, (fun _ => rfl), (fun q h => by rw [ho] at h; cases h)⟩, hB⟩
 | some q =>
   refine (of_okC ho s ra rn rc sa sn sc w hr hf hs0 hl hbl hE hS).mono ?_
   rintro e w' ⟨⟨m, t, p, r, o, ha, hn, hc, ba, bn, bc, rfl, h1, _⟩, hB⟩
   refine ⟨⟨m, t, p, r, o, ha, hn, hc, ba, bn, bc, 0, rfl, (fun h => by rw [ho] at h; cases h), fun q' h => ?_⟩, hB⟩
   rw [ho] at h
   injection h with h
   exact ⟨rfl, h ▸ h1⟩
theorem sta_len (m t : List UInt8) : (staP m t).length = m.length + t.length + 10 := by
 unfold staP http11
 simp only [List.length_append, List.length_cons, List.length_nil]
 omega
abbrev rqQ (m t p q o : ByteArray) (h b : Value) : Obj := .cells #[.string m, .string t, .string p, .string q, .string o, h, b] 26
theorem rq_box (w : World) (m t p q o : ByteArray) (h b : Value) : RBox7 26 (w.alloc (rqQ m t p q o h b)) w.heap.size (.string m) (.string t) (.string p) (.string q) (.string o) h b := heap_alloc_new w _
theorem raw_box (w : World) (s : ByteArray) (h b : Value) : QBox (w.alloc (rawC s h b)) w.heap.size s h b := heap_alloc_new w _
set_option maxRecDepth 100000 in
set_option maxHeartbeats 2000000 in
theorem may_any (m t p q o : ByteArray) (ha : Option Addr) (hn hc : Nat) (ba : Option Addr) (bn bc : Nat) (x : Rq) (w : World) (hr : ReqAt w ⟨m, t, p, q, o, ⟨ha, hn, hc⟩, ⟨ba, bn, bc⟩⟩ x) (hf : Fits x.heads) (hsz : m.size + t.size ≤ 900000) (hl : x.heads.length ≤ 1000) (hbl : x.body.length ≤ 1000000) (hE : Env w) (hS : EnvS w) :
   Calls Tryz.prog 18 #[.agg #[.string m, .string t, .string p, .string q, .string o, .slice ha hn hc, .slice ba bn bc]] w (fun e w' => (∃ z, e = .returned (.bool z) ∧ (z = true ↔ mayR x)) ∧ Below w.heap.size w w') := by
 have hr0 := hr
 obtain ⟨e1, e2, e3, e4, e5, gh, gb⟩ := hr
 simp only [Sl.v] at gh gb
 have HX1 := hideL (rq_box w m t p q o (.slice ha hn hc) (.slice ba bn bc))
 have HB1 := hideL ((Below.refl w.heap.size w).alloc (Nat.le_refl _) (rqQ m t p q o (.slice ha hn hc) (.slice ba bn bc)))
 have hst : (bo (staP m.data.toList t.data.toList)).data.toList = (rawP x).start := by
   rw [bo_list, e1, e2]
   rfl
 have hss : (bo (staP m.data.toList t.data.toList)).size ≤ 1000000 := by
   rw [bo_size, sta_len, size_list, size_list]
   omega
 obtain ⟨S, hS0⟩ : ∃ S, bo (staP m.data.toList t.data.toList) = S := ⟨_, rfl⟩
 have LM := hideL (fun W : World => message_any m t p q o ha hn hc ba bn bc W (by omega))
 rw [hS0] at hst hss LM
 have hraw : ∀ W : World, Below w.heap.size w W → RawAt W ⟨S, ⟨ha, hn, hc⟩, ⟨ba, bn, bc⟩⟩ (rawP x) := fun W hb => ⟨hst, gh.below hb, gb.below hb⟩
 have LF := fun (W : World) (hb : Below w.heap.size w W) => frame_any S ha hn hc ba bn bc (rawP x) W (hraw W hb) hf hl (hE.next hb)
 unfold FrPost at LF
 have LO := hideL (fun (W : World) (hb : Below w.heap.size w W) => of_allC (x := rawP x) S ha hn hc ba bn bc W (hraw W hb) hf hss hl hbl (hE.next hb) (hS.next hb))
 have HR0 := hideL (fun (W : World) (hb : Below w.heap.size w W) => hr0.below hb)
 have HL := hideL hl
 obtain ⟨F, hF⟩ : ∃ b, fitP (rawP x).heads (rawP x).body = b := ⟨_, rfl⟩
 rw [hF] at LF
 have hF' : fitP x.heads x.body = F := hF
 have x0 := HX1.out.c0
 have x1 := HX1.out.c1
 have x2 := HX1.out.c2
 have x3 := HX1.out.c3
 have x4 := HX1.out.c4
 have x5 := HX1.out.c5
 have x6 := HX1.out.c6
 clear hr0 e1 e2 e3 e4 e5 gh gb hst hss hS0 hraw hf hsz hl hbl hE hS hF
 cases F with
 | false =>
   have HN := hideL (fun h : mayR x => Bool.false_ne_true (hF'.symm.trans h.2))
   have LF := hideL LF
   clear hF'
   go_enter Tryz.func18, Tryz.ntmps18
   go_wp2_with (first
     | (go_at_call 57; refine (LM.out _).mono ?_; rintro e w2 ⟨rfl, hB⟩; have hz := (Below.refl w2.heap.size w2).alloc (Nat.le_refl _) (rawC S (.slice ha hn hc) (.slice ba bn bc)); have hq := raw_box w2 S (.slice ha hn hc) (.slice ba bn bc); have HB2 := hideL (HB1.out.trans ((hB.trans (hz.mono hB.size)).mono HB1.out.size)); have HQ2 := hideL hq; have y0 := hq.c0; have y1 := hq.c1; have y2 := hq.c2; clear hB hz hq)
     | (go_at_call 51; refine (LF.out _ HB2.out).mono ?_; rintro e w3 ⟨⟨fa, fb, fc, rfl, _⟩, hB⟩; have hz := (Below.refl w3.heap.size w3).alloc (Nat.le_refl _) (bdO fa fb fc); have hz2 := hB.trans (hz.mono hB.size); have HB3 := hideL (HB2.out.trans (hz2.mono HB2.out.size)); have hq := HQ2.out.next hz2; have y0 := hq.c0; have y1 := hq.c1; have y2 := hq.c2; clear hB hz hz2 hq)
     | (go_at_call 13; refine (LO.out _ HB3.out).mono ?_; rintro e w4 ⟨⟨m2, t2, p2, q2, o2, ha2, hn2, hc2, ba2, bn2, bc2, k2, rfl, _, _⟩, hB⟩; have hz := (Below.refl w4.heap.size w4).alloc (Nat.le_refl _) (rqQ m2 t2 p2 q2 o2 (.slice ha2 hn2 hc2) (.slice ba2 bn2 bc2)); have HB4 := hideL (HB3.out.trans ((hB.trans (hz.mono hB.size)).mono HB3.out.size)); clear hB hz))
   go_ret
   exact ⟨⟨false, rfl, fun h => absurd h Bool.false_ne_true, fun h => absurd h HN.out⟩, HB4.out⟩
 | true =>
   have LF := hideL LF
   cases ho : ofRP (rawP x) with
   | none =>
     have HN := hideL (show ¬ mayR x from fun h => by have := h.1; rw [ho] at this; cases this)
     have HO := hideL ho
     clear hF' ho
     go_enter Tryz.func18, Tryz.ntmps18
     go_wp2_with (first
       | (go_at_call 57; refine (LM.out _).mono ?_; rintro e w2 ⟨rfl, hB⟩; have hz := (Below.refl w2.heap.size w2).alloc (Nat.le_refl _) (rawC S (.slice ha hn hc) (.slice ba bn bc)); have hq := raw_box w2 S (.slice ha hn hc) (.slice ba bn bc); have HB2 := hideL (HB1.out.trans ((hB.trans (hz.mono hB.size)).mono HB1.out.size)); have HQ2 := hideL hq; have y0 := hq.c0; have y1 := hq.c1; have y2 := hq.c2; clear hB hz hq)
       | (go_at_call 51; refine (LF.out _ HB2.out).mono ?_; rintro e w3 ⟨⟨fa, fb, fc, rfl, _⟩, hB⟩; have hz := (Below.refl w3.heap.size w3).alloc (Nat.le_refl _) (bdO fa fb fc); have hz2 := hB.trans (hz.mono hB.size); have HB3 := hideL (HB2.out.trans (hz2.mono HB2.out.size)); have hq := HQ2.out.next hz2; have y0 := hq.c0; have y1 := hq.c1; have y2 := hq.c2; clear hB hz hz2 hq)
       | (go_at_call 13; refine (LO.out _ HB3.out).mono ?_; rintro e w4 ⟨⟨m2, t2, p2, q2, o2, ha2, hn2, hc2, ba2, bn2, bc2, k2, rfl, hk, _⟩, hB⟩; obtain rfl := hk HO.out; have hz := (Below.refl w4.heap.size w4).alloc (Nat.le_refl _) (rqQ m2 t2 p2 q2 o2 (.slice ha2 hn2 hc2) (.slice ba2 bn2 bc2)); have HB4 := hideL (HB3.out.trans ((hB.trans (hz.mono hB.size)).mono HB3.out.size)); clear hB hz))
     go_ret
     exact ⟨⟨false, rfl, fun h => absurd h Bool.false_ne_true, fun h => absurd h HN.out⟩, HB4.out⟩
   | some y =>
     have HI := hideL (show y = x ↔ mayR x from ⟨(fun h => ⟨by rw [ho, h], hF'⟩), (fun h => by have := h.1; rw [ho] at this; injection this)⟩)
     have HO := hideL ho
     clear hF' ho
     go_enter Tryz.func18, Tryz.ntmps18
     go_wp2_with (first
       | (go_at_call 57; refine (LM.out _).mono ?_; rintro e w2 ⟨rfl, hB⟩; have hz := (Below.refl w2.heap.size w2).alloc (Nat.le_refl _) (rawC S (.slice ha hn hc) (.slice ba bn bc)); have hz2 := hB.trans (hz.mono hB.size); have hq := raw_box w2 S (.slice ha hn hc) (.slice ba bn bc); have HB2 := hideL (HB1.out.trans (hz2.mono HB1.out.size)); have HX2 := hideL (HX1.out.next hz2); have HQ2 := hideL hq; have y0 := hq.c0; have y1 := hq.c1; have y2 := hq.c2; clear hB hz hz2 hq)
       | (go_at_call 51; refine (LF.out _ HB2.out).mono ?_; rintro e w3 ⟨⟨fa, fb, fc, rfl, _⟩, hB⟩; have hz := (Below.refl w3.heap.size w3).alloc (Nat.le_refl _) (bdO fa fb fc); have hz2 := hB.trans (hz.mono hB.size); have HB3 := hideL (HB2.out.trans (hz2.mono HB2.out.size)); have HX3 := hideL (HX2.out.next hz2); have hq := HQ2.out.next hz2; have y0 := hq.c0; have y1 := hq.c1; have y2 := hq.c2; clear hB hz hz2 hq)
       | (go_at_call 13; refine (LO.out _ HB3.out).mono ?_; rintro e w4 ⟨⟨m2, t2, p2, q2, o2, ha2, hn2, hc2, ba2, bn2, bc2, k2, rfl, _, hk⟩, hB⟩; obtain ⟨rfl, hreq⟩ := hk y HO.out; have hz := (Below.refl w4.heap.size w4).alloc (Nat.le_refl _) (rqQ m2 t2 p2 q2 o2 (.slice ha2 hn2 hc2) (.slice ba2 bn2 bc2)); have hz2 := hB.trans (hz.mono hB.size); have HB4 := hideL (HB3.out.trans (hz2.mono HB3.out.size)); have hb := HX3.out.next hz2; have x0 := hb.c0; have x1 := hb.c1; have x2 := hb.c2; have x3 := hb.c3; have x4 := hb.c4; have x5 := hb.c5; have x6 := hb.c6; have hb2 := rq_box w4 m2 t2 p2 q2 o2 (.slice ha2 hn2 hc2) (.slice ba2 bn2 bc2); have z0 := hb2.c0; have z1 := hb2.c1; have z2 := hb2.c2; have z3 := hb2.c3; have z4 := hb2.c4; have z5 := hb2.c5; have z6 := hb2.c6; have LS := hideL (sameQC m2 t2 p2 q2 o2 m t p q o ha2 hn2 hc2 ba2 bn2 bc2 ha hn hc ba bn bc y x _ (hreq.below hz) (HR0.out _ HB4.out) HL.out); clear hB hz hz2 hb hb2 hreq hk)
       | (go_at_call 20; refine LS.out.mono ?_; rintro e w5 ⟨⟨z, rfl, hzz⟩, hB⟩; have HB5 := hideL (HB4.out.trans (hB.mono HB4.out.size)); have HZ := hideL hzz; clear hB hzz))
     go_ret
     exact ⟨⟨z, rfl, HZ.out.trans HI.out⟩, HB5.out⟩
set_option maxRecDepth 100000 in
set_option maxHeartbeats 2000000 in
theorem bytes_badC {x : Rq} (hm : ¬ mayR x) (m t p q o : ByteArray) (ha : Option Addr) (hn hc : Nat) (ba : Option Addr) (bn bc : Nat) (w : World) (hr : ReqAt w ⟨m, t, p, q, o, ⟨ha, hn, hc⟩, ⟨ba, bn, bc⟩⟩ x) (hf : Fits x.heads) (hsz : m.size + t.size ≤ 900000) (hl : x.heads.length ≤ 1000) (hbl : x.body.length ≤ 1000000) (hE : Env w) (hS : EnvS w) :
   Calls Tryz.prog 22 #[.agg #[.string m, .string t, .string p, .string q, .string o, .slice ha hn hc, .slice ba bn bc]] w (fun e w' => e = .returned (.tuple #[.slice none 0 0, .int .i64 1]) ∧ Below w.heap.size w w') := by
 have HX1 := hideL (rq_box w m t p q o (.slice ha hn hc) (.slice ba bn bc))
 have HB1 := hideL ((Below.refl w.heap.size w).alloc (Nat.le_refl _) (rqQ m t p q o (.slice ha hn hc) (.slice ba bn bc)))
 have LM := hideL (may_any m t p q o ha hn hc ba bn bc x _ (hr.below HB1.out) hf hsz hl hbl (hE.next HB1.out) (hS.next HB1.out))
 have HM := hideL hm
 have hb := HX1.out
 have x0 := hb.c0
 have x1 := hb.c1
 have x2 := hb.c2
 have x3 := hb.c3
 have x4 := hb.c4
 have x5 := hb.c5
 have x6 := hb.c6
 clear hb hr hf hsz hl hbl hE hS hm
 go_enter Tryz.func22, Tryz.ntmps22
 go_wp2_with (go_at_call 18; refine LM.out.mono ?_; rintro e w2 ⟨⟨z, rfl, hz⟩, hB⟩; obtain rfl : z = false := Bool.eq_false_iff.2 (fun h => HM.out (hz.1 h)); have HB2 := hideL (HB1.out.trans (hB.mono HB1.out.size)); clear hB hz)
 exact bodyPost_ret (v := .tuple #[.slice none 0 0, .int .i64 1]) (by simp [results, Tryz.results22, go_sem]) rfl ⟨rfl, HB2.out⟩
def BytOk (w : World) (x : Rq) (e : Ending) (w' : World) : Prop := (∃ r : Sl, e = .returned (.tuple #[r.v, .int .i64 0]) ∧ BRow w' w.heap.size r.v (wrtP (rawP x))) ∧ Below w.heap.size w w'
set_option maxRecDepth 100000 in
set_option maxHeartbeats 2000000 in
theorem bytes_okC {x : Rq} (hm : mayR x) (m t p q o : ByteArray) (ha : Option Addr) (hn hc : Nat) (ba : Option Addr) (bn bc : Nat) (w : World) (hr : ReqAt w ⟨m, t, p, q, o, ⟨ha, hn, hc⟩, ⟨ba, bn, bc⟩⟩ x) (hsz : m.size + t.size ≤ 900000) (hE : Env w) (hS : EnvS w) (hT : EnvT w) :
   Calls Tryz.prog 22 #[.agg #[.string m, .string t, .string p, .string q, .string o, .slice ha hn hc, .slice ba bn bc]] w (BytOk w x) := by
 obtain ⟨hmay, hbl, _⟩ := fit_may hm.2
 have hf := good_fits hmay
 have hl := mayH_len hmay
 have HX1 := hideL (rq_box w m t p q o (.slice ha hn hc) (.slice ba bn bc))
 have HB1 := hideL ((Below.refl w.heap.size w).alloc (Nat.le_refl _) (rqQ m t p q o (.slice ha hn hc) (.slice ba bn bc)))
 have LM := hideL (may_any m t p q o ha hn hc ba bn bc x _ (hr.below HB1.out) hf hsz (by omega) (by omega) (hE.next HB1.out) (hS.next HB1.out))
 have HM := hideL hm
 have hb := HX1.out
 have x0 := hb.c0
 have x1 := hb.c1
 have x2 := hb.c2
 have x3 := hb.c3
 have x4 := hb.c4
 have x5 := hb.c5
 have x6 := hb.c6
 have hss : (bo (staP m.data.toList t.data.toList)).size ≤ 1000000 := by
   rw [bo_size, sta_len, size_list, size_list]
   omega
 have hst : (bo (staP m.data.toList t.data.toList)).data.toList = (rawP x).start := by
   rw [bo_list, hr.1, hr.2.1]
   rfl
 have LG := hideL (fun W : World => message_any m t p q o ha hn hc ba bn bc W (by omega))
 have LW := hideL (fun (W : World) (h : Below w.heap.size w W) => write_any (bo (staP m.data.toList t.data.toList)) ha hn hc ba bn bc (rawP x) W ⟨hst, hr.2.2.2.2.2.1.below h, hr.2.2.2.2.2.2.below h⟩ hf hss (show x.heads.length ≤ 1000 by omega) (hE.next h) (hT.next h))
 have HW := hideL (may_wrt hm)
 generalize bo (staP m.data.toList t.data.toList) = S at *
 unfold BytOk
 clear hb hr hf hsz hl hbl hE hS hm hmay hss hst hT
 go_enter Tryz.func22, Tryz.ntmps22
 go_wp2_with (first
   | (go_at_call 18; refine LM.out.mono ?_; rintro e w2 ⟨⟨z, rfl, hz⟩, hB⟩; obtain rfl : z = true := hz.2 HM.out; have HB2 := hideL (HB1.out.trans (hB.mono HB1.out.size)); have hb := HX1.out.next hB; have x0 := hb.c0; have x1 := hb.c1; have x2 := hb.c2; have x3 := hb.c3; have x4 := hb.c4; have x5 := hb.c5; have x6 := hb.c6; clear hB hz hb)
   | (go_at_call 57; refine (LG.out _).mono ?_; rintro e w3 ⟨rfl, hB⟩; have HB3 := hideL (HB2.out.trans (hB.mono HB2.out.size)); clear hB)
   | (go_at_call 15; refine (LW.out _ HB3.out).mono ?_; rintro e w4 ⟨h4, hB⟩; rw [if_pos HW.out] at h4; obtain ⟨r, rfl, hr4⟩ := h4; have HR4 := hideL (hr4.base HB3.out.size); have HB4 := hideL (HB3.out.trans (hB.mono HB3.out.size)); clear hB hr4))
 exact bodyPost_ret (v := .tuple #[r.v, .int .i64 0]) (by simp [results, Tryz.results22, go_sem]) rfl ⟨⟨r, rfl, HR4.out⟩, HB4.out⟩
end Go.Proofs.YtafmgoekgijfgaaGreatDoor
