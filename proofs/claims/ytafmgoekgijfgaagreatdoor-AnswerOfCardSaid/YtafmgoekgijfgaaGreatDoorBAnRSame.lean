/- The document's Same at answers; the laws' long. -/
import Derived.Test.YtafmgoekgijfgaaGreatDoorBAnArg
import Derived.Test.YtafmgoekgijfgaaGreatDoorBHdRefT
import Derived.Test.YtafmgoekgijfgaaGreatDoorBRqFeed
import Derived.Test.YtafmgoekgijfgaaGreatDoorBRqMA
namespace Go.Proofs.YtafmgoekgijfgaaGreatDoor
open Go.RowKit Go.Lib

set_option maxRecDepth 100000 in
set_option maxHeartbeats 2000000 in
theorem rsameA (c d : Int) (ha : Option Addr) (hn hc : Nat) (ba : Option Addr) (bn bc : Nat) (ka : Option Addr) (kn kc : Nat) (la : Option Addr) (ln lc : Nat) (x y : An) (w : World)
   (h1 : AnsAt w ⟨c, ⟨ha, hn, hc⟩, ⟨ba, bn, bc⟩⟩ x) (h2 : AnsAt w ⟨d, ⟨ka, kn, kc⟩, ⟨la, ln, lc⟩⟩ y) (hm : y.heads.length ≤ 1000) :
   Calls Tryz.prog 30 #[.agg #[.int .i64 c, .slice ha hn hc, .slice ba bn bc], .agg #[.int .i64 d, .slice ka kn kc, .slice la ln lc]] w fun e w' => (∃ z, e = .returned (.bool z) ∧ (z = true ↔ x = y)) ∧ Below w.heap.size w w' := by
 obtain ⟨e0, g1, g2⟩ := h1
 obtain ⟨f0, k1, k2⟩ := h2
 obtain ⟨x0, x1, x2⟩ := x
 obtain ⟨y0, y1, y2⟩ := y
 simp only [Sl.v] at e0 f0 g1 g2 k1 k2 hm
 obtain rfl := e0
 obtain rfl := f0
 have b1 := heap_alloc_new w (anC c (.slice ha hn hc) (.slice ba bn bc))
 have B1 := (Below.refl w.heap.size w).alloc (Nat.le_refl _) (anC c (.slice ha hn hc) (.slice ba bn bc))
 have b2 := heap_alloc_new (w.alloc (anC c (.slice ha hn hc) (.slice ba bn bc))) (anC d (.slice ka kn kc) (.slice la ln lc))
 have B2 := (Below.refl (w.alloc (anC c (.slice ha hn hc) (.slice ba bn bc))).heap.size (w.alloc (anC c (.slice ha hn hc) (.slice ba bn bc)))).alloc (Nat.le_refl _) (anC d (.slice ka kn kc) (.slice la ln lc))
 have b1 := (B2.block _ (by rw [World.size_alloc]; omega)).trans b1
 have hB := B1.trans (B2.mono B1.size)
 rw [World.size_alloc] at b2
 clear B1 B2
 have H1 := hideL b1
 have H2 := hideL b2
 have HB := hideL hB
 have G1 := hideL (g1.below hB)
 have G2 := hideL (g2.below hB)
 have K1 := hideL (k1.below hB)
 have K2 := hideL (k2.below hB)
 have HM := hideL hm
 clear hB g1 g2 k1 k2 hm
 have q0 := cell_of_row _ _ 0 _ _ _ b1
 have p0 := cell_of_row _ _ 0 _ _ _ b2
 have q1 := cell_of_row _ _ 1 _ _ _ b1
 have p1 := cell_of_row _ _ 1 _ _ _ b2
 have q2 := cell_of_row _ _ 2 _ _ _ b1
 have p2 := cell_of_row _ _ 2 _ _ _ b2
 clear b1 b2
 simp only [List.getElem?_toArray, List.getElem?_cons_zero, List.getElem?_cons_succ] at q0 p0 q1 p1 q2 p2
 by_cases c0 : c = d
 rotate_left
 · have c0' : (c == d) = false := beq_eq_false_iff_ne.2 c0
   have N := hideL (fun e : (⟨c, x1, x2⟩ : An) = ⟨d, y1, y2⟩ => c0 (by injection e))
   clear c0
   go_enter Tryz.func30, Tryz.ntmps30
   go_wp2_with fail
   go_ret
   exact ⟨⟨false, rfl, fun h => absurd h Bool.false_ne_true, fun h => absurd h N.out⟩, HB.out⟩
 have c0' : (c == d) = true := beq_iff_eq.2 c0
 have E0 := hideL c0
 clear c0
 have LS := hideL (same_any _ _ _ _ _ G1.out K1.out HM.out)
 by_cases ch : x1 = y1
 rotate_left
 · have N := hideL (fun e : (⟨c, x1, x2⟩ : An) = ⟨d, y1, y2⟩ => ch (by injection e))
   have hch := hideL (decide_eq_false ch)
   clear ch
   go_enter Tryz.func30, Tryz.ntmps30
   go_wp2_with (go_at_call 39; refine LS.out.mono ?_; rintro e w4 ⟨rfl, hB4⟩
                have HB4 := hideL (HB.out.trans (hB4.mono HB.out.size))
                rw [hch.out]
                have b1 := (hB4.block _ (Array.getElem?_eq_some_iff.1 H1.out).1).trans H1.out
                have b2 := (hB4.block _ (Array.getElem?_eq_some_iff.1 H2.out).1).trans H2.out
                have b12 := cell_of_row _ _ 2 _ _ _ b1
                have b22 := cell_of_row _ _ 2 _ _ _ b2
                simp only [List.getElem?_toArray, List.getElem?_cons_zero, List.getElem?_cons_succ] at b12 b22
                have k1 := to_strA w4 _ _ _ _ (G2.out.below hB4)
                have k2 := to_strA w4 _ _ _ _ (K2.out.below hB4)
                clear hB4 b1 b2)
   go_ret
   exact ⟨⟨false, rfl, fun h => absurd h Bool.false_ne_true, fun h => absurd h N.out⟩, HB4.out⟩
 have hch := hideL (decide_eq_true ch)
 have EH := hideL ch
 clear ch
 by_cases cb : x2 = y2
 · have hcb := eqs_true (congrArg bo cb)
   have EB := hideL cb
   clear cb
   go_enter Tryz.func30, Tryz.ntmps30
   go_wp2_with (go_at_call 39; refine LS.out.mono ?_; rintro e w4 ⟨rfl, hB4⟩
                have HB4 := hideL (HB.out.trans (hB4.mono HB.out.size))
                rw [hch.out]
                have b1 := (hB4.block _ (Array.getElem?_eq_some_iff.1 H1.out).1).trans H1.out
                have b2 := (hB4.block _ (Array.getElem?_eq_some_iff.1 H2.out).1).trans H2.out
                have b12 := cell_of_row _ _ 2 _ _ _ b1
                have b22 := cell_of_row _ _ 2 _ _ _ b2
                simp only [List.getElem?_toArray, List.getElem?_cons_zero, List.getElem?_cons_succ] at b12 b22
                have k1 := to_strA w4 _ _ _ _ (G2.out.below hB4)
                have k2 := to_strA w4 _ _ _ _ (K2.out.below hB4)
                clear hB4 b1 b2)
   go_ret
   exact ⟨⟨true, rfl, fun _ => by rw [E0.out, EH.out, EB.out], fun _ => rfl⟩, HB4.out⟩
 · have hcb := eqs_false (fun e => cb (bo_inj e))
   have N := hideL (fun e : (⟨c, x1, x2⟩ : An) = ⟨d, y1, y2⟩ => cb (by injection e))
   clear cb
   go_enter Tryz.func30, Tryz.ntmps30
   go_wp2_with (go_at_call 39; refine LS.out.mono ?_; rintro e w4 ⟨rfl, hB4⟩
                have HB4 := hideL (HB.out.trans (hB4.mono HB.out.size))
                rw [hch.out]
                have b1 := (hB4.block _ (Array.getElem?_eq_some_iff.1 H1.out).1).trans H1.out
                have b2 := (hB4.block _ (Array.getElem?_eq_some_iff.1 H2.out).1).trans H2.out
                have b12 := cell_of_row _ _ 2 _ _ _ b1
                have b22 := cell_of_row _ _ 2 _ _ _ b2
                simp only [List.getElem?_toArray, List.getElem?_cons_zero, List.getElem?_cons_succ] at b12 b22
                have k1 := to_strA w4 _ _ _ _ (G2.out.below hB4)
                have k2 := to_strA w4 _ _ _ _ (K2.out.below hB4)
                clear hB4 b1 b2)
   go_ret
   exact ⟨⟨false, rfl, fun h => absurd h Bool.false_ne_true, fun h => absurd h N.out⟩, HB4.out⟩
/-- Is an answer more than is gone through? -/
def lngA (b : Nat) (h : List Hd) : Bool := decide (3000 < b) || longP h
theorem lngA_no {b : Nat} {h : List Hd} (e : lngA b h = false) : b ≤ 3000 ∧ longP h = false := by
 unfold lngA at e
 simp only [Bool.or_eq_false_iff, decide_eq_false_iff_not] at e
 exact ⟨by omega, e.2⟩
set_option maxRecDepth 100000 in
set_option maxHeartbeats 1000000 in
theorem along_any (c : Int) (ha : Option Addr) (hn hc : Nat) (ba : Option Addr) (bn bc : Nat) (h : List Hd) (w : World) (gh : GAt KH w (.slice ha hn hc) h) : Calls Tryz.prog 23 #[.agg #[.int .i64 c, .slice ha hn hc, .slice ba bn bc]] w (fun e w' => e = .returned (.bool (lngA bn h)) ∧ Below w.heap.size w w') := by
 have hq := ABox.new w c (.slice ha hn hc) (.slice ba bn bc)
 have HB1 := hideL ((Below.refl w.heap.size w).alloc (Nat.le_refl _) (anC c (.slice ha hn hc) (.slice ba bn bc)))
 have LG := hideL (long_any (.slice ha hn hc) h _ (gh.below HB1.out))
 have y1 := hq.c1
 have y2 := hq.c2
 unfold lngA
 clear hq gh
 by_cases h2 : 3000 < bn
 · have i2 : (3000 : Int) < (bn : Int) := by omega
   rw [decide_eq_true h2]
   clear h2
   go_enter Tryz.func23, Tryz.ntmps23
   go_wp2_with fail
   go_ret
   exact ⟨rfl, HB1.out⟩
 have i2 : ¬ (3000 : Int) < (bn : Int) := by omega
 rw [decide_eq_false h2]
 clear h2
 go_enter Tryz.func23, Tryz.ntmps23
 go_wp2_with (go_at_call 40; refine LG.out.mono ?_; rintro e w2 ⟨rfl, hB⟩; have HB2 := hideL (HB1.out.trans (hB.mono HB1.out.size)); clear hB)
 go_ret
 exact ⟨by simp, HB2.out⟩
end Go.Proofs.YtafmgoekgijfgaaGreatDoor
