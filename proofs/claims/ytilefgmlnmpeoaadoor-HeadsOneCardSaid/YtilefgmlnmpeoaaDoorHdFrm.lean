/- How a body's end is told: Framing of the program. -/
import Derived.Test.YtilefgmlnmpeoaaDoorHdRows
import Derived.Test.YtilefgmlnmpeoaaDoorHdNum
import Derived.Test.YtilefgmlnmpeoaaDoorHdSmall
namespace Go.Proofs.YtilefgmlnmpeoaaDoor
open Go.RowKit Go.Lib

theorem clA_eq : clA = ⟨#[99, 111, 110, 116, 101, 110, 116, 45, 108, 101, 110, 103, 116, 104]⟩ := rfl
theorem teA_eq : teA = ⟨#[116, 114, 97, 110, 115, 102, 101, 114, 45, 101, 110, 99, 111, 100, 105, 110, 103]⟩ := rfl
theorem allP_fits {l : List Hd} (hf : Fits l) (name : ByteArray) : ∀ x ∈ allP name l, x.size ≤ 1000000 := by
  intro x hx
  unfold allP at hx
  obtain ⟨h, hh, rfl⟩ := List.mem_map.1 hx
  exact (hf h (List.mem_filter.1 hh).1).2
theorem chk_dec (x : List UInt8) : ((bo (x.map smB)).toList == [99, 104, 117, 110, 107, 101, 100]) = decide (x.map smB = chk) := by
  rw [ByteArray.toList_eq, bo_list]
  by_cases h : x.map smB = chk
  · rw [decide_eq_true h, h]; rfl
  · rw [decide_eq_false h]
    exact beq_eq_false_iff_ne.2 h

set_option maxRecDepth 100000 in
set_option maxHeartbeats 2000000 in
theorem framing_any (v : Value) (l : List Hd) (w : World) (hv : GAt KH w v l) (hf : Fits l) (hl : l.length ≤ 1000) (hE : Env w) :
    Calls Tryd.prog 28 #[v] w (fun e w' => e = .returned (frA (framP l)) ∧ Below w.heap.size w w') := by
  have HB0 := hideL ((Below.refl w.heap.size w).alloc (Nat.le_refl _) (.cells #[.int .i64 0, .int .i64 0, .int .i64 0] 48))
  have HX := hideL (BBox.new w 0 0 0)
  have HE := hideL (hE.next HB0.out)
  have LA := hideL (fun (W : World) (hb : Below w.heap.size w W) => all_any clA v l W (hv.below hb) hf hl)
  have LB := hideL (fun (W : World) (hb : Below w.heap.size w W) => all_any teA v l W (hv.below hb) hf hl)
  have hfa := allP_fits hf clA
  have hfb := allP_fits hf teA
  have hla := allP_len clA l
  have hlb := allP_len teA l
  unfold framP
  obtain ⟨a, ha⟩ : ∃ a, allP clA l = a := ⟨_, rfl⟩
  obtain ⟨b, hb⟩ : ∃ b, allP teA l = b := ⟨_, rfl⟩
  rw [ha] at LA hfa hla ⊢
  rw [hb] at LB hfb hlb ⊢
  rw [clA_eq] at LA
  rw [teA_eq] at LB
  obtain ⟨ao, cap, rfl⟩ := hv.len
  clear ha hb hf hv hE
  have hab : a.length ≤ 1000 ∧ b.length ≤ 1000 := by omega
  clear hla hlb
  generalize l.length = ln at *
  have wadd : IntKind.i64.wrap ((a.length : Int) + (b.length : Int)) = ((a.length + b.length : Nat) : Int) := by rw [IntWalk.i64_in _ (by omega)]; omega
  by_cases h1 : 1 < a.length + b.length
  · have h1' : (1 : Int) < ((a.length + b.length : Nat) : Int) := by omega
    rw [show frmP a b = (2, bd0) from by unfold frmP; rw [if_pos h1]]
    go_enter Tryd.func28, Tryd.ntmps28
    go_wp2_with (first
        | (go_at_call 24; first
           | (with_reducible refine (LA.out _ HB0.out).mono ?_; rintro e w1 ⟨ra, rfl, hR1, hB1⟩
              have HX1 := hideL (HX.out.next hB1)
              have HE1 := hideL (HE.out.next hB1)
              have HR1 := hideL hR1
              have HB1 := hideL (HB0.out.trans (hB1.mono HB0.out.size))
              clear hB1 hR1)
           | (with_reducible refine (LB.out _ HB1.out).mono ?_; rintro e w2 ⟨rb, rfl, hR2, hB2⟩
              have HX2 := hideL (HX1.out.next hB2)
              have HE2 := hideL (HE1.out.next hB2)
              have HA2 := hideL (HR1.out.below hB2).gAt
              have HC2 := hideL hR2.gAt
              have HB2 := hideL (HB1.out.trans (hB2.mono HB1.out.size))
              have f0 := HX2.out.frozen 0
              have f1 := HX2.out.frozen 1
              have f2 := HX2.out.frozen 2
              have c0 := HX2.out.c0
              have c1 := HX2.out.c1
              have c2 := HX2.out.c2
              obtain ⟨oa, ca, hra⟩ := HA2.out.len
              obtain ⟨ob, cb, hrb⟩ := HC2.out.len
              subst hra hrb
              skip
              clear hB2 hR2 HR1)))
    have HXF := hideL (HX2.out.st 0 0 0)
    have HBF := hideL (below_st HB2.out (g := w.heap.size) (Nat.le_refl _) (.int .i64 0) (.int .i64 0) (.int .i64 0))
    clear f0 f1 f2 c0 c1 c2 HX HE LA LB HX1 HE1
    generalize World.setCell (World.setCell (World.setCell w2 ⟨w.heap.size, 0, none⟩ (.int .i64 0)) ⟨w.heap.size, 1, none⟩ (.int .i64 0)) ⟨w.heap.size, 2, none⟩ (.int .i64 0) = WF at *
    have r0 := HXF.out.c0
    have r1 := HXF.out.c1
    have r2 := HXF.out.c2
    exact bodyPost_ret (v := frA (2, bd0)) (by simp [results, Tryd.results28, go_sem, r0, r1, r2]; rfl) rfl ⟨rfl, HBF.out⟩
  have h1' : ¬ (1 : Int) < ((a.length + b.length : Nat) : Int) := by omega
  match a, b, h1, hfa, hfb, hab, LA, LB, wadd, h1' with
  | [], [], h1, hfa, hfb, hab, LA, LB, wadd, h1' =>
    rw [show frmP [] [] = (0, bd0) from rfl]
    simp only [List.length_nil] at wadd h1' ⊢
    go_enter Tryd.func28, Tryd.ntmps28
    go_wp2_with (first
        | (go_at_call 24; first
           | (with_reducible refine (LA.out _ HB0.out).mono ?_; rintro e w1 ⟨ra, rfl, hR1, hB1⟩
              have HX1 := hideL (HX.out.next hB1)
              have HE1 := hideL (HE.out.next hB1)
              have HR1 := hideL hR1
              have HB1 := hideL (HB0.out.trans (hB1.mono HB0.out.size))
              clear hB1 hR1)
           | (with_reducible refine (LB.out _ HB1.out).mono ?_; rintro e w2 ⟨rb, rfl, hR2, hB2⟩
              have HX2 := hideL (HX1.out.next hB2)
              have HE2 := hideL (HE1.out.next hB2)
              have HA2 := hideL (HR1.out.below hB2).gAt
              have HC2 := hideL hR2.gAt
              have HB2 := hideL (HB1.out.trans (hB2.mono HB1.out.size))
              have f0 := HX2.out.frozen 0
              have f1 := HX2.out.frozen 1
              have f2 := HX2.out.frozen 2
              have c0 := HX2.out.c0
              have c1 := HX2.out.c1
              have c2 := HX2.out.c2
              obtain ⟨oa, ca, hra⟩ := HA2.out.len
              obtain ⟨ob, cb, hrb⟩ := HC2.out.len
              subst hra hrb
              simp only [List.length_nil] at *
              clear hB2 hR2 HR1)))
    have HXF := hideL (HX2.out.st 0 0 0)
    have HBF := hideL (below_st HB2.out (g := w.heap.size) (Nat.le_refl _) (.int .i64 0) (.int .i64 0) (.int .i64 0))
    clear f0 f1 f2 c0 c1 c2 HX HE LA LB HX1 HE1
    generalize World.setCell (World.setCell (World.setCell w2 ⟨w.heap.size, 0, none⟩ (.int .i64 0)) ⟨w.heap.size, 1, none⟩ (.int .i64 0)) ⟨w.heap.size, 2, none⟩ (.int .i64 0) = WF at *
    have r0 := HXF.out.c0
    have r1 := HXF.out.c1
    have r2 := HXF.out.c2
    exact bodyPost_ret (v := frA (0, bd0)) (by simp [results, Tryd.results28, go_sem, r0, r1, r2]; rfl) rfl ⟨rfl, HBF.out⟩
  | [s], [], h1, hfa, hfb, hab, LA, LB, wadd, h1' =>
    rw [show frmP [s] [] = lenP s.data.toList from rfl]
    have LL := hideL (fun W (hE : Env W) => byLength_any s (hfa s (by simp)) W hE)
    obtain ⟨⟨e, x, y, z⟩, hr⟩ : ∃ r, lenP s.data.toList = r := ⟨_, rfl⟩
    rw [hr] at LL ⊢
    simp only [frA, bdV] at LL
    clear hr hfa hfb
    simp only [List.length_singleton, List.length_nil] at wadd h1' ⊢
    go_enter Tryd.func28, Tryd.ntmps28
    go_wp2_with (first
        | (go_at_call 24; first
           | (with_reducible refine (LA.out _ HB0.out).mono ?_; rintro e w1 ⟨ra, rfl, hR1, hB1⟩
              have HX1 := hideL (HX.out.next hB1)
              have HE1 := hideL (HE.out.next hB1)
              have HR1 := hideL hR1
              have HB1 := hideL (HB0.out.trans (hB1.mono HB0.out.size))
              clear hB1 hR1)
           | (with_reducible refine (LB.out _ HB1.out).mono ?_; rintro e w2 ⟨rb, rfl, hR2, hB2⟩
              have HX2 := hideL (HX1.out.next hB2)
              have HE2 := hideL (HE1.out.next hB2)
              have HA2 := hideL (HR1.out.below hB2).gAt
              have HC2 := hideL hR2.gAt
              have HB2 := hideL (HB1.out.trans (hB2.mono HB1.out.size))
              have f0 := HX2.out.frozen 0
              have f1 := HX2.out.frozen 1
              have f2 := HX2.out.frozen 2
              have c0 := HX2.out.c0
              have c1 := HX2.out.c1
              have c2 := HX2.out.c2
              obtain ⟨oa, ca, hra⟩ := HA2.out.len
              obtain ⟨ob, cb, hrb⟩ := HC2.out.len
              subst hra hrb
              simp only [List.length_singleton, List.length_nil] at *
              obtain ⟨ba, oo, hoa, hba, hca⟩ := gat_text HA2.out (k := 0) (by decide)
              subst hoa
              have hca2 : w2.cell? ⟨ba, oo, none⟩ = some (.string s) := hca
              clear hca
              clear hB2 hR2 HR1))
        | (go_at_call 47; refine (LL.out _ HE2.out).mono ?_; rintro e3 w3 ⟨rfl, hB3⟩
           have HX3 := hideL (HX2.out.next hB3)
           have HB3 := hideL (HB2.out.trans (hB3.mono HB2.out.size))
           have g0 := HX3.out.frozen 0
           have g1 := HX3.out.frozen 1
           have g2 := HX3.out.frozen 2
           have d0 := HX3.out.c0
           have d1 := HX3.out.c1
           have d2 := HX3.out.c2
           clear hB3))
    have HXF := hideL (HX3.out.st (x : Int) (y : Int) (z : Int))
    have HBF := hideL (below_st HB3.out (g := w.heap.size) (Nat.le_refl _) (.int .i64 (x : Int)) (.int .i64 (y : Int)) (.int .i64 (z : Int)))
    clear f0 f1 f2 c0 c1 c2 HX HE LA LB HX1 HE1 HE2 LL g0 g1 g2 d0 d1 d2 HX2
    generalize World.setCell (World.setCell (World.setCell w3 ⟨w.heap.size, 0, none⟩ (.int .i64 (x : Int))) ⟨w.heap.size, 1, none⟩ (.int .i64 (y : Int))) ⟨w.heap.size, 2, none⟩ (.int .i64 (z : Int)) = WF at *
    have r0 := HXF.out.c0
    have r1 := HXF.out.c1
    have r2 := HXF.out.c2
    exact bodyPost_ret (v := frA (e, ⟨x, y, z⟩)) (by simp [results, Tryd.results28, go_sem, r0, r1, r2]; rfl) rfl ⟨rfl, HBF.out⟩
  | [], [x], h1, hfa, hfb, hab, LA, LB, wadd, h1' =>
    have LS := hideL (fun W => small_any x (hfb x (by simp)) W)
    have hd := chk_dec x.data.toList
    obtain ⟨X, hX⟩ : ∃ X, bo (x.data.toList.map smB) = X := ⟨_, rfl⟩
    rw [hX] at LS hd
    rw [show frmP [] [x] = if x.data.toList.map smB = chk then (0, ⟨1, 0, 0⟩) else (2, bd0) from rfl]
    simp only [List.length_singleton, List.length_nil] at wadd h1' ⊢
    by_cases hc : x.data.toList.map smB = chk
    · rw [if_pos hc]
      rw [decide_eq_true hc] at hd
      clear hX hc hfa hfb
      go_enter Tryd.func28, Tryd.ntmps28
      go_wp2_with (first
          | (go_at_call 24; first
             | (with_reducible refine (LA.out _ HB0.out).mono ?_; rintro e w1 ⟨ra, rfl, hR1, hB1⟩
                have HX1 := hideL (HX.out.next hB1)
                have HE1 := hideL (HE.out.next hB1)
                have HR1 := hideL hR1
                have HB1 := hideL (HB0.out.trans (hB1.mono HB0.out.size))
                clear hB1 hR1)
             | (with_reducible refine (LB.out _ HB1.out).mono ?_; rintro e w2 ⟨rb, rfl, hR2, hB2⟩
                have HX2 := hideL (HX1.out.next hB2)
                have HE2 := hideL (HE1.out.next hB2)
                have HA2 := hideL (HR1.out.below hB2).gAt
                have HC2 := hideL hR2.gAt
                have HB2 := hideL (HB1.out.trans (hB2.mono HB1.out.size))
                have f0 := HX2.out.frozen 0
                have f1 := HX2.out.frozen 1
                have f2 := HX2.out.frozen 2
                have c0 := HX2.out.c0
                have c1 := HX2.out.c1
                have c2 := HX2.out.c2
                obtain ⟨oa, ca, hra⟩ := HA2.out.len
                obtain ⟨ob, cb, hrb⟩ := HC2.out.len
                subst hra hrb
                simp only [List.length_singleton, List.length_nil] at *
                obtain ⟨bb, oo, hob, hbb, hcb⟩ := gat_text HC2.out (k := 0) (by decide)
                subst hob
                have hcb2 : w2.cell? ⟨bb, oo, none⟩ = some (.string x) := hcb
                clear hcb
                clear hB2 hR2 HR1))
          | (go_at_call 39; refine (LS.out _).mono ?_; rintro e3 w3 ⟨rfl, hB3⟩
             have HX3 := hideL (HX2.out.next hB3)
             have HB3 := hideL (HB2.out.trans (hB3.mono HB2.out.size))
             have g0 := HX3.out.frozen 0
             have g1 := HX3.out.frozen 1
             have g2 := HX3.out.frozen 2
             have d0 := HX3.out.c0
             have d1 := HX3.out.c1
             have d2 := HX3.out.c2
             clear hB3))
      have HXF := hideL (HX3.out.st 1 0 0)
      have HBF := hideL (below_st HB3.out (g := w.heap.size) (Nat.le_refl _) (.int .i64 1) (.int .i64 0) (.int .i64 0))
      clear f0 f1 f2 c0 c1 c2 HX HE LA LB HX1 HE1 HE2 LS g0 g1 g2 d0 d1 d2 HX2 hd
      generalize World.setCell (World.setCell (World.setCell w3 ⟨w.heap.size, 0, none⟩ (.int .i64 1)) ⟨w.heap.size, 1, none⟩ (.int .i64 0)) ⟨w.heap.size, 2, none⟩ (.int .i64 0) = WF at *
      have r0 := HXF.out.c0
      have r1 := HXF.out.c1
      have r2 := HXF.out.c2
      exact bodyPost_ret (v := frA (0, ⟨1, 0, 0⟩)) (by simp [results, Tryd.results28, go_sem, r0, r1, r2]; rfl) rfl ⟨rfl, HBF.out⟩
    · rw [if_neg hc]
      rw [decide_eq_false hc] at hd
      clear hX hc hfa hfb
      go_enter Tryd.func28, Tryd.ntmps28
      go_wp2_with (first
          | (go_at_call 24; first
             | (with_reducible refine (LA.out _ HB0.out).mono ?_; rintro e w1 ⟨ra, rfl, hR1, hB1⟩
                have HX1 := hideL (HX.out.next hB1)
                have HE1 := hideL (HE.out.next hB1)
                have HR1 := hideL hR1
                have HB1 := hideL (HB0.out.trans (hB1.mono HB0.out.size))
                clear hB1 hR1)
             | (with_reducible refine (LB.out _ HB1.out).mono ?_; rintro e w2 ⟨rb, rfl, hR2, hB2⟩
                have HX2 := hideL (HX1.out.next hB2)
                have HE2 := hideL (HE1.out.next hB2)
                have HA2 := hideL (HR1.out.below hB2).gAt
                have HC2 := hideL hR2.gAt
                have HB2 := hideL (HB1.out.trans (hB2.mono HB1.out.size))
                have f0 := HX2.out.frozen 0
                have f1 := HX2.out.frozen 1
                have f2 := HX2.out.frozen 2
                have c0 := HX2.out.c0
                have c1 := HX2.out.c1
                have c2 := HX2.out.c2
                obtain ⟨oa, ca, hra⟩ := HA2.out.len
                obtain ⟨ob, cb, hrb⟩ := HC2.out.len
                subst hra hrb
                simp only [List.length_singleton, List.length_nil] at *
                obtain ⟨bb, oo, hob, hbb, hcb⟩ := gat_text HC2.out (k := 0) (by decide)
                subst hob
                have hcb2 : w2.cell? ⟨bb, oo, none⟩ = some (.string x) := hcb
                clear hcb
                clear hB2 hR2 HR1))
          | (go_at_call 39; refine (LS.out _).mono ?_; rintro e3 w3 ⟨rfl, hB3⟩
             have HX3 := hideL (HX2.out.next hB3)
             have HB3 := hideL (HB2.out.trans (hB3.mono HB2.out.size))
             have g0 := HX3.out.frozen 0
             have g1 := HX3.out.frozen 1
             have g2 := HX3.out.frozen 2
             have d0 := HX3.out.c0
             have d1 := HX3.out.c1
             have d2 := HX3.out.c2
             clear hB3))
      have HXF := hideL (HX3.out.st 0 0 0)
      have HBF := hideL (below_st HB3.out (g := w.heap.size) (Nat.le_refl _) (.int .i64 0) (.int .i64 0) (.int .i64 0))
      clear f0 f1 f2 c0 c1 c2 HX HE LA LB HX1 HE1 HE2 LS g0 g1 g2 d0 d1 d2 HX2 hd
      generalize World.setCell (World.setCell (World.setCell w3 ⟨w.heap.size, 0, none⟩ (.int .i64 0)) ⟨w.heap.size, 1, none⟩ (.int .i64 0)) ⟨w.heap.size, 2, none⟩ (.int .i64 0) = WF at *
      have r0 := HXF.out.c0
      have r1 := HXF.out.c1
      have r2 := HXF.out.c2
      exact bodyPost_ret (v := frA (2, bd0)) (by simp [results, Tryd.results28, go_sem, r0, r1, r2]; rfl) rfl ⟨rfl, HBF.out⟩
  | _ :: _ :: _, _, h1, _, _, _, _, _, _, _ => exact absurd (by simp; omega) h1
  | _, _ :: _ :: _, h1, _, _, _, _, _, _, _ => exact absurd (by simp; omega) h1
  | _ :: _, _ :: _, h1, _, _, _, _, _, _, _ => exact absurd (by simp; omega) h1
end Go.Proofs.YtilefgmlnmpeoaaDoor
