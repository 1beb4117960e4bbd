/- How a body's end is told: the document's Framing. -/
import Derived.Test.YtafmgoekgijfgaaGreatDoorARqM5
import Derived.Test.YtafmgoekgijfgaaGreatDoorAHdRefT
namespace Go.Proofs.YtafmgoekgijfgaaGreatDoor
open Go.RowKit Go.Lib

/-- What the loop over the digits comes to, from n on. -/
def walkN (n : Nat) : List UInt8 → Option Nat
 | [] => some n
 | c :: r => if digB c then walkN (stepN n c) r else none
theorem walkN_some : ∀ (l : List UInt8) (n : Nat), l.all digB = true → walkN n l = some (satN n l)
 | [], n, _ => rfl
 | c :: r, n, h => by
   rw [List.all_cons, Bool.and_eq_true] at h
   rw [walkN, if_pos h.1, satN_cons]
   exact walkN_some r _ h.2
theorem walkN_none : ∀ (l : List UInt8) (n : Nat), l.all digB = false → walkN n l = none
 | [], _, h => by cases h
 | c :: r, n, h => by
   rw [walkN]
   cases hc : digB c
   · rw [if_neg (by decide)]
   · rw [if_pos rfl]
     rw [List.all_cons, hc, Bool.true_and] at h
     exact walkN_none r _ h
/-- What the digits come to. -/
def endN : Option Nat → Nat × Bd
 | none => (2, bd0)
 | some n => if 1024 < n then (6, bd0) else (0, ⟨0, 1, n⟩)
theorem endN_big {n : Nat} (h : 1024 < n) : endN (some n) = (6, bd0) := if_pos h
theorem endN_ok {n : Nat} (h : ¬ 1024 < n) : endN (some n) = (0, ⟨0, 1, n⟩) := if_neg h
theorem lenP_walk {s : List UInt8} (h : ¬ (s = [] ∨ (1 < s.length ∧ s.head? = some 48))) : lenP s = endN (walkN 0 s) := by
 unfold lenP
 cases hd : s.all digB
 · rw [if_pos (.inr (.inr rfl)), walkN_none s 0 hd]; rfl
 · have hn : ¬ (s = [] ∨ (1 < s.length ∧ s.head? = some 48) ∨ true = false) := by
     rintro (e | e | e)
     · exact h (.inl e)
     · exact h (.inr e)
     · exact Bool.noConfusion e
   rw [if_neg hn, walkN_some s 0 hd]
   obtain ⟨h1, h2⟩ := sat_num s 0
   unfold endN
   simp only
   by_cases hk : 1024 < numN 0 s
   · rw [if_pos hk, if_pos (h2 hk)]
   · rw [if_neg hk, h1 (by omega), if_neg hk]
theorem lenP_bad {s : List UInt8} (h : s = [] ∨ (1 < s.length ∧ s.head? = some 48)) : lenP s = (2, bd0) := by
 unfold lenP
 rw [if_pos]
 rcases h with h | h
 · exact .inl h
 · exact .inr (.inl h)
theorem dig_nat (c : UInt8) : digB c = decide (48 ≤ c.toNat ∧ c.toNat ≤ 57) := rfl
theorem stepN_le' {n : Nat} (h : n ≤ 1024) (c : UInt8) : stepN n c = n * 10 + (c.toNat - 48) := by rw [stepN_le h, addN_eq]
set_option maxRecDepth 100000 in
set_option maxHeartbeats 4000000 in
theorem framingR_any (v : Value) (l : List Hd) (w : World) (hv : GAt KH w v l) (hf : Fits l) (hl : l.length ≤ 1000) :
   Calls Tryz.prog 56 #[v] w (fun e w' => e = .returned (frA (framP l)) ∧ Below w.heap.size w w') := by
 have HB0 := hideL ((Below.refl w.heap.size w).alloc (Nat.le_refl _) (.cells #[.int .i64 0, .int .i64 0, .int .i64 0] 79))
 have HX := hideL (BBox.new w 0 0 0)
 have LA := hideL (fun (W : World) (hb : Below w.heap.size w W) => allR_any clA v l W (hv.below hb) hl)
 have LB := hideL (fun (W : World) (hb : Below w.heap.size w W) => allR_any teA v l W (hv.below hb) hl)
 have hfa := allP_fits hf clA
 have hfb := allP_fits hf teA
 have hla := allP_len clA l
 have hlb := allP_len teA l
 unfold framP
 obtain ⟨a, ha⟩ : ∃ a, allP clA l = a := ⟨_, rfl⟩
 obtain ⟨b, hb⟩ : ∃ b, allP teA l = b := ⟨_, rfl⟩
 rw [ha] at LA hfa hla ⊢
 rw [hb] at LB hfb hlb ⊢
 rw [clA_eq] at LA
 rw [teA_eq] at LB
 obtain ⟨ao, cap, rfl⟩ := hv.len
 clear ha hb hf hv
 have hab : a.length ≤ 1000 ∧ b.length ≤ 1000 := by omega
 clear hla hlb
 generalize l.length = ln at *
 have wadd : IntKind.i64.wrap ((a.length : Int) + (b.length : Int)) = ((a.length + b.length : Nat) : Int) := by rw [IntWalk.i64_in _ (by omega)]; omega
 by_cases h1 : 1 < a.length + b.length
 · have h1' : (1 : Int) < ((a.length + b.length : Nat) : Int) := by omega
   rw [show frmP a b = (2, bd0) from by unfold frmP; rw [if_pos h1]]
   go_enter Tryz.func56, Tryz.ntmps56
   go_wp2_with (first
       | (go_at_call 48; first
          | (with_reducible refine (LA.out _ HB0.out).mono ?_; rintro e w1 ⟨ra, rfl, hR1, hB1⟩
             have HX1 := hideL (HX.out.next hB1)
             have HR1 := hideL hR1
             have HB1 := hideL (HB0.out.trans (hB1.mono HB0.out.size))
             clear hB1 hR1)
          | (with_reducible refine (LB.out _ HB1.out).mono ?_; rintro e w2 ⟨rb, rfl, hR2, hB2⟩
             have HX2 := hideL (HX1.out.next hB2)
             have HA2 := hideL (HR1.out.below hB2).gAt
             have HC2 := hideL hR2.gAt
             have HB2 := hideL (HB1.out.trans (hB2.mono HB1.out.size))
             have f0 := HX2.out.frozen 0
             have f1 := HX2.out.frozen 1
             have f2 := HX2.out.frozen 2
             have c0 := HX2.out.c0
             have c1 := HX2.out.c1
             have c2 := HX2.out.c2
             obtain ⟨oa, ca, hra⟩ := HA2.out.len
             obtain ⟨ob, cb, hrb⟩ := HC2.out.len
             subst hra hrb
             skip
             clear hB2 hR2 HR1)))
   have HXF := hideL (HX2.out.st 0 0 0)
   have HBF := hideL (below_st HB2.out (g := w.heap.size) (Nat.le_refl _) (.int .i64 0) (.int .i64 0) (.int .i64 0))
   clear f0 f1 f2 c0 c1 c2 HX LA LB HX1
   generalize World.setCell (World.setCell (World.setCell w2 ⟨w.heap.size, 0, none⟩ (.int .i64 0)) ⟨w.heap.size, 1, none⟩ (.int .i64 0)) ⟨w.heap.size, 2, none⟩ (.int .i64 0) = WF at *
   have r0 := HXF.out.c0
   have r1 := HXF.out.c1
   have r2 := HXF.out.c2
   exact bodyPost_ret (v := frA (2, bd0)) (by simp [results, Tryz.results56, go_sem, r0, r1, r2]; rfl) rfl ⟨rfl, HBF.out⟩
 have h1' : ¬ (1 : Int) < ((a.length + b.length : Nat) : Int) := by omega
 match a, b, h1, hfa, hfb, hab, LA, LB, wadd, h1' with
 | [], [], h1, hfa, hfb, hab, LA, LB, wadd, h1' =>
   rw [show frmP [] [] = (0, bd0) from rfl]
   simp only [List.length_nil] at wadd h1' ⊢
   go_enter Tryz.func56, Tryz.ntmps56
   go_wp2_with (first
       | (go_at_call 48; first
          | (with_reducible refine (LA.out _ HB0.out).mono ?_; rintro e w1 ⟨ra, rfl, hR1, hB1⟩
             have HX1 := hideL (HX.out.next hB1)
             have HR1 := hideL hR1
             have HB1 := hideL (HB0.out.trans (hB1.mono HB0.out.size))
             clear hB1 hR1)
          | (with_reducible refine (LB.out _ HB1.out).mono ?_; rintro e w2 ⟨rb, rfl, hR2, hB2⟩
             have HX2 := hideL (HX1.out.next hB2)
             have HA2 := hideL (HR1.out.below hB2).gAt
             have HC2 := hideL hR2.gAt
             have HB2 := hideL (HB1.out.trans (hB2.mono HB1.out.size))
             have f0 := HX2.out.frozen 0
             have f1 := HX2.out.frozen 1
             have f2 := HX2.out.frozen 2
             have c0 := HX2.out.c0
             have c1 := HX2.out.c1
             have c2 := HX2.out.c2
             obtain ⟨oa, ca, hra⟩ := HA2.out.len
             obtain ⟨ob, cb, hrb⟩ := HC2.out.len
             subst hra hrb
             simp only [List.length_nil] at *
             clear hB2 hR2 HR1)))
   have HXF := hideL (HX2.out.st 0 0 0)
   have HBF := hideL (below_st HB2.out (g := w.heap.size) (Nat.le_refl _) (.int .i64 0) (.int .i64 0) (.int .i64 0))
   clear f0 f1 f2 c0 c1 c2 HX LA LB HX1
   generalize World.setCell (World.setCell (World.setCell w2 ⟨w.heap.size, 0, none⟩ (.int .i64 0)) ⟨w.heap.size, 1, none⟩ (.int .i64 0)) ⟨w.heap.size, 2, none⟩ (.int .i64 0) = WF at *
   have r0 := HXF.out.c0
   have r1 := HXF.out.c1
   have r2 := HXF.out.c2
   exact bodyPost_ret (v := frA (0, bd0)) (by simp [results, Tryz.results56, go_sem, r0, r1, r2]; rfl) rfl ⟨rfl, HBF.out⟩
 | [], [x], h1, hfa, hfb, hab, LA, LB, wadd, h1' =>
   have LS := hideL (fun W => smallR_any x (hfb x (by simp)) W)
   have hd := chk_dec x.data.toList
   obtain ⟨X, hX⟩ : ∃ X, bo (x.data.toList.map smB) = X := ⟨_, rfl⟩
   rw [hX] at LS hd
   rw [show frmP [] [x] = if x.data.toList.map smB = chk then (0, ⟨1, 0, 0⟩) else (2, bd0) from rfl]
   simp only [List.length_singleton, List.length_nil] at wadd h1' ⊢
   by_cases hc : x.data.toList.map smB = chk
   · rw [if_pos hc]
     rw [decide_eq_true hc] at hd
     clear hX hc hfa hfb
     go_enter Tryz.func56, Tryz.ntmps56
     go_wp2_with (first
         | (go_at_call 48; first
            | (with_reducible refine (LA.out _ HB0.out).mono ?_; rintro e w1 ⟨ra, rfl, hR1, hB1⟩
               have HX1 := hideL (HX.out.next hB1)
               have HR1 := hideL hR1
               have HB1 := hideL (HB0.out.trans (hB1.mono HB0.out.size))
               clear hB1 hR1)
            | (with_reducible refine (LB.out _ HB1.out).mono ?_; rintro e w2 ⟨rb, rfl, hR2, hB2⟩
               have HX2 := hideL (HX1.out.next hB2)
               have HA2 := hideL (HR1.out.below hB2).gAt
               have HC2 := hideL hR2.gAt
               have HB2 := hideL (HB1.out.trans (hB2.mono HB1.out.size))
               have f0 := HX2.out.frozen 0
               have f1 := HX2.out.frozen 1
               have f2 := HX2.out.frozen 2
               have c0 := HX2.out.c0
               have c1 := HX2.out.c1
               have c2 := HX2.out.c2
               obtain ⟨oa, ca, hra⟩ := HA2.out.len
               obtain ⟨ob, cb, hrb⟩ := HC2.out.len
               subst hra hrb
               simp only [List.length_singleton, List.length_nil] at *
               obtain ⟨bb, oo, hob, hbb, hcb⟩ := gat_text HC2.out (k := 0) (by decide)
               subst hob
               have hcb2 : w2.cell? ⟨bb, oo, none⟩ = some (.string x) := hcb
               clear hcb
               clear hB2 hR2 HR1))
         | (go_at_call 49; refine (LS.out _).mono ?_; rintro e3 w3 ⟨rfl, hB3⟩
            have HX3 := hideL (HX2.out.next hB3)
            have HB3 := hideL (HB2.out.trans (hB3.mono HB2.out.size))
            have g0 := HX3.out.frozen 0
            have g1 := HX3.out.frozen 1
            have g2 := HX3.out.frozen 2
            have d0 := HX3.out.c0
            have d1 := HX3.out.c1
            have d2 := HX3.out.c2
            clear hB3))
     have HXF := hideL (HX3.out.st 1 0 0)
     have HBF := hideL (below_st HB3.out (g := w.heap.size) (Nat.le_refl _) (.int .i64 1) (.int .i64 0) (.int .i64 0))
     clear f0 f1 f2 c0 c1 c2 HX LA LB HX1 LS g0 g1 g2 d0 d1 d2 HX2 hd
     generalize World.setCell (World.setCell (World.setCell w3 ⟨w.heap.size, 0, none⟩ (.int .i64 1)) ⟨w.heap.size, 1, none⟩ (.int .i64 0)) ⟨w.heap.size, 2, none⟩ (.int .i64 0) = WF at *
     have r0 := HXF.out.c0
     have r1 := HXF.out.c1
     have r2 := HXF.out.c2
     exact bodyPost_ret (v := frA (0, ⟨1, 0, 0⟩)) (by simp [results, Tryz.results56, go_sem, r0, r1, r2]; rfl) rfl ⟨rfl, HBF.out⟩
   · rw [if_neg hc]
     rw [decide_eq_false hc] at hd
     clear hX hc hfa hfb
     go_enter Tryz.func56, Tryz.ntmps56
     go_wp2_with (first
         | (go_at_call 48; first
            | (with_reducible refine (LA.out _ HB0.out).mono ?_; rintro e w1 ⟨ra, rfl, hR1, hB1⟩
               have HX1 := hideL (HX.out.next hB1)
               have HR1 := hideL hR1
               have HB1 := hideL (HB0.out.trans (hB1.mono HB0.out.size))
               clear hB1 hR1)
            | (with_reducible refine (LB.out _ HB1.out).mono ?_; rintro e w2 ⟨rb, rfl, hR2, hB2⟩
               have HX2 := hideL (HX1.out.next hB2)
               have HA2 := hideL (HR1.out.below hB2).gAt
               have HC2 := hideL hR2.gAt
               have HB2 := hideL (HB1.out.trans (hB2.mono HB1.out.size))
               have f0 := HX2.out.frozen 0
               have f1 := HX2.out.frozen 1
               have f2 := HX2.out.frozen 2
               have c0 := HX2.out.c0
               have c1 := HX2.out.c1
               have c2 := HX2.out.c2
               obtain ⟨oa, ca, hra⟩ := HA2.out.len
               obtain ⟨ob, cb, hrb⟩ := HC2.out.len
               subst hra hrb
               simp only [List.length_singleton, List.length_nil] at *
               obtain ⟨bb, oo, hob, hbb, hcb⟩ := gat_text HC2.out (k := 0) (by decide)
               subst hob
               have hcb2 : w2.cell? ⟨bb, oo, none⟩ = some (.string x) := hcb
               clear hcb
               clear hB2 hR2 HR1))
         | (go_at_call 49; refine (LS.out _).mono ?_; rintro e3 w3 ⟨rfl, hB3⟩
            have HX3 := hideL (HX2.out.next hB3)
            have HB3 := hideL (HB2.out.trans (hB3.mono HB2.out.size))
            have g0 := HX3.out.frozen 0
            have g1 := HX3.out.frozen 1
            have g2 := HX3.out.frozen 2
            have d0 := HX3.out.c0
            have d1 := HX3.out.c1
            have d2 := HX3.out.c2
            clear hB3))
     have HXF := hideL (HX3.out.st 0 0 0)
     have HBF := hideL (below_st HB3.out (g := w.heap.size) (Nat.le_refl _) (.int .i64 0) (.int .i64 0) (.int .i64 0))
     clear f0 f1 f2 c0 c1 c2 HX LA LB HX1 LS g0 g1 g2 d0 d1 d2 HX2 hd
     generalize World.setCell (World.setCell (World.setCell w3 ⟨w.heap.size, 0, none⟩ (.int .i64 0)) ⟨w.heap.size, 1, none⟩ (.int .i64 0)) ⟨w.heap.size, 2, none⟩ (.int .i64 0) = WF at *
     have r0 := HXF.out.c0
     have r1 := HXF.out.c1
     have r2 := HXF.out.c2
     exact bodyPost_ret (v := frA (2, bd0)) (by simp [results, Tryz.results56, go_sem, r0, r1, r2]; rfl) rfl ⟨rfl, HBF.out⟩
 | [s], [], h1, hfa, hfb, hab, LA, LB, wadd, h1' =>
   rw [show frmP [s] [] = lenP s.data.toList from rfl]
   have hz := hfa s (by simp)
   clear hfa hfb
   simp only [List.length_singleton, List.length_nil] at wadd h1' ⊢
   have hlen := size_list s
   by_cases h0 : s.size = 0
   · rw [lenP_bad (.inl (List.length_eq_zero_iff.1 (by omega)))]
     have h0' : (((s.size : Nat) : Int) == 0) = true := by rw [h0]; rfl
     clear hlen h0
     go_enter Tryz.func56, Tryz.ntmps56
     go_wp2_with (first
         | (go_at_call 48; first
            | (with_reducible refine (LA.out _ HB0.out).mono ?_; rintro e w1 ⟨ra, rfl, hR1, hB1⟩
               have HX1 := hideL (HX.out.next hB1)
               have HR1 := hideL hR1
               have HB1 := hideL (HB0.out.trans (hB1.mono HB0.out.size))
               clear hB1 hR1)
            | (with_reducible refine (LB.out _ HB1.out).mono ?_; rintro e w2 ⟨rb, rfl, hR2, hB2⟩
               have HX2 := hideL (HX1.out.next hB2)
               have HA2 := hideL (HR1.out.below hB2).gAt
               have HC2 := hideL hR2.gAt
               have HB2 := hideL (HB1.out.trans (hB2.mono HB1.out.size))
               have f0 := HX2.out.frozen 0
               have f1 := HX2.out.frozen 1
               have f2 := HX2.out.frozen 2
               have c0 := HX2.out.c0
               have c1 := HX2.out.c1
               have c2 := HX2.out.c2
               obtain ⟨oa, ca, hra⟩ := HA2.out.len
               obtain ⟨ob, cb, hrb⟩ := HC2.out.len
               subst hra hrb
               simp only [List.length_singleton, List.length_nil] at *
               obtain ⟨ba, oo, hoa, hba, hca⟩ := gat_text HA2.out (k := 0) (by decide)
               subst hoa
               have hca2 : w2.cell? ⟨ba, oo, none⟩ = some (.string s) := hca
               clear hca
               clear hB2 hR2 HR1)))
     have HXF := hideL (HX2.out.st 0 0 0)
     have HBF := hideL (below_st HB2.out (g := w.heap.size) (Nat.le_refl _) (.int .i64 0) (.int .i64 0) (.int .i64 0))
     clear f0 f1 f2 c0 c1 c2 HX LA LB HX1 h0'
     generalize World.setCell (World.setCell (World.setCell w2 ⟨w.heap.size, 0, none⟩ (.int .i64 0)) ⟨w.heap.size, 1, none⟩ (.int .i64 0)) ⟨w.heap.size, 2, none⟩ (.int .i64 0) = WF at *
     have r0 := HXF.out.c0
     have r1 := HXF.out.c1
     have r2 := HXF.out.c2
     exact bodyPost_ret (v := frA (2, bd0)) (by simp [results, Tryz.results56, go_sem, r0, r1, r2]; rfl) rfl ⟨rfl, HBF.out⟩
   have h0' : (((s.size : Nat) : Int) == 0) = false := beq_eq_false_iff_ne.2 (by omega)
   have hpos : 0 < s.size := by omega
   obtain ⟨c, hc⟩ : ∃ c, s[0] = c := ⟨_, rfl⟩
   have hhd : s.data.toList.head? = some c := by
     have := byte_at s 0 hpos
     rw [List.drop_zero, hc] at this
     rw [this]
     rfl
   by_cases hb : 1 < s.size ∧ c = 48
   · rw [lenP_bad (.inr ⟨by omega, by rw [hhd, hb.2]⟩)]
     have b1 : (1 : Int) < (s.size : Int) := by omega
     have b2 : (((c.toNat : Nat) : Int) == 48) = true := by rw [hb.2]; rfl
     clear hlen h0 hhd hb
     go_enter Tryz.func56, Tryz.ntmps56
     go_wp2_with (first
         | (go_at_call 48; first
            | (with_reducible refine (LA.out _ HB0.out).mono ?_; rintro e w1 ⟨ra, rfl, hR1, hB1⟩
               have HX1 := hideL (HX.out.next hB1)
               have HR1 := hideL hR1
               have HB1 := hideL (HB0.out.trans (hB1.mono HB0.out.size))
               clear hB1 hR1)
            | (with_reducible refine (LB.out _ HB1.out).mono ?_; rintro e w2 ⟨rb, rfl, hR2, hB2⟩
               have HX2 := hideL (HX1.out.next hB2)
               have HA2 := hideL (HR1.out.below hB2).gAt
               have HC2 := hideL hR2.gAt
               have HB2 := hideL (HB1.out.trans (hB2.mono HB1.out.size))
               have f0 := HX2.out.frozen 0
               have f1 := HX2.out.frozen 1
               have f2 := HX2.out.frozen 2
               have c0 := HX2.out.c0
               have c1 := HX2.out.c1
               have c2 := HX2.out.c2
               obtain ⟨oa, ca, hra⟩ := HA2.out.len
               obtain ⟨ob, cb, hrb⟩ := HC2.out.len
               subst hra hrb
               simp only [List.length_singleton, List.length_nil] at *
               obtain ⟨ba, oo, hoa, hba, hca⟩ := gat_text HA2.out (k := 0) (by decide)
               subst hoa
               have hca2 : w2.cell? ⟨ba, oo, none⟩ = some (.string s) := hca
               clear hca
               clear hB2 hR2 HR1)))
     have HXF := hideL (HX2.out.st 0 0 0)
     have HBF := hideL (below_st HB2.out (g := w.heap.size) (Nat.le_refl _) (.int .i64 0) (.int .i64 0) (.int .i64 0))
     clear f0 f1 f2 c0 c1 c2 HX LA LB HX1
     generalize World.setCell (World.setCell (World.setCell w2 ⟨w.heap.size, 0, none⟩ (.int .i64 0)) ⟨w.heap.size, 1, none⟩ (.int .i64 0)) ⟨w.heap.size, 2, none⟩ (.int .i64 0) = WF at *
     have r0 := HXF.out.c0
     have r1 := HXF.out.c1
     have r2 := HXF.out.c2
     exact bodyPost_ret (v := frA (2, bd0)) (by simp [results, Tryz.results56, go_sem, r0, r1, r2]; rfl) rfl ⟨rfl, HBF.out⟩
   rw [lenP_walk (by
     rintro (e | ⟨e1, e2⟩)
     · rw [e] at hhd; cases hhd
     · rw [hhd] at e2
       exact hb ⟨by omega, Option.some.inj e2⟩)]
   obtain ⟨R, hR⟩ : ∃ R, walkN 0 s.data.toList = R := ⟨_, rfl⟩
   rw [hR]
   have H0 : HidL (walkN 0 (s.data.toList.drop 0) = R) := ⟨hR⟩
   have HL := hideL hlen
   have hb' : ¬ (1 : Int) < (s.size : Int) ∨ ((1 : Int) < (s.size : Int) ∧ (((c.toNat : Nat) : Int) == 48) = false) := by
     by_cases h : 1 < s.size
     · right
       refine ⟨by omega, beq_eq_false_iff_ne.2 fun e => hb ⟨h, UInt8.toNat_inj.1 ?_⟩⟩
       have : (48 : UInt8).toNat = 48 := rfl
       omega
     · left; omega
   clear hR hlen hb hhd
   rcases hb' with b1 | ⟨b1, b2⟩
   · go_enter Tryz.func56, Tryz.ntmps56
     go_wp2_with (first
         | (go_at_call 48; first
            | (with_reducible refine (LA.out _ HB0.out).mono ?_; rintro e w1 ⟨ra, rfl, hR1, hB1⟩
               have HX1 := hideL (HX.out.next hB1)
               have HR1 := hideL hR1
               have HB1 := hideL (HB0.out.trans (hB1.mono HB0.out.size))
               clear hB1 hR1)
            | (with_reducible refine (LB.out _ HB1.out).mono ?_; rintro e w2 ⟨rb, rfl, hR2, hB2⟩
               have HX2 := hideL (HX1.out.next hB2)
               have HA2 := hideL (HR1.out.below hB2).gAt
               have HC2 := hideL hR2.gAt
               have HB2 := hideL (HB1.out.trans (hB2.mono HB1.out.size))
               have f0 := HX2.out.frozen 0
               have f1 := HX2.out.frozen 1
               have f2 := HX2.out.frozen 2
               have c0 := HX2.out.c0
               have c1 := HX2.out.c1
               have c2 := HX2.out.c2
               obtain ⟨oa, ca, hra⟩ := HA2.out.len
               obtain ⟨ob, cb, hrb⟩ := HC2.out.len
               subst hra hrb
               simp only [List.length_singleton, List.length_nil] at *
               obtain ⟨ba, oo, hoa, hba, hca⟩ := gat_text HA2.out (k := 0) (by decide)
               subst hoa
               have hca2 : w2.cell? ⟨ba, oo, none⟩ = some (.string s) := hca
               clear hca
               clear hB2 hR2 HR1)))
     go_loopw [7, 8] (fun x i wr => ∃ k n : Nat, k ≤ s.size ∧ i = .int .i64 k ∧ x = .int .i64 n ∧ n < 10250 ∧ w2 = wr ∧ HidL (walkN n (s.data.toList.drop k) = R)) (fun _ i _ => s.size - (RowKit.intOf i).toNat)
     case atStart => exact ⟨0, 0, Nat.zero_le _, rfl, rfl, by decide, rfl, H0⟩
     case round =>
       obtain ⟨k, n, hk, rfl, rfl, hn, rfl, HD⟩ := hrel
       clear H0
       by_cases hlt : k < s.size
       · have hlt' : (k : Int) < (s.size : Int) := by omega
         have hD := HD.out
         rw [byte_at s k hlt, walkN] at hD
         obtain ⟨d, hd⟩ : ∃ d, s[k] = d := ⟨_, rfl⟩
         rw [hd, dig_nat] at hD
         clear HD
         rcases (by omega : (48 ≤ d.toNat ∧ d.toNat ≤ 57) ∨ d.toNat < 48 ∨ (48 ≤ d.toNat ∧ 57 < d.toNat)) with H | H | H
         · have i1 : ¬ (d.toNat : Int) < 48 := by omega
           have i2 : ¬ (57 : Int) < (d.toNat : Int) := by omega
           rw [if_pos (decide_eq_true H)] at hD
           by_cases hk2 : n ≤ 1024
           · have i3 : (n : Int) ≤ 1024 := by omega
             have w1 : IntKind.i64.wrap ((n : Int) * 10) = ((n * 10 : Nat) : Int) := by rw [IntWalk.i64_in _ (by omega)]; omega
             have w2' : IntKind.i64.wrap (d.toNat : Int) = ((d.toNat : Nat) : Int) := by rw [IntWalk.i64_in _ (by omega)]
             have w3 : IntKind.i64.wrap (((n * 10 : Nat) : Int) + (d.toNat : Int)) = ((n * 10 + d.toNat : Nat) : Int) := by rw [IntWalk.i64_in _ (by omega)]; omega
             have w4 : IntKind.i64.wrap (((n * 10 + d.toNat : Nat) : Int) - 48) = ((n * 10 + (d.toNat - 48) : Nat) : Int) := by rw [IntWalk.i64_in _ (by omega)]; omega
             rw [stepN_le' hk2] at hD
             obtain ⟨m, hm⟩ : ∃ m, n * 10 + (d.toNat - 48) = m := ⟨_, rfl⟩
             rw [hm] at hD w4
             have hm2 : m < 10250 := by omega
             have HN := hideL hD
             have HM := hideL hm
             have HH := hideL H
             clear hD hm H
             go_wp2_with fail
             go_roundw
             case rel => exact ⟨k + 1, m, by omega, by go_num, by have h1 := HM.out; have h2 := HH.out; congr 1; omega, hm2, trivial, HN⟩
             case measure => simp [RowKit.intOf]; omega
           · have i3 : ¬ (n : Int) ≤ 1024 := by omega
             rw [stepN_gt (by omega)] at hD
             have HN := hideL hD
             clear hD
             go_wp2_with fail
             go_roundw
             case rel => exact ⟨k + 1, n, by omega, by go_num, rfl, hn, trivial, HN⟩
             case measure => simp [RowKit.intOf]; omega
         · have i1 : (d.toNat : Int) < 48 := by omega
           rw [if_neg (by rw [decide_eq_true_eq]; omega)] at hD
           subst hD
           go_wp2_with fail
           have HXF := hideL (HX2.out.st 0 0 0)
           have HBF := hideL (below_st HB2.out (g := w.heap.size) (Nat.le_refl _) (.int .i64 0) (.int .i64 0) (.int .i64 0))
           clear f0 f1 f2 c0 c1 c2
           generalize World.setCell (World.setCell (World.setCell w2 ⟨w.heap.size, 0, none⟩ (.int .i64 0)) ⟨w.heap.size, 1, none⟩ (.int .i64 0)) ⟨w.heap.size, 2, none⟩ (.int .i64 0) = WF at *
           have r0 := HXF.out.c0
           have r1 := HXF.out.c1
           have r2 := HXF.out.c2
           exact bodyPost_ret (v := frA (2, bd0)) (by simp [results, Tryz.results56, go_sem, r0, r1, r2]; rfl) rfl ⟨rfl, HBF.out⟩
         · have i1 : ¬ (d.toNat : Int) < 48 := by omega
           have i2 : (57 : Int) < (d.toNat : Int) := by omega
           rw [if_neg (by rw [decide_eq_true_eq]; omega)] at hD
           subst hD
           go_wp2_with fail
           have HXF := hideL (HX2.out.st 0 0 0)
           have HBF := hideL (below_st HB2.out (g := w.heap.size) (Nat.le_refl _) (.int .i64 0) (.int .i64 0) (.int .i64 0))
           clear f0 f1 f2 c0 c1 c2
           generalize World.setCell (World.setCell (World.setCell w2 ⟨w.heap.size, 0, none⟩ (.int .i64 0)) ⟨w.heap.size, 1, none⟩ (.int .i64 0)) ⟨w.heap.size, 2, none⟩ (.int .i64 0) = WF at *
           have r0 := HXF.out.c0
           have r1 := HXF.out.c1
           have r2 := HXF.out.c2
           exact bodyPost_ret (v := frA (2, bd0)) (by simp [results, Tryz.results56, go_sem, r0, r1, r2]; rfl) rfl ⟨rfl, HBF.out⟩
       · obtain rfl : k = s.size := by omega
         have hlt' : ¬ (s.size : Int) < (s.size : Int) := by omega
         have hD := HD.out
         rw [List.drop_of_length_le (by rw [HL.out]; exact Nat.le_refl _), walkN] at hD
         subst hD
         clear HD
         by_cases hk2 : 1024 < n
         · have i3 : (1024 : Int) < (n : Int) := by omega
           go_wp2_with fail
           have HXF := hideL (HX2.out.st 0 0 0)
           have HBF := hideL (below_st HB2.out (g := w.heap.size) (Nat.le_refl _) (.int .i64 0) (.int .i64 0) (.int .i64 0))
           clear f0 f1 f2 c0 c1 c2
           generalize World.setCell (World.setCell (World.setCell w2 ⟨w.heap.size, 0, none⟩ (.int .i64 0)) ⟨w.heap.size, 1, none⟩ (.int .i64 0)) ⟨w.heap.size, 2, none⟩ (.int .i64 0) = WF at *
           have r0 := HXF.out.c0
           have r1 := HXF.out.c1
           have r2 := HXF.out.c2
           exact bodyPost_ret (v := frA (6, bd0)) (by simp [results, Tryz.results56, go_sem, r0, r1, r2]; rfl) rfl ⟨by rw [endN_big hk2], HBF.out⟩
         · have i3 : ¬ (1024 : Int) < (n : Int) := by omega
           go_wp2_with fail
           have HXF := hideL (HX2.out.st 0 1 (n : Int))
           have HBF := hideL (below_st HB2.out (g := w.heap.size) (Nat.le_refl _) (.int .i64 0) (.int .i64 1) (.int .i64 (n : Int)))
           clear f0 f1 f2 c0 c1 c2
           generalize World.setCell (World.setCell (World.setCell w2 ⟨w.heap.size, 0, none⟩ (.int .i64 0)) ⟨w.heap.size, 1, none⟩ (.int .i64 1)) ⟨w.heap.size, 2, none⟩ (.int .i64 (n : Int)) = WF at *
           have r0 := HXF.out.c0
           have r1 := HXF.out.c1
           have r2 := HXF.out.c2
           exact bodyPost_ret (v := frA (0, ⟨0, 1, n⟩)) (by simp [results, Tryz.results56, go_sem, r0, r1, r2]; rfl) rfl ⟨by rw [endN_ok hk2], HBF.out⟩
   · go_enter Tryz.func56, Tryz.ntmps56
     go_wp2_with (first
         | (go_at_call 48; first
            | (with_reducible refine (LA.out _ HB0.out).mono ?_; rintro e w1 ⟨ra, rfl, hR1, hB1⟩
               have HX1 := hideL (HX.out.next hB1)
               have HR1 := hideL hR1
               have HB1 := hideL (HB0.out.trans (hB1.mono HB0.out.size))
               clear hB1 hR1)
            | (with_reducible refine (LB.out _ HB1.out).mono ?_; rintro e w2 ⟨rb, rfl, hR2, hB2⟩
               have HX2 := hideL (HX1.out.next hB2)
               have HA2 := hideL (HR1.out.below hB2).gAt
               have HC2 := hideL hR2.gAt
               have HB2 := hideL (HB1.out.trans (hB2.mono HB1.out.size))
               have f0 := HX2.out.frozen 0
               have f1 := HX2.out.frozen 1
               have f2 := HX2.out.frozen 2
               have c0 := HX2.out.c0
               have c1 := HX2.out.c1
               have c2 := HX2.out.c2
               obtain ⟨oa, ca, hra⟩ := HA2.out.len
               obtain ⟨ob, cb, hrb⟩ := HC2.out.len
               subst hra hrb
               simp only [List.length_singleton, List.length_nil] at *
               obtain ⟨ba, oo, hoa, hba, hca⟩ := gat_text HA2.out (k := 0) (by decide)
               subst hoa
               have hca2 : w2.cell? ⟨ba, oo, none⟩ = some (.string s) := hca
               clear hca
               clear hB2 hR2 HR1)))
     go_loopw [7, 8] (fun x i wr => ∃ k n : Nat, k ≤ s.size ∧ i = .int .i64 k ∧ x = .int .i64 n ∧ n < 10250 ∧ w2 = wr ∧ HidL (walkN n (s.data.toList.drop k) = R)) (fun _ i _ => s.size - (RowKit.intOf i).toNat)
     case atStart => exact ⟨0, 0, Nat.zero_le _, rfl, rfl, by decide, rfl, H0⟩
     case round =>
       obtain ⟨k, n, hk, rfl, rfl, hn, rfl, HD⟩ := hrel
       clear H0
       by_cases hlt : k < s.size
       · have hlt' : (k : Int) < (s.size : Int) := by omega
         have hD := HD.out
         rw [byte_at s k hlt, walkN] at hD
         obtain ⟨d, hd⟩ : ∃ d, s[k] = d := ⟨_, rfl⟩
         rw [hd, dig_nat] at hD
         clear HD
         rcases (by omega : (48 ≤ d.toNat ∧ d.toNat ≤ 57) ∨ d.toNat < 48 ∨ (48 ≤ d.toNat ∧ 57 < d.toNat)) with H | H | H
         · have i1 : ¬ (d.toNat : Int) < 48 := by omega
           have i2 : ¬ (57 : Int) < (d.toNat : Int) := by omega
           rw [if_pos (decide_eq_true H)] at hD
           by_cases hk2 : n ≤ 1024
           · have i3 : (n : Int) ≤ 1024 := by omega
             have w1 : IntKind.i64.wrap ((n : Int) * 10) = ((n * 10 : Nat) : Int) := by rw [IntWalk.i64_in _ (by omega)]; omega
             have w2' : IntKind.i64.wrap (d.toNat : Int) = ((d.toNat : Nat) : Int) := by rw [IntWalk.i64_in _ (by omega)]
             have w3 : IntKind.i64.wrap (((n * 10 : Nat) : Int) + (d.toNat : Int)) = ((n * 10 + d.toNat : Nat) : Int) := by rw [IntWalk.i64_in _ (by omega)]; omega
             have w4 : IntKind.i64.wrap (((n * 10 + d.toNat : Nat) : Int) - 48) = ((n * 10 + (d.toNat - 48) : Nat) : Int) := by rw [IntWalk.i64_in _ (by omega)]; omega
             rw [stepN_le' hk2] at hD
             obtain ⟨m, hm⟩ : ∃ m, n * 10 + (d.toNat - 48) = m := ⟨_, rfl⟩
             rw [hm] at hD w4
             have hm2 : m < 10250 := by omega
             have HN := hideL hD
             have HM := hideL hm
             have HH := hideL H
             clear hD hm H
             go_wp2_with fail
             go_roundw
             case rel => exact ⟨k + 1, m, by omega, by go_num, by have h1 := HM.out; have h2 := HH.out; congr 1; omega, hm2, trivial, HN⟩
             case measure => simp [RowKit.intOf]; omega
           · have i3 : ¬ (n : Int) ≤ 1024 := by omega
             rw [stepN_gt (by omega)] at hD
             have HN := hideL hD
             clear hD
             go_wp2_with fail
             go_roundw
             case rel => exact ⟨k + 1, n, by omega, by go_num, rfl, hn, trivial, HN⟩
             case measure => simp [RowKit.intOf]; omega
         · have i1 : (d.toNat : Int) < 48 := by omega
           rw [if_neg (by rw [decide_eq_true_eq]; omega)] at hD
           subst hD
           go_wp2_with fail
           have HXF := hideL (HX2.out.st 0 0 0)
           have HBF := hideL (below_st HB2.out (g := w.heap.size) (Nat.le_refl _) (.int .i64 0) (.int .i64 0) (.int .i64 0))
           clear f0 f1 f2 c0 c1 c2
           generalize World.setCell (World.setCell (World.setCell w2 ⟨w.heap.size, 0, none⟩ (.int .i64 0)) ⟨w.heap.size, 1, none⟩ (.int .i64 0)) ⟨w.heap.size, 2, none⟩ (.int .i64 0) = WF at *
           have r0 := HXF.out.c0
           have r1 := HXF.out.c1
           have r2 := HXF.out.c2
           exact bodyPost_ret (v := frA (2, bd0)) (by simp [results, Tryz.results56, go_sem, r0, r1, r2]; rfl) rfl ⟨rfl, HBF.out⟩
         · have i1 : ¬ (d.toNat : Int) < 48 := by omega
           have i2 : (57 : Int) < (d.toNat : Int) := by omega
           rw [if_neg (by rw [decide_eq_true_eq]; omega)] at hD
           subst hD
           go_wp2_with fail
           have HXF := hideL (HX2.out.st 0 0 0)
           have HBF := hideL (below_st HB2.out (g := w.heap.size) (Nat.le_refl _) (.int .i64 0) (.int .i64 0) (.int .i64 0))
           clear f0 f1 f2 c0 c1 c2
           generalize World.setCell (World.setCell (World.setCell w2 ⟨w.heap.size, 0, none⟩ (.int .i64 0)) ⟨w.heap.size, 1, none⟩ (.int .i64 0)) ⟨w.heap.size, 2, none⟩ (.int .i64 0) = WF at *
           have r0 := HXF.out.c0
           have r1 := HXF.out.c1
           have r2 := HXF.out.c2
           exact bodyPost_ret (v := frA (2, bd0)) (by simp [results, Tryz.results56, go_sem, r0, r1, r2]; rfl) rfl ⟨rfl, HBF.out⟩
       · obtain rfl : k = s.size := by omega
         have hlt' : ¬ (s.size : Int) < (s.size : Int) := by omega
         have hD := HD.out
         rw [List.drop_of_length_le (by rw [HL.out]; exact Nat.le_refl _), walkN] at hD
         subst hD
         clear HD
         by_cases hk2 : 1024 < n
         · have i3 : (1024 : Int) < (n : Int) := by omega
           go_wp2_with fail
           have HXF := hideL (HX2.out.st 0 0 0)
           have HBF := hideL (below_st HB2.out (g := w.heap.size) (Nat.le_refl _) (.int .i64 0) (.int .i64 0) (.int .i64 0))
           clear f0 f1 f2 c0 c1 c2
           generalize World.setCell (World.setCell (World.setCell w2 ⟨w.heap.size, 0, none⟩ (.int .i64 0)) ⟨w.heap.size, 1, none⟩ (.int .i64 0)) ⟨w.heap.size, 2, none⟩ (.int .i64 0) = WF at *
           have r0 := HXF.out.c0
           have r1 := HXF.out.c1
           have r2 := HXF.out.c2
           exact bodyPost_ret (v := frA (6, bd0)) (by simp [results, Tryz.results56, go_sem, r0, r1, r2]; rfl) rfl ⟨by rw [endN_big hk2], HBF.out⟩
         · have i3 : ¬ (1024 : Int) < (n : Int) := by omega
           go_wp2_with fail
           have HXF := hideL (HX2.out.st 0 1 (n : Int))
           have HBF := hideL (below_st HB2.out (g := w.heap.size) (Nat.le_refl _) (.int .i64 0) (.int .i64 1) (.int .i64 (n : Int)))
           clear f0 f1 f2 c0 c1 c2
           generalize World.setCell (World.setCell (World.setCell w2 ⟨w.heap.size, 0, none⟩ (.int .i64 0)) ⟨w.heap.size, 1, none⟩ (.int .i64 1)) ⟨w.heap.size, 2, none⟩ (.int .i64 (n : Int)) = WF at *
           have r0 := HXF.out.c0
           have r1 := HXF.out.c1
           have r2 := HXF.out.c2
           exact bodyPost_ret (v := frA (0, ⟨0, 1, n⟩)) (by simp [results, Tryz.results56, go_sem, r0, r1, r2]; rfl) rfl ⟨by rw [endN_ok hk2], HBF.out⟩
 | _ :: _ :: _, _, h1, _, _, _, _, _, _, _ => exact absurd (by simp; omega) h1
 | _, _ :: _ :: _, h1, _, _, _, _, _, _, _ => exact absurd (by simp; omega) h1
 | _ :: _, _ :: _, h1, _, _, _, _, _, _, _ => exact absurd (by simp; omega) h1
end Go.Proofs.YtafmgoekgijfgaaGreatDoor
