/- How a body's end is told: Framing of the program. The reading's methods that end headers, and a message: lastEnd, headsEnd. strconv.ParseUint(s, 16, 16), at every text. strconv.ParseUint(s, 16, 16) of the library's outer package; the reading takes the line with a chunk's size. -/
import Derived.Test.YtafmgoekgijfgaaGreatDoorARqM3
import Derived.Test.YtafmgoekgijfgaaGreatDoorARqM2
import Derived.Test.YtafmgoekgijfgaaGreatDoorARqM4
import Derived.Test.YtafmgoekgijfgaaGreatDoorARqM1
import Derived.Shelf.Pu.ErrVarParseUint
namespace Go.Proofs.YtafmgoekgijfgaaGreatDoor
open Go.RowKit Go.Lib

theorem clA_eq : clA = ⟨#[99, 111, 110, 116, 101, 110, 116, 45, 108, 101, 110, 103, 116, 104]⟩ := rfl
theorem teA_eq : teA = ⟨#[116, 114, 97, 110, 115, 102, 101, 114, 45, 101, 110, 99, 111, 100, 105, 110, 103]⟩ := rfl
theorem allP_fits {l : List Hd} (hf : Fits l) (name : ByteArray) : ∀ x ∈ allP name l, x.size ≤ 1000000 := by
 intro x hx
 unfold allP at hx
 obtain ⟨h, hh, rfl⟩ := List.mem_map.1 hx
 exact (hf h (List.mem_filter.1 hh).1).2
theorem chk_dec (x : List UInt8) : ((bo (x.map smB)).toList == [99, 104, 117, 110, 107, 101, 100]) = decide (x.map smB = chk) := by
 rw [ByteArray.toList_eq, bo_list]
 by_cases h : x.map smB = chk
 · rw [decide_eq_true h, h]; rfl
 · rw [decide_eq_false h]
   exact beq_eq_false_iff_ne.2 h

set_option maxRecDepth 100000 in
set_option maxHeartbeats 2000000 in
theorem framing_any (v : Value) (l : List Hd) (w : World) (hv : GAt KH w v l) (hf : Fits l) (hl : l.length ≤ 1000) (hE : Env w) :
   Calls Tryz.prog 88 #[v] w (fun e w' => e = .returned (frA (framP l)) ∧ Below w.heap.size w w') := by
 have HB0 := hideL ((Below.refl w.heap.size w).alloc (Nat.le_refl _) (.cells #[.int .i64 0, .int .i64 0, .int .i64 0] 79))
 have HX := hideL (BBox.new w 0 0 0)
 have HE := hideL (hE.next HB0.out)
 have LA := hideL (fun (W : World) (hb : Below w.heap.size w W) => all_any clA v l W (hv.below hb) hf hl)
 have LB := hideL (fun (W : World) (hb : Below w.heap.size w W) => all_any teA v l W (hv.below hb) hf hl)
 have hfa := allP_fits hf clA
 have hfb := allP_fits hf teA
 have hla := allP_len clA l
 have hlb := allP_len teA l
 unfold framP
 obtain ⟨a, ha⟩ : ∃ a, allP clA l = a := ⟨_, rfl⟩
 obtain ⟨b, hb⟩ : ∃ b, allP teA l = b := ⟨_, rfl⟩
 rw [ha] at LA hfa hla ⊢
 rw [hb] at LB hfb hlb ⊢
 rw [clA_eq] at LA
 rw [teA_eq] at LB
 obtain ⟨ao, cap, rfl⟩ := hv.len
 clear ha hb hf hv hE
 have hab : a.length ≤ 1000 ∧ b.length ≤ 1000 := by omega
 clear hla hlb
 generalize l.length = ln at *
 have wadd : IntKind.i64.wrap ((a.length : Int) + (b.length : Int)) = ((a.length + b.length : Nat) : Int) := by rw [IntWalk.i64_in _ (by omega)]; omega
 by_cases h1 : 1 < a.length + b.length
 · have h1' : (1 : Int) < ((a.length + b.length : Nat) : Int) := by omega
   rw [show frmP a b = (2, bd0) from by unfold frmP; rw [if_pos h1]]
   go_enter Tryz.func88, Tryz.ntmps88
   go_wp2_with (first
       | (go_at_call 42; first
          | (with_reducible refine (LA.out _ HB0.out).mono ?_; rintro e w1 ⟨ra, rfl, hR1, hB1⟩
             have HX1 := hideL (HX.out.next hB1)
             have HE1 := hideL (HE.out.next hB1)
             have HR1 := hideL hR1
             have HB1 := hideL (HB0.out.trans (hB1.mono HB0.out.size))
             clear hB1 hR1)
          | (with_reducible refine (LB.out _ HB1.out).mono ?_; rintro e w2 ⟨rb, rfl, hR2, hB2⟩
             have HX2 := hideL (HX1.out.next hB2)
             have HE2 := hideL (HE1.out.next hB2)
             have HA2 := hideL (HR1.out.below hB2).gAt
             have HC2 := hideL hR2.gAt
             have HB2 := hideL (HB1.out.trans (hB2.mono HB1.out.size))
             have f0 := HX2.out.frozen 0
             have f1 := HX2.out.frozen 1
             have f2 := HX2.out.frozen 2
             have c0 := HX2.out.c0
             have c1 := HX2.out.c1
             have c2 := HX2.out.c2
             obtain ⟨oa, ca, hra⟩ := HA2.out.len
             obtain ⟨ob, cb, hrb⟩ := HC2.out.len
             subst hra hrb
             skip
             clear hB2 hR2 HR1)))
   have HXF := hideL (HX2.out.st 0 0 0)
   have HBF := hideL (below_st HB2.out (g := w.heap.size) (Nat.le_refl _) (.int .i64 0) (.int .i64 0) (.int .i64 0))
   clear f0 f1 f2 c0 c1 c2 HX HE LA LB HX1 HE1
   generalize World.setCell (World.setCell (World.setCell w2 ⟨w.heap.size, 0, none⟩ (.int .i64 0)) ⟨w.heap.size, 1, none⟩ (.int .i64 0)) ⟨w.heap.size, 2, none⟩ (.int .i64 0) = WF at *
   have r0 := HXF.out.c0
   have r1 := HXF.out.c1
   have r2 := HXF.out.c2
   exact bodyPost_ret (v := frA (2, bd0)) (by simp [results, Tryz.results88, go_sem, r0, r1, r2]; rfl) rfl ⟨rfl, HBF.out⟩
 have h1' : ¬ (1 : Int) < ((a.length + b.length : Nat) : Int) := by omega
 match a, b, h1, hfa, hfb, hab, LA, LB, wadd, h1' with
 | [], [], h1, hfa, hfb, hab, LA, LB, wadd, h1' =>
   rw [show frmP [] [] = (0, bd0) from rfl]
   simp only [List.length_nil] at wadd h1' ⊢
   go_enter Tryz.func88, Tryz.ntmps88
   go_wp2_with (first
       | (go_at_call 42; first
          | (with_reducible refine (LA.out _ HB0.out).mono ?_; rintro e w1 ⟨ra, rfl, hR1, hB1⟩
             have HX1 := hideL (HX.out.next hB1)
             have HE1 := hideL (HE.out.next hB1)
             have HR1 := hideL hR1
             have HB1 := hideL (HB0.out.trans (hB1.mono HB0.out.size))
             clear hB1 hR1)
          | (with_reducible refine (LB.out _ HB1.out).mono ?_; rintro e w2 ⟨rb, rfl, hR2, hB2⟩
             have HX2 := hideL (HX1.out.next hB2)
             have HE2 := hideL (HE1.out.next hB2)
             have HA2 := hideL (HR1.out.below hB2).gAt
             have HC2 := hideL hR2.gAt
             have HB2 := hideL (HB1.out.trans (hB2.mono HB1.out.size))
             have f0 := HX2.out.frozen 0
             have f1 := HX2.out.frozen 1
             have f2 := HX2.out.frozen 2
             have c0 := HX2.out.c0
             have c1 := HX2.out.c1
             have c2 := HX2.out.c2
             obtain ⟨oa, ca, hra⟩ := HA2.out.len
             obtain ⟨ob, cb, hrb⟩ := HC2.out.len
             subst hra hrb
             simp only [List.length_nil] at *
             clear hB2 hR2 HR1)))
   have HXF := hideL (HX2.out.st 0 0 0)
   have HBF := hideL (below_st HB2.out (g := w.heap.size) (Nat.le_refl _) (.int .i64 0) (.int .i64 0) (.int .i64 0))
   clear f0 f1 f2 c0 c1 c2 HX HE LA LB HX1 HE1
   generalize World.setCell (World.setCell (World.setCell w2 ⟨w.heap.size, 0, none⟩ (.int .i64 0)) ⟨w.heap.size, 1, none⟩ (.int .i64 0)) ⟨w.heap.size, 2, none⟩ (.int .i64 0) = WF at *
   have r0 := HXF.out.c0
   have r1 := HXF.out.c1
   have r2 := HXF.out.c2
   exact bodyPost_ret (v := frA (0, bd0)) (by simp [results, Tryz.results88, go_sem, r0, r1, r2]; rfl) rfl ⟨rfl, HBF.out⟩
 | [s], [], h1, hfa, hfb, hab, LA, LB, wadd, h1' =>
   rw [show frmP [s] [] = lenP s.data.toList from rfl]
   have LL := hideL (fun W (hE : Env W) => byLength_any s (hfa s (by simp)) W hE)
   obtain ⟨⟨e, x, y, z⟩, hr⟩ : ∃ r, lenP s.data.toList = r := ⟨_, rfl⟩
   rw [hr] at LL ⊢
   simp only [frA, bdV] at LL
   clear hr hfa hfb
   simp only [List.length_singleton, List.length_nil] at wadd h1' ⊢
   go_enter Tryz.func88, Tryz.ntmps88
   go_wp2_with (first
       | (go_at_call 42; first
          | (with_reducible refine (LA.out _ HB0.out).mono ?_; rintro e w1 ⟨ra, rfl, hR1, hB1⟩
             have HX1 := hideL (HX.out.next hB1)
             have HE1 := hideL (HE.out.next hB1)
             have HR1 := hideL hR1
             have HB1 := hideL (HB0.out.trans (hB1.mono HB0.out.size))
             clear hB1 hR1)
          | (with_reducible refine (LB.out _ HB1.out).mono ?_; rintro e w2 ⟨rb, rfl, hR2, hB2⟩
             have HX2 := hideL (HX1.out.next hB2)
             have HE2 := hideL (HE1.out.next hB2)
             have HA2 := hideL (HR1.out.below hB2).gAt
             have HC2 := hideL hR2.gAt
             have HB2 := hideL (HB1.out.trans (hB2.mono HB1.out.size))
             have f0 := HX2.out.frozen 0
             have f1 := HX2.out.frozen 1
             have f2 := HX2.out.frozen 2
             have c0 := HX2.out.c0
             have c1 := HX2.out.c1
             have c2 := HX2.out.c2
             obtain ⟨oa, ca, hra⟩ := HA2.out.len
             obtain ⟨ob, cb, hrb⟩ := HC2.out.len
             subst hra hrb
             simp only [List.length_singleton, List.length_nil] at *
             obtain ⟨ba, oo, hoa, hba, hca⟩ := gat_text HA2.out (k := 0) (by decide)
             subst hoa
             have hca2 : w2.cell? ⟨ba, oo, none⟩ = some (.string s) := hca
             clear hca
             clear hB2 hR2 HR1))
       | (go_at_call 133; refine (LL.out _ HE2.out).mono ?_; rintro e3 w3 ⟨rfl, hB3⟩
          have HX3 := hideL (HX2.out.next hB3)
          have HB3 := hideL (HB2.out.trans (hB3.mono HB2.out.size))
          have g0 := HX3.out.frozen 0
          have g1 := HX3.out.frozen 1
          have g2 := HX3.out.frozen 2
          have d0 := HX3.out.c0
          have d1 := HX3.out.c1
          have d2 := HX3.out.c2
          clear hB3))
   have HXF := hideL (HX3.out.st (x : Int) (y : Int) (z : Int))
   have HBF := hideL (below_st HB3.out (g := w.heap.size) (Nat.le_refl _) (.int .i64 (x : Int)) (.int .i64 (y : Int)) (.int .i64 (z : Int)))
   clear f0 f1 f2 c0 c1 c2 HX HE LA LB HX1 HE1 HE2 LL g0 g1 g2 d0 d1 d2 HX2
   generalize World.setCell (World.setCell (World.setCell w3 ⟨w.heap.size, 0, none⟩ (.int .i64 (x : Int))) ⟨w.heap.size, 1, none⟩ (.int .i64 (y : Int))) ⟨w.heap.size, 2, none⟩ (.int .i64 (z : Int)) = WF at *
   have r0 := HXF.out.c0
   have r1 := HXF.out.c1
   have r2 := HXF.out.c2
   exact bodyPost_ret (v := frA (e, ⟨x, y, z⟩)) (by simp [results, Tryz.results88, go_sem, r0, r1, r2]; rfl) rfl ⟨rfl, HBF.out⟩
 | [], [x], h1, hfa, hfb, hab, LA, LB, wadd, h1' =>
   have LS := hideL (fun W => small_any x (hfb x (by simp)) W)
   have hd := chk_dec x.data.toList
   obtain ⟨X, hX⟩ : ∃ X, bo (x.data.toList.map smB) = X := ⟨_, rfl⟩
   rw [hX] at LS hd
   rw [show frmP [] [x] = if x.data.toList.map smB = chk then (0, ⟨1, 0, 0⟩) else (2, bd0) from rfl]
   simp only [List.length_singleton, List.length_nil] at wadd h1' ⊢
   by_cases hc : x.data.toList.map smB = chk
   · rw [if_pos hc]
     rw [decide_eq_true hc] at hd
     clear hX hc hfa hfb
     go_enter Tryz.func88, Tryz.ntmps88
     go_wp2_with (first
         | (go_at_call 42; first
            | (with_reducible refine (LA.out _ HB0.out).mono ?_; rintro e w1 ⟨ra, rfl, hR1, hB1⟩
               have HX1 := hideL (HX.out.next hB1)
               have HE1 := hideL (HE.out.next hB1)
               have HR1 := hideL hR1
               have HB1 := hideL (HB0.out.trans (hB1.mono HB0.out.size))
               clear hB1 hR1)
            | (with_reducible refine (LB.out _ HB1.out).mono ?_; rintro e w2 ⟨rb, rfl, hR2, hB2⟩
               have HX2 := hideL (HX1.out.next hB2)
               have HE2 := hideL (HE1.out.next hB2)
               have HA2 := hideL (HR1.out.below hB2).gAt
               have HC2 := hideL hR2.gAt
               have HB2 := hideL (HB1.out.trans (hB2.mono HB1.out.size))
               have f0 := HX2.out.frozen 0
               have f1 := HX2.out.frozen 1
               have f2 := HX2.out.frozen 2
               have c0 := HX2.out.c0
               have c1 := HX2.out.c1
               have c2 := HX2.out.c2
               obtain ⟨oa, ca, hra⟩ := HA2.out.len
               obtain ⟨ob, cb, hrb⟩ := HC2.out.len
               subst hra hrb
               simp only [List.length_singleton, List.length_nil] at *
               obtain ⟨bb, oo, hob, hbb, hcb⟩ := gat_text HC2.out (k := 0) (by decide)
               subst hob
               have hcb2 : w2.cell? ⟨bb, oo, none⟩ = some (.string x) := hcb
               clear hcb
               clear hB2 hR2 HR1))
         | (go_at_call 134; refine (LS.out _).mono ?_; rintro e3 w3 ⟨rfl, hB3⟩
            have HX3 := hideL (HX2.out.next hB3)
            have HB3 := hideL (HB2.out.trans (hB3.mono HB2.out.size))
            have g0 := HX3.out.frozen 0
            have g1 := HX3.out.frozen 1
            have g2 := HX3.out.frozen 2
            have d0 := HX3.out.c0
            have d1 := HX3.out.c1
            have d2 := HX3.out.c2
            clear hB3))
     have HXF := hideL (HX3.out.st 1 0 0)
     have HBF := hideL (below_st HB3.out (g := w.heap.size) (Nat.le_refl _) (.int .i64 1) (.int .i64 0) (.int .i64 0))
     clear f0 f1 f2 c0 c1 c2 HX HE LA LB HX1 HE1 HE2 LS g0 g1 g2 d0 d1 d2 HX2 hd
     generalize World.setCell (World.setCell (World.setCell w3 ⟨w.heap.size, 0, none⟩ (.int .i64 1)) ⟨w.heap.size, 1, none⟩ (.int .i64 0)) ⟨w.heap.size, 2, none⟩ (.int .i64 0) = WF at *
     have r0 := HXF.out.c0
     have r1 := HXF.out.c1
     have r2 := HXF.out.c2
     exact bodyPost_ret (v := frA (0, ⟨1, 0, 0⟩)) (by simp [results, Tryz.results88, go_sem, r0, r1, r2]; rfl) rfl ⟨rfl, HBF.out⟩
   · rw [if_neg hc]
     rw [decide_eq_false hc] at hd
     clear hX hc hfa hfb
     go_enter Tryz.func88, Tryz.ntmps88
     go_wp2_with (first
         | (go_at_call 42; first
            | (with_reducible refine (LA.out _ HB0.out).mono ?_; rintro e w1 ⟨ra, rfl, hR1, hB1⟩
               have HX1 := hideL (HX.out.next hB1)
               have HE1 := hideL (HE.out.next hB1)
               have HR1 := hideL hR1
               have HB1 := hideL (HB0.out.trans (hB1.mono HB0.out.size))
               clear hB1 hR1)
            | (with_reducible refine (LB.out _ HB1.out).mono ?_; rintro e w2 ⟨rb, rfl, hR2, hB2⟩
               have HX2 := hideL (HX1.out.next hB2)
               have HE2 := hideL (HE1.out.next hB2)
               have HA2 := hideL (HR1.out.below hB2).gAt
               have HC2 := hideL hR2.gAt
               have HB2 := hideL (HB1.out.trans (hB2.mono HB1.out.size))
               have f0 := HX2.out.frozen 0
               have f1 := HX2.out.frozen 1
               have f2 := HX2.out.frozen 2
               have c0 := HX2.out.c0
               have c1 := HX2.out.c1
               have c2 := HX2.out.c2
               obtain ⟨oa, ca, hra⟩ := HA2.out.len
               obtain ⟨ob, cb, hrb⟩ := HC2.out.len
               subst hra hrb
               simp only [List.length_singleton, List.length_nil] at *
               obtain ⟨bb, oo, hob, hbb, hcb⟩ := gat_text HC2.out (k := 0) (by decide)
               subst hob
               have hcb2 : w2.cell? ⟨bb, oo, none⟩ = some (.string x) := hcb
               clear hcb
               clear hB2 hR2 HR1))
         | (go_at_call 134; refine (LS.out _).mono ?_; rintro e3 w3 ⟨rfl, hB3⟩
            have HX3 := hideL (HX2.out.next hB3)
            have HB3 := hideL (HB2.out.trans (hB3.mono HB2.out.size))
            have g0 := HX3.out.frozen 0
            have g1 := HX3.out.frozen 1
            have g2 := HX3.out.frozen 2
            have d0 := HX3.out.c0
            have d1 := HX3.out.c1
            have d2 := HX3.out.c2
            clear hB3))
     have HXF := hideL (HX3.out.st 0 0 0)
     have HBF := hideL (below_st HB3.out (g := w.heap.size) (Nat.le_refl _) (.int .i64 0) (.int .i64 0) (.int .i64 0))
     clear f0 f1 f2 c0 c1 c2 HX HE LA LB HX1 HE1 HE2 LS g0 g1 g2 d0 d1 d2 HX2 hd
     generalize World.setCell (World.setCell (World.setCell w3 ⟨w.heap.size, 0, none⟩ (.int .i64 0)) ⟨w.heap.size, 1, none⟩ (.int .i64 0)) ⟨w.heap.size, 2, none⟩ (.int .i64 0) = WF at *
     have r0 := HXF.out.c0
     have r1 := HXF.out.c1
     have r2 := HXF.out.c2
     exact bodyPost_ret (v := frA (2, bd0)) (by simp [results, Tryz.results88, go_sem, r0, r1, r2]; rfl) rfl ⟨rfl, HBF.out⟩
 | _ :: _ :: _, _, h1, _, _, _, _, _, _, _ => exact absurd (by simp; omega) h1
 | _, _ :: _ :: _, h1, _, _, _, _, _, _, _ => exact absurd (by simp; omega) h1
 | _ :: _, _ :: _, h1, _, _, _, _, _, _, _ => exact absurd (by simp; omega) h1
end Go.Proofs.YtafmgoekgijfgaaGreatDoor
namespace Go.Proofs.YtafmgoekgijfgaaGreatDoor
open Go.RowKit Go.Lib
variable {Pr : List (Nat × Obj)} {W : World} {B g : Nat} {s : Ps} {xs : List Rw} {lv hv bv wv : Sl} {m : List RV}

set_option maxRecDepth 100000 in
theorem lastEnd_any (h : RS Pr W B g s xs lv hv bv wv m) (hm : m.length ≤ 1000000) (t : ByteArray) : Calls Tryz.prog 157 #[.pointer (some ⟨g, 0, none⟩), .string t] W (GoP Pr W B g (if t.data.toList ≠ [] then s.bad 2 else new0) (xs ++ (if t.data.toList ≠ [] then [] else [⟨s.start, s.heads, s.body⟩])) (.tuple #[])) := by
 have LF := hideL (fail_any h 2)
 have LE := hideL (finish_any h hm)
 clear h
 by_cases ht : t = ⟨#[]⟩
 · subst ht
   rw [if_neg (by decide), if_neg (by decide)]
   clear LF
   go_enter Tryz.func157, Tryz.ntmps157
   go_wp2_with (go_at_call 158; refine LE.out.mono ?_; rintro e w2 ⟨rfl, hB, hR⟩)
   first | go_end0 | refine bodyPost_ret (results_none rfl _ _ _) rfl ?_
   exact ⟨rfl, hB, hR⟩
 · have hn := eqs_false ht
   rw [ByteArray.toList_eq ⟨#[]⟩] at hn
   have ht2 : t.data.toList ≠ [] := fun e => ht (bytes_ext e)
   rw [if_pos ht2, if_pos ht2, List.append_nil]
   clear ht ht2 LE
   go_enter Tryz.func157, Tryz.ntmps157
   go_wp2_with (go_at_call 109; refine LF.out.mono ?_; rintro e w2 ⟨rfl, hB, hR⟩)
   first | go_end0 | refine bodyPost_ret (results_none rfl _ _ _) rfl ?_
   exact ⟨rfl, hB, hR⟩
theorem good_fits {l : List Hd} (h : mayH l = true) : Fits l := fun x hx => by
 have := mayH_mem h x hx
 unfold goodP at this
 simp only [Bool.and_eq_true] at this
 have h1 := (nameP_len this.1).2
 have h2 := valP_len this.2
 rw [size_list] at h1 h2
 exact ⟨by omega, by omega⟩
set_option maxRecDepth 100000 in
set_option maxHeartbeats 1000000 in
theorem headsEnd_any (h : RS Pr W B g s xs lv hv bv wv m) (hE : Env W) (hg : goodS s) (hl : s.line = []) (hb : s.body = []) (hm : m.length ≤ 1000000) :
   Calls Tryz.prog 198 #[.pointer (some ⟨g, 0, none⟩)] W (GoP Pr W B g s.hdone.1 (xs ++ s.hdone.2) (.tuple #[])) := by
 have hln := mayH_len hg.heads
 have LR := hideL (framing_any hv.v s.heads W h.heads.gAt (good_fits hg.heads) (by omega) hE)
 have c3 := h.c3
 have HS := hideL h
 have HL := hideL hl
 have HBD := hideL hb
 obtain ⟨⟨e0, a, b, c⟩, hr⟩ : ∃ r, framP s.heads = r := ⟨_, rfl⟩
 rw [hr] at LR
 simp only [frA, bdV] at LR
 unfold Ps.hdone
 rw [hr]
 clear h hg hl hb hln hr
 obtain ⟨ha, hn, hc⟩ := hv
 simp only [Sl.v] at c3 LR
 cases e0 with
 | succ e0 =>
   simp only [List.append_nil]
   have en : ((e0 + 1 : Nat) : Int) ≠ 0 := by omega
   have en' : (((e0 + 1 : Nat) : Int) == 0) = false := beq_eq_false_iff_ne.2 en
   generalize e0 + 1 = k at *
   go_enter Tryz.func198, Tryz.ntmps198
   go_wp2_with (first
     | (go_at_call 88; refine LR.out.mono ?_; rintro e w2 ⟨rfl, hB⟩
        have hA := (Below.refl w2.heap.size w2).alloc (Nat.le_refl _) (.cells #[.int .i64 a, .int .i64 b, .int .i64 c] 79)
        have HB2 := hideL (hB.trans (hA.mono hB.size))
        have LF := hideL (fail_any (HS.out.below HB2.out) k)
        clear hB hA)
     | (go_at_call 109; refine LF.out.mono ?_; intro e w3 hG; obtain ⟨rfl, hB, hR⟩ := (GoP.after (HS.out.seen HB2.out) hG)))
   first | go_end0 | refine bodyPost_ret (results_none rfl _ _ _) rfl ?_
   exact ⟨rfl, hB, hR⟩
 | zero =>
   simp only
   by_cases h1 : a = 1
   · have i1 : ((a : Int) == 1) = true := by rw [h1]; rfl
     rw [if_pos h1, List.append_nil]
     clear h1
     go_enter Tryz.func198, Tryz.ntmps198
     go_wp2_with (first
     | (go_at_call 88; refine LR.out.mono ?_; rintro e w2 ⟨rfl, hB⟩
        have hA := (Below.refl w2.heap.size w2).alloc (Nat.le_refl _) (.cells #[.int .i64 a, .int .i64 b, .int .i64 c] 79)
        have HB2 := hideL (hB.trans (hA.mono hB.size))
        have HX2 := hideL (BBox.new w2 a b c)
        have q0 := HX2.out.c0
        have q2 := HX2.out.c2
        have d0 := (HS.out.below HB2.out).c0
        have f0 := (HS.out.below HB2.out).fz 0
        have HP := hideL (phased (HS.out.below HB2.out) 3)
        clear hB hA))
     first | go_end0 | refine bodyPost_ret (results_none rfl _ _ _) rfl ?_
     have hh := HP.out.1
     rw [show ({ s with phase := 3 } : Ps) = { s with phase := 3, line := [] } from by rw [← HL.out]] at hh
     exact ⟨rfl, (HS.out.seen HB2.out).trans HP.out.2, _, _, _, _, _, hh⟩
   · rw [if_neg h1]
     have i1 : ((a : Int) == 1) = false := beq_eq_false_iff_ne.2 (by omega)
     by_cases h0 : c = 0
     · subst h0
       rw [if_pos rfl]
       clear h1
       go_enter Tryz.func198, Tryz.ntmps198
       go_wp2_with (first
       | (go_at_call 88; refine LR.out.mono ?_; rintro e w2 ⟨rfl, hB⟩
          have hA := (Below.refl w2.heap.size w2).alloc (Nat.le_refl _) (.cells #[.int .i64 a, .int .i64 b, .int .i64 0] 79)
          have HB2 := hideL (hB.trans (hA.mono hB.size))
          have HX2 := hideL (BBox.new w2 a b 0)
          have q0 := HX2.out.c0
          have q2 := HX2.out.c2
          have d0 := (HS.out.below HB2.out).c0
          have f0 := (HS.out.below HB2.out).fz 0
          have LF := (finish_any (HS.out.below HB2.out) hm)
          rw [HBD.out] at LF
          replace LF := hideL LF
          clear hB hA)
       | (go_at_call 158; refine LF.out.mono ?_; intro e w3 hG; obtain ⟨rfl, hB, hR⟩ := (GoP.after (HS.out.seen HB2.out) hG)))
       first | go_end0 | refine bodyPost_ret (results_none rfl _ _ _) rfl ?_
       exact ⟨rfl, hB, hR⟩
     · rw [if_neg h0, List.append_nil]
       have i0 : (0 : Int) < (c : Int) := by omega
       clear h0 h1
       go_enter Tryz.func198, Tryz.ntmps198
       go_wp2_with (first
       | (go_at_call 88; refine LR.out.mono ?_; rintro e w2 ⟨rfl, hB⟩
          have hA := (Below.refl w2.heap.size w2).alloc (Nat.le_refl _) (.cells #[.int .i64 a, .int .i64 b, .int .i64 c] 79)
          have HB2 := hideL (hB.trans (hA.mono hB.size))
          have HX2 := hideL (BBox.new w2 a b c)
          have q0 := HX2.out.c0
          have q2 := HX2.out.c2
          have d0 := (HS.out.below HB2.out).c0
          have f0 := (HS.out.below HB2.out).fz 0
          have d5 := (HS.out.below HB2.out).c5
          have f5 := (HS.out.below HB2.out).fz 5
          have HP := hideL (lefted (HS.out.below HB2.out) 2 c)
          clear hB hA))
       first | go_end0 | refine bodyPost_ret (results_none rfl _ _ _) rfl ?_
       have hh := HP.out.1
       rw [show ({ s with phase := 2, left := c } : Ps) = { s with phase := 2, line := [], left := c } from by rw [← HL.out]] at hh
       exact ⟨rfl, (HS.out.seen HB2.out).trans HP.out.2, _, _, _, _, _, hh⟩
end Go.Proofs.YtafmgoekgijfgaaGreatDoor
namespace Go.Proofs.YtafmgoekgijfgaaGreatDoor
open Go.RowKit Go.Lib

/-- How the library's loop ends: its number; no digit; too great. -/
inductive HR
 | num (n : Nat)
 | odd
 | big
def hexR (acc : Nat) : List UInt8 → HR
 | [] => .num acc
 | c :: r => match hexN c.toNat with
   | some d => if 65535 < acc * 16 + d then .big else hexR (acc * 16 + d) r
   | none => .odd
def hrA : HR → Value
 | .num v => .tuple #[.int .u64 v, .nilIface]
 | .odd => .tuple #[.int .u64 0, .iface 199 (.int .i64 2)]
 | .big => .tuple #[.int .u64 65535, .iface 199 (.int .i64 1)]
theorem hexR_six : ∀ (l : List UInt8) (acc : Nat), acc ≤ 65535 → (∀ n, hexR acc l = .num n ↔ (sizeN acc l = some n ∧ n < 65536)) := by
 intro l
 induction l with
 | nil =>
   intro acc ha n
   simp only [hexR, sizeN, HR.num.injEq, Option.some.injEq]
   constructor
   · rintro rfl; exact ⟨rfl, by omega⟩
   · exact fun h => h.1
 | cons c r ih =>
   intro acc ha n
   rw [hexR, sizeN, hexN_hexV]
   cases hc : hexV c with
   | none =>
     simp only
     constructor
     · intro h; cases h
     · rintro ⟨h, _⟩; cases h
   | some d =>
     simp only
     by_cases hb : 65535 < acc * 16 + d
     · rw [if_pos hb]
       constructor
       · intro h; cases h
       · rintro ⟨h, hl⟩
         have h1 := (sizeN_pow r _ _ h).1
         have h2 : 0 < 16 ^ r.length := Nat.pow_pos (by decide)
         have h3 : (acc * 16 + d) * 1 ≤ (acc * 16 + d) * 16 ^ r.length := Nat.mul_le_mul_left _ h2
         omega
     · rw [if_neg hb]
       exact ih _ (by omega) n
/-- What is read, in the words of a chunk's size. -/
theorem sixP_num {s : List UInt8} (h0 : s ≠ []) {n : Nat} (h : hexR 0 s = .num n) : sixP s = some n := by
 obtain ⟨h1, h2⟩ := (hexR_six s 0 (by decide) n).1 h
 unfold sixP
 rw [if_neg h0, h1]
 simp only
 rw [if_pos h2]
theorem sixP_none {s : List UInt8} (h : ∀ n, hexR 0 s ≠ .num n) : sixP s = none := by
 unfold sixP
 split
 · rfl
 split
 · rename_i n hn
   split
   · rename_i hl
     exact absurd ((hexR_six s 0 (by decide) n).2 ⟨hn, hl⟩) (h n)
   · rfl
 · rfl

set_option maxHeartbeats 4000000 in
set_option maxRecDepth 100000 in
theorem puint16_any (t : ByteArray) (h0 : t.size ≠ 0) (hmax : t.size ≤ 1000000) (w : World) :
   Calls Tryz.prog 144 #[.string t, .int .i64 16, .int .i64 16] w fun e w' => e = .returned (hrA (hexR 0 t.data.toList)) ∧ Below w.heap.size w w' := by
 have hemp : t.toList.isEmpty = false := by
   rw [← decide_eq_emptyBytes]
   exact decide_eq_false (fun h => h0 (by rw [h]; rfl))
 have hcv := Lib.run_convert_string_bytes (P := Tryz.prog) w 9 22 5 t (u := .string) Tryz.underlying9 Tryz.underlying22 Tryz.underlying5
 have hB : ∀ j, j < t.size → (Lib.bytesWorld w 5 t).cell? ⟨w.heap.size, j, none⟩ = some (.int .u8 (t.data.toList.getD j 0).toNat) := fun j hj => Lib.bytesWorld_cell w 5 t j hj
 have hW := hideL (Lib.bytesWorld_below w 5 t)
 obtain ⟨W1, hW1⟩ : ∃ W1, W1 = Lib.bytesWorld w 5 t := ⟨_, rfl⟩
 rw [← hW1] at hcv hB hW
 clear hW1
 obtain ⟨bs, hL⟩ : ∃ bs, bs = t.data.toList := ⟨_, rfl⟩
 have hLn : bs.length = t.size := by rw [hL, Lib.size_eq]
 rw [← hL] at hB ⊢
 clear hL
 have hmv : IntKind.u64.wrap (IntKind.u64.wrap 65536 - 1) = 65535 := by
   rw [IntKind.wrap_u64, IntKind.wrap_u64]
   decide
 obtain ⟨V, hV⟩ : ∃ V, hexR 0 bs = V := ⟨_, rfl⟩
 rw [hV]
 have HV := hideL hV
 clear hV
 go_enter Tryz.func144, Tryz.ntmps144
 go_wp2
 go_loop [12, 13, 101] (fun vu vn vi => ∃ (k acc : Nat) (a : Int), vu = .bool false ∧ vn = .int .u64 a ∧ vi = .int .i64 k ∧ k ≤ t.size ∧ HidL (a = (acc : Int) ∧ acc ≤ 65535 ∧ hexR acc (bs.drop k) = V))
   (fun _ _ vi => t.size - (RowKit.intOf vi).toNat)
 case atStart => exact ⟨0, 0, 0, rfl, rfl, rfl, by omega, ⟨rfl, by decide, HV.out⟩⟩
 case round =>
   obtain ⟨k, acc, a, rfl, rfl, rfl, hk, hh⟩ := hrel
   obtain ⟨ha, hacc, hdec⟩ := hh.out
   clear hh HV
   by_cases hkn : k < t.size
   · have a0 : 0 ≤ a := by omega
     have a1 : a ≤ 65535 := by omega
     have hc := hB k hkn
     have hdrop : bs.drop k = bs[k]'(by omega) :: bs.drop (k + 1) := List.drop_eq_getElem_cons (by omega)
     have hget : bs.getD k 0 = bs[k]'(by omega) := by simp [List.getD, List.getElem?_eq_getElem (show k < bs.length by omega)]
     rw [hdrop, hexR] at hdec
     rw [hget] at hc
     generalize bs[k]'(by omega) = c at hc hdec
     have hc256 : c.toNat < 256 := c.toNat_lt
     generalize c.toNat = n at *
     clear hB hdrop hget
     have LO := hideL (fun W : World => lower_any n hc256 W)
     have hlo := low_lt n hc256
     by_cases hdig : 48 ≤ n ∧ n ≤ 57
     · have hx : hexN n = some (n - 48) := if_pos hdig
       rw [hx] at hdec
       simp only at hdec
       obtain ⟨hd0, hd1⟩ := hdig
       have i1 : (48 : Int) ≤ (n : Int) := by omega
       have i2 : (n : Int) ≤ 57 := by omega
       have i3 : ((n : Int) == 95) = false := beq_eq_false_iff_ne.2 (by omega)
       by_cases hbig : 65535 < acc * 16 + (n - 48)
       · rw [if_pos hbig] at hdec
         have i6 : (65535 : Int) < a * 16 + ((n : Int) - 48) := by omega
         subst hdec
         clear hacc ha hx hlo hbig LO
         go_wp2
         all_goals go_ret2
         all_goals exact ⟨rfl, hW.out⟩
       · rw [if_neg hbig] at hdec
         have i6 : ¬ (65535 : Int) < a * 16 + ((n : Int) - 48) := by omega
         have HN : HidL (a * 16 + ((n : Int) - 48) = ((acc * 16 + (n - 48) : Nat) : Int) ∧ acc * 16 + (n - 48) ≤ 65535 ∧ hexR (acc * 16 + (n - 48)) (bs.drop (k + 1)) = V) := ⟨by omega, by omega, hdec⟩
         clear hacc hdec ha hx hlo hbig LO
         go_wp2
         refine ⟨⟨k + 1, acc * 16 + (n - 48), a * 16 + ((n : Int) - 48), rfl, (by first | rfl | (congr 1; omega)), (by first | rfl | (congr 1; omega)), by omega, HN⟩, by simp [RowKit.intOf]; omega⟩
     · have hx : hexN n = if 97 ≤ lowN n ∧ lowN n ≤ 102 then some (lowN n - 87) else none := if_neg hdig
       rw [hx] at hdec
       have i4 : (decide ((48 : Int) ≤ (n : Int)) && decide ((n : Int) ≤ 57)) = false := by
         rw [Bool.and_eq_false_iff, decide_eq_false_iff_not, decide_eq_false_iff_not]; omega
       have i95 : n = 95 → lowN n = 127 := by rintro rfl; rfl
       by_cases h95 : n = 95
       · subst h95
         have LO : HidL (∀ W : World, Calls Tryz.prog 191 #[.int .u8 95] W (fun e w' => e = .returned (.int .u8 127) ∧ w' = W)) := ⟨fun W => LO.out W⟩
         have hdec : HR.odd = V := hdec
         subst hdec
         clear hacc ha hx hlo i95 i4 hdig
         go_wp2_with (first
           | (go_at_call 191; refine (LO.out _).mono ?_; rintro e w2 ⟨rfl, rfl⟩))
         all_goals go_ret2
         all_goals exact ⟨rfl, hW.out⟩
       have i3 : ((n : Int) == 95) = false := beq_eq_false_iff_ne.2 (by omega)
       clear i95
       generalize lowN n = q at *
       by_cases hlet : 97 ≤ q ∧ q ≤ 122
       · obtain ⟨hq0, hq1⟩ := hlet
         have i1 : (97 : Int) ≤ (q : Int) := by omega
         have i2 : (q : Int) ≤ 122 := by omega
         by_cases hq2 : q ≤ 102
         · rw [if_pos ⟨hq0, hq2⟩] at hdec
           simp only at hdec
           have i5 : (q : Int) ≤ 102 := by omega
           by_cases hbig : 65535 < acc * 16 + (q - 87)
           · rw [if_pos hbig] at hdec
             have i6 : (65535 : Int) < a * 16 + ((q : Int) - 97 + 10) := by omega
             subst hdec
             clear hacc ha hx hlo hbig h95
             go_wp2_with (first
               | (go_at_call 191; refine (LO.out _).mono ?_; rintro e w2 ⟨rfl, rfl⟩))
             all_goals go_ret2
             all_goals exact ⟨rfl, hW.out⟩
           · rw [if_neg hbig] at hdec
             have i6 : ¬ (65535 : Int) < a * 16 + ((q : Int) - 97 + 10) := by omega
             have HN : HidL (a * 16 + ((q : Int) - 97 + 10) = ((acc * 16 + (q - 87) : Nat) : Int) ∧ acc * 16 + (q - 87) ≤ 65535 ∧ hexR (acc * 16 + (q - 87)) (bs.drop (k + 1)) = V) := ⟨by omega, by omega, hdec⟩
             clear hacc hdec ha hx hlo hbig h95
             go_wp2_with (first
               | (go_at_call 191; refine (LO.out _).mono ?_; rintro e w2 ⟨rfl, rfl⟩))
             all_goals refine ⟨⟨k + 1, acc * 16 + (q - 87), a * 16 + ((q : Int) - 97 + 10), rfl, (by first | rfl | (congr 1; omega)), (by first | rfl | (congr 1; omega)), by omega, HN⟩, by simp [RowKit.intOf]; omega⟩
         · rw [if_neg (by omega)] at hdec
           have hdec : HR.odd = V := hdec
           subst hdec
           clear hacc ha hx hlo h95
           go_wp2_with (first
             | (go_at_call 191; refine (LO.out _).mono ?_; rintro e w2 ⟨rfl, rfl⟩))
           all_goals go_ret2
           all_goals exact ⟨rfl, hW.out⟩
       · rw [if_neg (by omega)] at hdec
         have hdec : HR.odd = V := hdec
         subst hdec
         clear hacc ha hx hlo h95
         go_wp2_with (first
           | (go_at_call 191; refine (LO.out _).mono ?_; rintro e w2 ⟨rfl, rfl⟩))
         all_goals go_ret2
         all_goals exact ⟨rfl, hW.out⟩
   · obtain rfl : k = t.size := by omega
     rw [List.drop_of_length_le (by omega), hexR] at hdec
     subst hdec
     clear hB hacc
     go_wp2
     go_ret2
     subst ha
     exact ⟨rfl, hW.out⟩
end Go.Proofs.YtafmgoekgijfgaaGreatDoor
namespace Go.Proofs.YtafmgoekgijfgaaGreatDoor
open Go.RowKit Go.Lib
variable {Pr : List (Nat × Obj)} {W : World} {B g : Nat} {s : Ps} {xs : List Rw} {lv hv bv wv : Sl} {m : List RV}

def hexE (l : List UInt8) : HR := if l = [] then .odd else hexR 0 l
theorem puintE_any (t : ByteArray) (hmax : t.size ≤ 1000000) (w : World) : Calls Tryz.prog 144 #[.string t, .int .i64 16, .int .i64 16] w fun e w' => e = .returned (hrA (hexE t.data.toList)) ∧ Below w.heap.size w w' := by
 unfold hexE
 by_cases h : t.data.toList = []
 · rw [if_pos h]
   obtain rfl : t = ⟨#[]⟩ := bytes_ext h
   refine (AnyPu.internal_strconv_ParseUint_empty { Tryz.laysPu14 with } 16 16 w).mono ?_
   rintro e w' ⟨rfl, rfl⟩
   exact ⟨rfl, Below.refl _ _⟩
 · rw [if_neg h]
   exact puint16_any t (fun e => h (List.eq_nil_of_length_eq_zero (by rw [size_list]; exact e))) hmax w
/-- What strconv.ParseUint answers: a number, or an error that is not nil. -/
def hrB (r : HR) (e : Ending) : Prop := match r with
 | .num v => e = .returned (.tuple #[.int .u64 v, .nilIface])
 | _ => ∃ k N : Nat, e = .returned (.tuple #[.int .u64 k, .iface 201 (.pointer (some ⟨N, 0, none⟩))])
set_option maxHeartbeats 1000000 in
set_option maxRecDepth 100000 in
theorem spuint16_any (t : ByteArray) (hmax : t.size ≤ 1000000) (w : World) (hE : Env w) (hS : EnvS w) :
   Calls Tryz.prog 99 #[.string t, .int .i64 16, .int .i64 16] w fun e w' => hrB (hexE t.data.toList) e ∧ Below w.heap.size w w' := by
 have HP := hideL (fun W : World => puintE_any t hmax W)
 have HE := hideL hE
 have HS := hideL hS
 have HT2 : HidL (∀ W : World, EnvS W → Calls Tryz.prog 145 #[.string ⟨#[80, 97, 114, 115, 101, 85, 105, 110, 116]⟩, .string t, .int .i64 16, .int .i64 16, .iface 199 (.int .i64 2)] W fun e w' => (∃ N, e = .returned (.iface 201 (.pointer (some ⟨N, 0, none⟩)))) ∧ Below W.heap.size W w') := ⟨fun W hW => by
   obtain ⟨ev, h1, h2'⟩ := hW.err
   refine (Any.strconv_toError_syntax Tryz.laysC245 _ t 16 16 ev W (by omega) h1 h2').mono ?_
   rintro e w' ⟨N, rfl, _, _, h⟩
   exact ⟨⟨N, rfl⟩, h⟩⟩
 have HT1 : HidL (∀ W : World, Env W → Calls Tryz.prog 145 #[.string ⟨#[80, 97, 114, 115, 101, 85, 105, 110, 116]⟩, .string t, .int .i64 16, .int .i64 16, .iface 199 (.int .i64 1)] W fun e w' => (∃ N, e = .returned (.iface 201 (.pointer (some ⟨N, 0, none⟩)))) ∧ Below W.heap.size W w') := ⟨fun W hW => by
   obtain ⟨ev, h1, h2'⟩ := hW
   refine (Any.strconv_toError_range Tryz.laysC245 _ t 16 16 ev W (by omega) h1 h2').mono ?_
   rintro e w' ⟨N, rfl, _, _, h⟩
   exact ⟨⟨N, rfl⟩, h⟩⟩
 obtain ⟨r, hr⟩ : ∃ r, hexE t.data.toList = r := ⟨_, rfl⟩
 rw [hr] at HP ⊢
 clear hr hE hS
 cases r with
 | num v =>
   simp only [hrA] at HP
   unfold hrB
   simp only
   go_enter Tryz.func99, Tryz.ntmps99
   go_wp2_with (go_at_call 144; refine (HP.out _).mono ?_; rintro e w2 ⟨rfl, hB2⟩)
   go_ret2
   exact ⟨rfl, hB2⟩
 | odd =>
   simp only [hrA] at HP
   unfold hrB
   simp only
   go_enter Tryz.func99, Tryz.ntmps99
   go_wp2_with (first
     | (go_at_call 144; refine (HP.out _).mono ?_; rintro e w2 ⟨rfl, hB2⟩; have HE2 := hideL (HS.out.next hB2))
     | (go_at_call 145; refine (HT2.out _ HE2.out).mono ?_; rintro e w3 ⟨⟨N, rfl⟩, hB3⟩))
   go_ret2
   exact ⟨⟨0, N, rfl⟩, hB2.trans (hB3.mono hB2.size)⟩
 | big =>
   simp only [hrA] at HP
   unfold hrB
   simp only
   go_enter Tryz.func99, Tryz.ntmps99
   go_wp2_with (first
     | (go_at_call 144; refine (HP.out _).mono ?_; rintro e w2 ⟨rfl, hB2⟩; have HE2 := hideL (HE.out.next hB2))
     | (go_at_call 145; refine (HT1.out _ HE2.out).mono ?_; rintro e w3 ⟨⟨N, rfl⟩, hB3⟩))
   go_ret2
   exact ⟨⟨65535, N, rfl⟩, hB2.trans (hB3.mono hB2.size)⟩
/-- What the line with a chunk's size makes of the reading. -/
def siP (s : Ps) (t : List UInt8) : Ps := match sizeP t with
 | none => s.bad 2
 | some n => if 0 < n ∧ 1024 < s.body.length + n then s.bad 6 else if n = 0 then { s with phase := 6 } else { s with phase := 4, left := n }
theorem hasPre_nought (t : ByteArray) : decide (([48] : List UInt8) <+: t.data.toList) = decide (t.data.toList.head? = some 48) := pre_one 48 _
set_option maxRecDepth 100000 in
set_option maxHeartbeats 2000000 in
theorem size_any (h : RS Pr W B g s xs lv hv bv wv m) (hE : Env W) (hS : EnvS W) (hg : goodS s) (t : ByteArray) (hmax : t.size ≤ 1000000) :
   Calls Tryz.prog 155 #[.pointer (some ⟨g, 0, none⟩), .string t] W (GoP Pr W B g (siP s t.data.toList) xs (.tuple #[])) := by
 have LU := hideL (spuint16_any t hmax W hE hS)
 have LPRE := hideL (fun W : World => hasPre_any t ⟨#[48]⟩ W)
 have hpe : decide ((⟨#[48]⟩ : ByteArray).data.toList <+: t.data.toList) = decide (t.data.toList.head? = some 48) := hasPre_nought t
 rw [hpe] at LPRE
 have HS := hideL h
 have hbn := hg.body
 unfold siP
 by_cases h48 : t = ⟨#[48]⟩
 · subst h48
   rw [show sizeP (⟨#[48]⟩ : ByteArray).data.toList = some 0 from size_nought]
   simp only
   rw [if_neg (by omega), if_pos trivial]
   have hx : hexE (⟨#[48]⟩ : ByteArray).data.toList = .num 0 := rfl
   rw [hx] at LU
   unfold hrB at LU
   simp only at LU
   have c0 := fun W2 (hb : Below W.heap.size W W2) => (h.below hb).c0
   have C0 := hideL c0
   clear h hE hS hg hx c0
   go_enter Tryz.func155, Tryz.ntmps155
   go_wp2_with (go_at_call 99; refine (LU.out).mono ?_; rintro e w2 ⟨rfl, hB2⟩
                have d0 := C0.out _ hB2
                have f0 := (HS.out.below hB2).fz 0
                have HP := hideL (phased (HS.out.below hB2) 6)
                have HB2 := hideL (HS.out.seen hB2)
                clear hB2)
   first | go_end0 | refine bodyPost_ret (results_none rfl _ _ _) rfl ?_
   exact ⟨rfl, HB2.out.trans HP.out.2, _, _, _, _, _, HP.out.1⟩
 · have e48 := eqs_false h48
   rw [ByteArray.toList_eq ⟨#[48]⟩] at e48
   have e48' : (t.toList == [48]) = false := e48
   by_cases hh : t.data.toList.head? = some 48
   · rw [size_lead hh (fun e => h48 (bytes_ext e))]
     simp only
     rw [decide_eq_true hh] at LPRE
     obtain ⟨r, hr⟩ : ∃ r, hexE t.data.toList = r := ⟨_, rfl⟩
     rw [hr] at LU
     clear h hE hS hg hr hpe h48 e48 hh
     cases r with
     | num v =>
       unfold hrB at LU
       simp only at LU
       go_enter Tryz.func155, Tryz.ntmps155
       go_wp2_with (first
         | (go_at_call 99; refine (LU.out).mono ?_; rintro e w2 ⟨rfl, hB2⟩
            have LF := hideL (fail_any (HS.out.below hB2) 2)
            have HB2 := hideL (HS.out.seen hB2)
            clear hB2)
         | (go_at_call 100; refine (LPRE.out _).mono ?_; rintro e w3 ⟨rfl, rfl⟩)
         | (go_at_call 109; refine LF.out.mono ?_; intro e w3 hG; obtain ⟨rfl, hB, hR⟩ := (GoP.after HB2.out hG)))
       first | go_end0 | refine bodyPost_ret (results_none rfl _ _ _) rfl ?_
       exact ⟨rfl, hB, hR⟩
     | odd =>
       unfold hrB at LU
       simp only at LU
       go_enter Tryz.func155, Tryz.ntmps155
       go_wp2_with (first
         | (go_at_call 99; refine (LU.out).mono ?_; rintro e w2 ⟨⟨k, N, rfl⟩, hB2⟩
            have LF := hideL (fail_any (HS.out.below hB2) 2)
            have HB2 := hideL (HS.out.seen hB2)
            clear hB2)
         | (go_at_call 109; refine LF.out.mono ?_; intro e w3 hG; obtain ⟨rfl, hB, hR⟩ := (GoP.after HB2.out hG)))
       first | go_end0 | refine bodyPost_ret (results_none rfl _ _ _) rfl ?_
       exact ⟨rfl, hB, hR⟩
     | big =>
       unfold hrB at LU
       simp only at LU
       go_enter Tryz.func155, Tryz.ntmps155
       go_wp2_with (first
         | (go_at_call 99; refine (LU.out).mono ?_; rintro e w2 ⟨⟨k, N, rfl⟩, hB2⟩
            have LF := hideL (fail_any (HS.out.below hB2) 2)
            have HB2 := hideL (HS.out.seen hB2)
            clear hB2)
         | (go_at_call 109; refine LF.out.mono ?_; intro e w3 hG; obtain ⟨rfl, hB, hR⟩ := (GoP.after HB2.out hG)))
       first | go_end0 | refine bodyPost_ret (results_none rfl _ _ _) rfl ?_
       exact ⟨rfl, hB, hR⟩
   · rw [size_six hh]
     rw [decide_eq_false hh] at LPRE
     by_cases h0 : t.data.toList = []
     · have hx : hexE t.data.toList = .odd := by unfold hexE; rw [if_pos h0]
       rw [hx] at LU
       rw [show sixP t.data.toList = none from by rw [h0]; rfl]
       clear h hE hS hg hpe h48 e48 hh hx h0
       simp only
       unfold hrB at LU
       simp only at LU
       go_enter Tryz.func155, Tryz.ntmps155
       go_wp2_with (first
         | (go_at_call 99; refine (LU.out).mono ?_; rintro e w2 ⟨⟨k, N, rfl⟩, hB2⟩
            have LF := hideL (fail_any (HS.out.below hB2) 2)
            have HB2 := hideL (HS.out.seen hB2)
            clear hB2)
         | (go_at_call 109; refine LF.out.mono ?_; intro e w3 hG; obtain ⟨rfl, hB, hR⟩ := (GoP.after HB2.out hG)))
       first | go_end0 | refine bodyPost_ret (results_none rfl _ _ _) rfl ?_
       exact ⟨rfl, hB, hR⟩
     have hx : hexE t.data.toList = hexR 0 t.data.toList := by unfold hexE; rw [if_neg h0]
     rw [hx] at LU
     obtain ⟨r, hr⟩ : ∃ r, hexR 0 t.data.toList = r := ⟨_, rfl⟩
     rw [hr] at LU
     cases r with
     | num v =>
       have hs := sixP_num h0 hr
       obtain ⟨p1, p2⟩ := six_pos hh hs
       rw [hs]
       simp only
       unfold hrB at LU
       simp only at LU
       have wv64 : IntKind.i64.wrap (v : Int) = (v : Int) := by rw [IntWalk.i64_in _ (by omega)]
       have wadd : IntKind.i64.wrap ((s.body.length : Int) + (v : Int)) = ((s.body.length + v : Nat) : Int) := by rw [IntWalk.i64_in _ (by omega)]; omega
       have hln := h.body.gAt.le
       have c4 := fun W2 (hb : Below W.heap.size W W2) => (h.below hb).c4
       have C4 := hideL c4
       obtain ⟨ba, bn, bc⟩ := bv
       have hbl : bn = s.body.length := hln.1
       subst hbl
       simp only [Sl.v] at C4
       clear c4 hln
       by_cases hbig : 1024 < s.body.length + v
       · rw [if_pos ⟨p1, hbig⟩]
         have i1 : (1024 : Int) < ((s.body.length + v : Nat) : Int) := by omega
         clear h hE hS hg hpe h48 e48 hh hx h0 hr hs hbig
         go_enter Tryz.func155, Tryz.ntmps155
         go_wp2_with (first
           | (go_at_call 99; refine (LU.out).mono ?_; rintro e w2 ⟨rfl, hB2⟩
              have LF := hideL (fail_any (HS.out.below hB2) 6)
              have d4 := C4.out _ hB2
              have HB2 := hideL (HS.out.seen hB2)
              clear hB2)
           | (go_at_call 100; refine (LPRE.out _).mono ?_; rintro e w3 ⟨rfl, rfl⟩)
           | (go_at_call 109; refine LF.out.mono ?_; intro e w3 hG; obtain ⟨rfl, hB, hR⟩ := (GoP.after HB2.out hG)))
         first | go_end0 | refine bodyPost_ret (results_none rfl _ _ _) rfl ?_
         exact ⟨rfl, hB, hR⟩
       · rw [if_neg (fun h => hbig h.2), if_neg (by omega)]
         have i1 : ¬ (1024 : Int) < ((s.body.length + v : Nat) : Int) := by omega
         clear h hE hS hg hpe h48 e48 hh hx h0 hr hs hbig
         go_enter Tryz.func155, Tryz.ntmps155
         go_wp2_with (first
           | (go_at_call 99; refine (LU.out).mono ?_; rintro e w2 ⟨rfl, hB2⟩
              have d4 := C4.out _ hB2
              have d0 := (HS.out.below hB2).c0
              have d5 := (HS.out.below hB2).c5
              have f0 := (HS.out.below hB2).fz 0
              have f5 := (HS.out.below hB2).fz 5
              have HP := hideL (lefted (HS.out.below hB2) 4 v)
              have HB2 := hideL (HS.out.seen hB2)
              clear hB2)
           | (go_at_call 100; refine (LPRE.out _).mono ?_; rintro e w3 ⟨rfl, rfl⟩))
         first | go_end0 | refine bodyPost_ret (results_none rfl _ _ _) rfl ?_
         exact ⟨rfl, HB2.out.trans HP.out.2, _, _, _, _, _, HP.out.1⟩
     | odd =>
       rw [sixP_none (fun n e => by rw [hr] at e; cases e)]
       clear h hE hS hg hpe h48 e48 hh hx h0 hr
       simp only
       unfold hrB at LU
       simp only at LU
       go_enter Tryz.func155, Tryz.ntmps155
       go_wp2_with (first
         | (go_at_call 99; refine (LU.out).mono ?_; rintro e w2 ⟨⟨k, N, rfl⟩, hB2⟩
            have LF := hideL (fail_any (HS.out.below hB2) 2)
            have HB2 := hideL (HS.out.seen hB2)
            clear hB2)
         | (go_at_call 109; refine LF.out.mono ?_; intro e w3 hG; obtain ⟨rfl, hB, hR⟩ := (GoP.after HB2.out hG)))
       first | go_end0 | refine bodyPost_ret (results_none rfl _ _ _) rfl ?_
       exact ⟨rfl, hB, hR⟩
     | big =>
       rw [sixP_none (fun n e => by rw [hr] at e; cases e)]
       clear h hE hS hg hpe h48 e48 hh hx h0 hr
       simp only
       unfold hrB at LU
       simp only at LU
       go_enter Tryz.func155, Tryz.ntmps155
       go_wp2_with (first
         | (go_at_call 99; refine (LU.out).mono ?_; rintro e w2 ⟨⟨k, N, rfl⟩, hB2⟩
            have LF := hideL (fail_any (HS.out.below hB2) 2)
            have HB2 := hideL (HS.out.seen hB2)
            clear hB2)
         | (go_at_call 109; refine LF.out.mono ?_; intro e w3 hG; obtain ⟨rfl, hB, hR⟩ := (GoP.after HB2.out hG)))
       first | go_end0 | refine bodyPost_ret (results_none rfl _ _ _) rfl ?_
       exact ⟨rfl, hB, hR⟩
end Go.Proofs.YtafmgoekgijfgaaGreatDoor
