/- The document's MayValue, Good, May. -/
import Derived.Test.YtafmgoekgijfgaaGreatDoorAHdRefN
import Derived.Test.YtafmgoekgijfgaaGreatDoorARqM2
namespace Go.Proofs.YtafmgoekgijfgaaGreatDoor
open Go.RowKit Go.Lib

set_option maxRecDepth 100000 in
set_option maxHeartbeats 2000000 in
theorem mayValueR_any (s : ByteArray) (hs : s.size ≤ 1000000) (w : World) : Calls Tryz.prog 149 #[.string s] w (fun e w' => e = .returned (.bool (valP s.data.toList)) ∧ Below w.heap.size w w') := by
 have hlen := size_list s
 rw [valP_eq]
 by_cases h2 : 512 < s.size
 · rw [decide_eq_false (by omega), Bool.false_and]
   have h2' : (512 : Int) < (s.size : Int) := by omega
   clear hlen h2
   go_enter Tryz.func149, Tryz.ntmps149
   go_wp2_with fail
   go_ret
   exact ⟨rfl, Below.refl _ _⟩
 have h2' : ¬ (512 : Int) < (s.size : Int) := by omega
 rw [decide_eq_true (by omega), Bool.true_and]
 obtain ⟨V, hV⟩ : ∃ V, vL true s.data.toList = V := ⟨_, rfl⟩
 rw [hV]
 have HV : HidL (vL (decide (0 = 0)) (s.data.toList.drop 0) = V) := ⟨hV⟩
 have HL := hideL hlen
 clear hV hlen h2
 go_enter Tryz.func149, Tryz.ntmps149
 go_wp2_with fail
 go_loopw [4] (fun i wr => ∃ k : Nat, k ≤ s.size ∧ i = .int .i64 k ∧ w = wr ∧ HidL (vL (decide (k = 0)) (s.data.toList.drop k) = V)) (fun i _ => s.size - (RowKit.intOf i).toNat)
 case atStart => exact ⟨0, Nat.zero_le _, rfl, rfl, HV⟩
 case round =>
   obtain ⟨k, hk, rfl, rfl, HD⟩ := hrel
   clear HV
   by_cases hlt : k < s.size
   · have hlt' : (k : Int) < (s.size : Int) := by omega
     have hD := HD.out
     rw [byte_at s k hlt] at hD
     obtain ⟨c, hc⟩ : ∃ c, s[k] = c := ⟨_, rfl⟩
     rw [hc] at hD
     have hlast : (s.data.toList.drop (k + 1)).isEmpty = decide (k = s.size - 1) := by
       rw [Bool.eq_iff_iff, List.isEmpty_iff_length_eq_zero, List.length_drop, HL.out, decide_eq_true_eq]
       omega
     have hsub : IntKind.i64.wrap ((s.size : Int) - 1) = ((s.size - 1 : Nat) : Int) := by rw [IntWalk.i64_in _ (by omega)]; omega
     unfold vL at hD
     rw [hlast] at hD
     have hk1 : decide (k + 1 = 0) = false := decide_eq_false (by omega)
     have HN : HidL (vL (decide (k + 1 = 0)) (s.data.toList.drop (k + 1)) = vL false (s.data.toList.drop (k + 1))) := ⟨by rw [hk1]⟩
     generalize vL false (s.data.toList.drop (k + 1)) = R at *
     clear hlast hk1 HD
     by_cases hw : c.toNat = 32 ∨ c.toNat = 9
     · have hws : wsB c = true := decide_eq_true hw
       rw [hws, if_pos rfl] at hD
       have hw' : (((c.toNat : Nat) : Int) == 32) = true ∨ ((((c.toNat : Nat) : Int) == 32) = false ∧ (((c.toNat : Nat) : Int) == 9) = true) := by
         rcases hw with h | h
         · left; rw [h]; rfl
         · right; rw [h]; exact ⟨rfl, rfl⟩
       by_cases h0 : k = 0
       · have hVf : V = false := by rw [← hD, h0]; simp
         subst hVf
         have h0' : (((k : Nat) : Int) == 0) = true := by rw [h0]; rfl
         clear hD HN hw hws h0
         rcases hw' with g1 | ⟨g1, g2⟩
         · go_wp2_with fail
           go_ret
           exact ⟨rfl, Below.refl _ _⟩
         · go_wp2_with fail
           go_ret
           exact ⟨rfl, Below.refl _ _⟩
       · have h0' : (((k : Nat) : Int) == 0) = false := beq_eq_false_iff_ne.2 (by omega)
         rw [decide_eq_false h0, Bool.false_or] at hD
         by_cases hl : k = s.size - 1
         · have hl' : (((k : Nat) : Int) == ((s.size - 1 : Nat) : Int)) = true := by rw [hl]; exact beq_self_eq_true _
           rw [decide_eq_true hl] at hD
           have hVf : V = false := by rw [← hD]; rfl
           subst hVf
           clear hD HN hw hws h0 hl
           rcases hw' with g1 | ⟨g1, g2⟩
           · go_wp2_with fail
             go_ret
             exact ⟨rfl, Below.refl _ _⟩
           · go_wp2_with fail
             go_ret
             exact ⟨rfl, Below.refl _ _⟩
         · have hl' : (((k : Nat) : Int) == ((s.size - 1 : Nat) : Int)) = false := beq_eq_false_iff_ne.2 (by omega)
           rw [decide_eq_false hl] at hD
           have HN2 := hideL (HN.out.trans (by simpa using hD))
           clear hD HN hw hws h0 hl
           rcases hw' with g1 | ⟨g1, g2⟩
           · go_wp2_with fail
             go_roundw
             case rel => exact ⟨k + 1, by omega, by go_num, trivial, HN2⟩
             case measure => simp [RowKit.intOf]; omega
           · go_wp2_with fail
             go_roundw
             case rel => exact ⟨k + 1, by omega, by go_num, trivial, HN2⟩
             case measure => simp [RowKit.intOf]; omega
     · have hws : wsB c = false := decide_eq_false hw
       have g1 : (((c.toNat : Nat) : Int) == 32) = false := beq_eq_false_iff_ne.2 (by omega)
       have g2 : (((c.toNat : Nat) : Int) == 9) = false := beq_eq_false_iff_ne.2 (by omega)
       rw [hws, if_neg (by decide)] at hD
       have hvd : viB c = decide (33 ≤ c.toNat ∧ c.toNat ≤ 126) := rfl
       rcases (by omega : (33 ≤ c.toNat ∧ c.toNat ≤ 126) ∨ c.toNat < 33 ∨ (33 ≤ c.toNat ∧ 126 < c.toNat)) with H | H | H
       · have hv : viB c = true := by rw [hvd]; exact decide_eq_true H
         rw [hv, Bool.true_and] at hD
         have HN2 := hideL (HN.out.trans hD)
         have i1 : ¬ (c.toNat : Int) < 33 := by omega
         have i2 : ¬ (126 : Int) < (c.toNat : Int) := by omega
         clear hD HN hw hws hvd hv H
         go_wp2_with fail
         go_roundw
         case rel => exact ⟨k + 1, by omega, by go_num, trivial, HN2⟩
         case measure => simp [RowKit.intOf]; omega
       · have hv : viB c = false := by rw [hvd]; exact decide_eq_false (by omega)
         rw [hv, Bool.false_and] at hD
         have i1 : (c.toNat : Int) < 33 := by omega
         subst hD
         clear HN hw hws hvd hv H
         go_wp2_with fail
         go_ret
         exact ⟨rfl, Below.refl _ _⟩
       · have hv : viB c = false := by rw [hvd]; exact decide_eq_false (by omega)
         rw [hv, Bool.false_and] at hD
         have i1 : ¬ (c.toNat : Int) < 33 := by omega
         have i2 : (126 : Int) < (c.toNat : Int) := by omega
         subst hD
         clear HN hw hws hvd hv H
         go_wp2_with fail
         go_ret
         exact ⟨rfl, Below.refl _ _⟩
   · obtain rfl : k = s.size := by omega
     have hlt' : ¬ (s.size : Int) < (s.size : Int) := by omega
     have hD := HD.out
     rw [List.drop_of_length_le (by rw [HL.out]; exact Nat.le_refl _)] at hD
     have hBt : V = true := by rw [← hD]; unfold vL; rfl
     subst hBt
     clear HD hD
     go_wp2_with fail
     go_ret
     exact ⟨rfl, Below.refl _ _⟩

set_option maxRecDepth 100000 in
theorem good_any (h : Hd) (hf : h.n.size ≤ 1000000 ∧ h.v.size ≤ 1000000) (w : World) : Calls Tryz.prog 102 #[hdV h] w (fun e w' => e = .returned (.bool (goodP h)) ∧ Below w.heap.size w w') := by
 obtain ⟨n, v⟩ := h
 have LN := hideL (mayNameR_any n)
 have LV := hideL (mayValueR_any v hf.2)
 rw [show goodP ⟨n, v⟩ = (nameP n.data.toList && valP v.data.toList) from rfl]
 simp only [hdV]
 clear hf
 generalize nameP n.data.toList = A at *
 generalize valP v.data.toList = B at *
 have HB := hideL ((Below.refl w.heap.size w).alloc (Nat.le_refl _) (.cells #[.string n, .string v] 83))
 have HX := hideL (HBox.new w n v)
 cases A
 · rw [Bool.false_and]
   go_enter Tryz.func102, Tryz.ntmps102
   go_wp2_with (go_at_call 148; refine (LN.out _).mono ?_; rintro e w2 ⟨rfl, hB2⟩)
   go_ret
   exact ⟨rfl, HB.out.trans (hB2.mono HB.out.size)⟩
 · rw [Bool.true_and]
   go_enter Tryz.func102, Tryz.ntmps102
   go_wp2_with (first
     | (go_at_call 148; refine (LN.out _).mono ?_; rintro e w2 ⟨rfl, hB2⟩; have c1 := (HX.out.next hB2).c1)
     | (go_at_call 149; refine (LV.out _).mono ?_; rintro e w3 ⟨rfl, hB3⟩))
   go_ret
   exact ⟨rfl, (HB.out.trans (hB2.mono HB.out.size)).trans (hB3.mono (Nat.le_trans HB.out.size hB2.size))⟩
set_option maxRecDepth 100000 in
set_option maxHeartbeats 1000000 in
theorem mayHR_any (v : Value) (l : List Hd) (w : World) (hv : GAt KH w v l) (hf : Fits l) (hm : l.length ≤ 1000) : Calls Tryz.prog 63 #[v] w (fun e w' => e = .returned (.bool (mayH l)) ∧ Below w.heap.size w w') := by
 have HF := hideL hf
 obtain ⟨ao, cap, rfl⟩ := hv.len
 obtain ⟨n, hn⟩ : ∃ n, l.length = n := ⟨_, rfl⟩
 obtain ⟨V, hV⟩ : ∃ V, l.all goodP = V := ⟨_, rfl⟩
 have hR : mayH l = (V && decide (n ≤ 24)) := by unfold mayH; rw [hV, hn]
 rw [hR]
 rw [hn] at hv hm ⊢
 have HN := hideL hn
 have HV := hideL hv
 have H0 : HidL ((l.drop 0).all goodP = V) := ⟨hV⟩
 clear hR hV hv hn hf
 go_enter Tryz.func63, Tryz.ntmps63
 go_wp2_with fail
 go_loopw [3] (fun i wr => ∃ k : Nat, k ≤ n ∧ i = .int .i64 k ∧ HidL (Below w.heap.size w wr) ∧ HidL ((l.drop k).all goodP = V)) (fun i _ => n - (RowKit.intOf i).toNat)
 case atStart => exact ⟨0, Nat.zero_le _, rfl, ⟨Below.refl _ _⟩, H0⟩
 case round =>
   obtain ⟨k, hk, rfl, HB, HD⟩ := hrel
   clear H0
   obtain ⟨W, rfl⟩ : ∃ W, W = wr := ⟨_, rfl⟩
   by_cases hlt : k < n
   · have hlt' : (k : Int) < (n : Int) := by omega
     obtain ⟨b, o, hao, hbl, hcell⟩ := HV.out.at (k := k) hlt
     subst hao
     have hkl : k < l.length := by rw [HN.out]; exact hlt
     have hD := HD.out
     rw [hdrop_at l k hkl, List.all_cons] at hD
     have hfit := HF.out.get hkl
     generalize l.getD k KH.dft = x at *
     have LG := hideL (fun W => good_any x hfit W)
     obtain ⟨a, c⟩ := x
     simp only [hdV] at LG
     have d0 : W.cell? ⟨b, o + k * 2, none⟩ = some (.string a) := (HB.out.cell (p := ⟨b, o + k * 2, none⟩) hbl).trans (hcell 0 (by decide))
     have d1 : W.cell? ⟨b, o + k * 2 + 1, none⟩ = some (.string c) := (HB.out.cell (p := ⟨b, o + k * 2 + 1, none⟩) hbl).trans (hcell 1 (by decide))
     clear hcell hbl hfit
     obtain ⟨y, hy⟩ : ∃ y, goodP ⟨a, c⟩ = y := ⟨_, rfl⟩
     rw [hy] at hD LG
     clear hy HD
     cases y
     · rw [Bool.false_and] at hD
       subst hD
       go_wp2_with (go_at_call 102; refine (LG.out _).mono ?_; rintro e w3 ⟨rfl, hB3⟩)
       go_ret
       exact ⟨rfl, HB.out.trans (hB3.mono HB.out.size)⟩
     · rw [Bool.true_and] at hD
       have HN2 := hideL hD
       clear hD
       go_wp2_with (go_at_call 102; refine (LG.out _).mono ?_; rintro e w3 ⟨rfl, hB3⟩)
       go_roundw
       case rel => exact ⟨k + 1, by omega, by go_num, ⟨HB.out.trans (hB3.mono HB.out.size)⟩, HN2⟩
       case measure => simp [RowKit.intOf]; omega
   · obtain rfl : k = n := by omega
     have hlt' : ¬ (k : Int) < (k : Int) := by omega
     have hD := HD.out
     rw [List.drop_of_length_le (by rw [HN.out]; omega)] at hD
     have hBt : V = true := hD.symm
     subst hBt
     clear HD hD
     by_cases h24 : k ≤ 24
     · have h24' : (k : Int) ≤ 24 := by omega
       go_wp2_with fail
       go_ret
       exact ⟨rfl, HB.out⟩
     · have h24' : ¬ (k : Int) ≤ 24 := by omega
       go_wp2_with fail
       go_ret
       exact ⟨by first | rfl | (rw [decide_eq_false h24]; rfl), HB.out⟩
end Go.Proofs.YtafmgoekgijfgaaGreatDoor
