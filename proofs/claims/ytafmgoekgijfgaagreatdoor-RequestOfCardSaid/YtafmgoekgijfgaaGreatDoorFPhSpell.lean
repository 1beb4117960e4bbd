/- The program's spell. -/
import Derived.Test.YtafmgoekgijfgaaGreatDoorFRqM2
namespace Go.Proofs.YtafmgoekgijfgaaGreatDoor
open Go.RowKit

theorem saidV_none {bad : UInt8 → Bool} {r : List UInt8} (h : saidV (37 :: r) = none) : spP bad (37 :: r) = ([], false) := by
 match r, h with
 | [], _ => exact spP_s1
 | [a], _ => exact spP_s2 a
 | a :: b :: r', h => exact spP_odd h r'
theorem saidV_some {r : List UInt8} {v : UInt8} (h : saidV (37 :: r) = some v) : ∃ a b r', r = a :: b :: r' ∧ twoV a b = some v := by
 match r, h with
 | a :: b :: r', h => exact ⟨a, b, r', rfl, h⟩
theorem hex_ascii {c : UInt8} (h : (hexV c).isSome = true) : c.toNat < 128 := by
 unfold hexV at h
 split at h
 · omega
 split at h
 · omega
 split at h
 · omega
 · simp at h
theorem upper_eq (c : UInt8) : Lib.upperB c = upB c := by
 unfold Lib.upperB upB Lib.isLowerB
 simp only [Bool.and_eq_true, decide_eq_true_eq, UInt8.le_iff_toNat_le]
 rfl
theorem upper_any (s : ByteArray) (l : List UInt8) (hl : s.data.toList = l) (hs : s.size ≤ 1000) (ha : ∀ b ∈ l, b.toNat < 128) (w : World) : Calls Tryz.prog 175 #[.string s] w fun e w' => e = .returned (.string (bo (l.map upB))) ∧ Below w.heap.size w w' := by
 refine (Any.strings_ToUpper_ascii Tryz.lays158 Tryz.Builder_Extra_158 s w (by omega) (fun j b hj => ha b (by rw [← hl]; exact List.mem_of_getElem? hj))).mono ?_
 rintro e w' ⟨rfl, hB⟩
 refine ⟨?_, hB⟩
 rw [hl]
 have : Lib.toUpperA l = l.map upB := List.map_congr_left (fun c _ => upper_eq c)
 rw [this]
 rfl
theorem spell_step {bad : UInt8 → Bool} {l r acc x : List UInt8} {R : List UInt8 × Bool} (h : comb (acc, true) (spP bad l) = R) (hx : spP bad l = (x ++ (spP bad r).1, (spP bad r).2)) : comb (acc ++ x, true) (spP bad r) = R := by
 rw [← h, hx, comb_ok rfl, comb_ok rfl, List.append_assoc]
theorem spell_stop {bad : UInt8 → Bool} {l acc : List UInt8} {R : List UInt8 × Bool} (h : comb (acc, true) (spP bad l) = R) (hx : spP bad l = ([], false)) : (acc, false) = R := by
 rw [← h, hx, comb_ok rfl, List.append_nil]
theorem spell_end {bad : UInt8 → Bool} {acc : List UInt8} {R : List UInt8 × Bool} (h : comb (acc, true) (spP bad []) = R) : (acc, true) = R := by
 rw [← h, spP_nil, comb_ok rfl, List.append_nil]
def spA (p : List UInt8 × Bool) : Value := .tuple #[.string (bo p.1), .bool p.2]

set_option maxRecDepth 100000 in
set_option maxHeartbeats 2000000 in
theorem spellR_any (s : ByteArray) (hs : s.size ≤ 1000000) (w : World) (hE : EnvS w) : Calls Tryz.prog 126 #[.string s, .func (.func 127) #[] #[]] w fun e w' => e = .returned (spA (spP badR s.data.toList)) ∧ Below w.heap.size w w' := by
 have hsz := size_list s
 obtain ⟨R, hR⟩ : ∃ R, spP badR s.data.toList = R := ⟨_, rfl⟩
 have HR0 : HidL (comb ([], true) (spP badR (s.data.toList.drop 0)) = R) := ⟨by rw [comb_nil]; exact hR⟩
 rw [hR]
 clear hR
 have HBD := hideL (fun (c : UInt8) (W : World) => noPath_any c W)
 have HPL := hideL (fun (c : UInt8) (W : World) => isPlain_any c W)
 have HMS := hideL (fun (c : UInt8) (W : World) => mayStand_any c W)
 have HSB := hideL (fun (s : ByteArray) (W : World) (h : EnvS W) => saidBy_any s W h)
 obtain ⟨w1, hmk, hG1, hB1⟩ := make_b w s.size (by omega)
 have HG1 := hideL hG1
 have HE0 := hideL hE
 have HB1 := hideL hB1
 clear hE hG1 hB1
 go_enter Tryz.func126, Tryz.ntmps126
 go_wp2_with fail
 go_step3
 go_wp2_with fail
 go_step3
 go_wp2_with fail
 go_loopg [6, 7] s.size (fun g b i wr => ∃ (k : Nat) (acc : List UInt8), i = .int .i64 k ∧ k + g = s.size ∧ acc.length ≤ k ∧ HidL (GRow KB wr w.heap.size b acc) ∧ HidL (Below w.heap.size w wr) ∧ HidL (comb (acc, true) (spP badR (s.data.toList.drop k)) = R))
 case atStart => exact ⟨0, [], rfl, Nat.zero_add _, Nat.le_refl _, HG1, HB1, HR0⟩
 case round =>
   obtain ⟨k, acc, rfl, hkg, hal, HG, HB, HR⟩ := hrel
   have HE := hideL (HE0.out.next HB.out)
   clear HG1 HB1 HR0
   obtain ⟨W, rfl⟩ : ∃ W, W = wr := ⟨_, rfl⟩
   by_cases hlt : k < s.size
   · have hlt' : (k : Int) < (s.size : Int) := by omega
     have hne : ((k : Int) == (s.size : Int)) = false := beq_eq_false_iff_ne.2 (by omega)
     have hd := byte_at s k hlt
     obtain ⟨c, hc⟩ : ∃ c, s[k] = c := ⟨_, rfl⟩
     rw [hc] at hd
     by_cases h37 : c = 37
     · subst h37
       have i37 : (((s[k].toNat : Nat) : Int) == 37) = true := by rw [hc]; rfl
       obtain ⟨r, hr⟩ : ∃ r, s.data.toList.drop (k + 1) = r := ⟨_, rfl⟩
       rw [hr] at hd
       obtain ⟨t, ht⟩ : ∃ t, s.extract k s.size = t := ⟨_, rfl⟩
       have htl : t.data.toList = 37 :: r := by
         rw [← ht, ex_list, hd]
         refine List.take_of_length_le ?_
         have : (s.data.toList.drop k).length = s.size - k := by rw [List.length_drop, hsz]
         rw [hd] at this
         omega
       have HS1 := hideL (HSB.out t W HE.out)
       rw [htl] at HS1
       rw [hd] at HR
       cases hv : saidV (37 :: r) with
       | none =>
         rw [hv] at HS1
         have HS1 : HidL (Calls Tryz.prog 173 #[.string t] W fun e w' => e = .returned (.tuple #[.int .u8 0, .bool false]) ∧ Below W.heap.size W w') := HS1
         have hX := spell_stop HR.out (saidV_none hv)
         subst hX
         have HG2 := HG
         have HTS := hideL (fun (W : World) (h : GRow KB W w.heap.size u6 acc) => to_str W w.heap.size u6 acc h)
         clear hv HR hd hr htl hc
         go_wp2_with (first
           | (go_at_call 173; refine HS1.out.mono ?_; rintro e w2 ⟨rfl, hB2⟩; clear HS1; have hts := HTS.out _ (HG.out.below hB2); have HB2 := hideL (HB.out.trans (hB2.mono HB.out.size)))
           | go_region)
         all_goals (try rw [Exit.noGoto_ret])
         all_goals go_ret2
         all_goals exact ⟨rfl, HB2.out⟩
       | some v =>
         rw [hv] at HS1
         have HS1 : HidL (Calls Tryz.prog 173 #[.string t] W fun e w' => e = .returned (.tuple #[.int .u8 v.toNat, .bool true]) ∧ Below W.heap.size W w') := HS1
         obtain ⟨a, b, r', rfl, h2⟩ := saidV_some hv
         have hk3 : k + 3 ≤ s.size := by
           have : (s.data.toList.drop k).length = s.size - k := by rw [List.length_drop, hsz]
           rw [hd] at this
           simp only [List.length_cons] at this
           omega
         have HBD1 := hideL (HBD.out v)
         cases hb : badR v
         · rw [hb] at HBD1
           have hd3 : s.data.toList.drop (k + 3) = r' := by
             have : s.data.toList.drop (k + 3) = (s.data.toList.drop k).drop 3 := by rw [List.drop_drop]
             rw [this, hd]
             rfl
           have hX := spell_step HR.out (spP_two h2 hb r')
           rw [← hd3] at hX
           have HPL1 := hideL (HPL.out v)
           have hk3' : ((k : Int) + 3) ≤ (s.size : Int) := by omega
           have hpl := putB_length v a b
           cases hp : plB v
           · rw [hp] at HPL1
             have hpu : putB v a b = [37, upB a, upB b] := by unfold putB; rw [hp]; rfl
             rw [hpu] at hX
             have HX := hideL hX
             obtain ⟨t3, ht3⟩ : ∃ t, s.extract k (k + 3) = t := ⟨_, rfl⟩
             have htl3 : t3.data.toList = [37, a, b] := by
               rw [← ht3, ex_list, hd, show k + 3 - k = 3 by omega]
               rfl
             obtain ⟨ha1, hb1⟩ := twoV_some h2
             have HUP := hideL (fun W : World => upper_any t3 [37, a, b] htl3 (by rw [← size_list, htl3]; simp) (by
               intro x hx
               simp only [List.mem_cons, List.not_mem_nil, or_false] at hx
               rcases hx with rfl | rfl | rfl
               · decide
               · exact hex_ascii ha1
               · exact hex_ascii hb1) W)
             have HUP : HidL (∀ W : World, Calls Tryz.prog 175 #[.string t3] W fun e w' => e = .returned (.string (bo [37, upB a, upB b])) ∧ Below W.heap.size W w') := ⟨fun W => HUP.out W⟩
             clear hv HR hd hd3 htl hX hpu hb hp h2 htl3 ha1 hb1 hpl hc
             go_wp2_with (first
               | (go_at_call 173; refine HS1.out.mono ?_; rintro e w2 ⟨rfl, hB2⟩; clear HS1; have HG2 := hideL (HG.out.below hB2); have HB2 := hideL (HB.out.trans (hB2.mono HB.out.size)))
               | (go_at_call 174; refine (HPL1.out _).mono ?_; rintro e w3 ⟨rfl, rfl⟩)
               | (go_at_call 127; refine (HBD1.out _).mono ?_; rintro e w3 ⟨rfl, rfl⟩)
               | (go_at_call 175; refine (HUP.out _).mono ?_; rintro e w4 ⟨rfl, hB4⟩; have HB4 := hideL (HB2.out.trans (hB4.mono HB2.out.size)); have HG4 := hideL (HG2.out.below hB4); obtain ⟨v5, w5, hrun5, hG5, hB5⟩ := push_str _ w.heap.size _ acc HG4.out (bo [37, upB a, upB b]) (by rw [bo_size]; simp; omega) HB4.out.size; have HRUN5 := hideL hrun5; have HG5 := hideL hG5; have HB5 := hideL (HB4.out.trans hB5); clear hrun5 hG5)
               | (at_builtin; refine wpList_append_runP rfl (.tmp 44) (.tmp 50) 22 9 22 rfl rfl _ _ v5 w5 rfl rfl HRUN5.out ?_)
               | go_region)
             go_roundg (s.size - (k + 3))
             case measure => omega
             case rel => exact ⟨k + 3, _, by go_num, by omega, by rw [List.length_append, bo_list]; simp; omega, HG5, HB5, HX⟩
           · rw [hp] at HPL1
             have hpu : putB v a b = [v] := by unfold putB; rw [hp]; rfl
             rw [hpu] at hX
             have HX := hideL hX
             clear hv HR hd hd3 htl hX hpu hb hp h2 hpl hc
             go_wp2_with (first
               | (go_at_call 173; refine HS1.out.mono ?_; rintro e w2 ⟨rfl, hB2⟩; clear HS1; have HG2 := hideL (HG.out.below hB2); have HB2 := hideL (HB.out.trans (hB2.mono HB.out.size)); obtain ⟨v5, w5, hrun5, hG5, hB5⟩ := push_b w2 w.heap.size u6 acc HG2.out v (by omega) HB2.out.size; have HRUN5 := hideL hrun5; have HG5 := hideL hG5; have HB5 := hideL (HB2.out.trans hB5); clear hrun5 hG5 hB5)
               | (go_at_call 174; refine (HPL1.out _).mono ?_; rintro e w3 ⟨rfl, rfl⟩)
               | (go_at_call 127; refine (HBD1.out _).mono ?_; rintro e w3 ⟨rfl, rfl⟩)
               | (at_builtin; refine wpList_append_runP rfl (.tmp 40) (.tmp 42) 22 22 22 rfl rfl _ _ v5 w5 rfl rfl HRUN5.out ?_)
               | go_region)
             go_roundg (s.size - (k + 3))
             case measure => omega
             case rel => exact ⟨k + 3, _, by go_num, by omega, by rw [List.length_append]; simp; omega, HG5, HB5, HX⟩
         · rw [hb] at HBD1
           have hX := spell_stop HR.out (spP_bad h2 hb r')
           subst hX
           have HTS := hideL (fun (W : World) (h : GRow KB W w.heap.size u6 acc) => to_str W w.heap.size u6 acc h)
           clear hv HR hd hr htl hc h2 hb
           go_wp2_with (first
             | (go_at_call 173; refine HS1.out.mono ?_; rintro e w2 ⟨rfl, hB2⟩; clear HS1; have hts := HTS.out _ (HG.out.below hB2); have HB2 := hideL (HB.out.trans (hB2.mono HB.out.size)))
             | (go_at_call 127; refine (HBD1.out _).mono ?_; rintro e w3 ⟨rfl, rfl⟩)
             | go_region)
           all_goals (try rw [Exit.noGoto_ret])
           all_goals go_ret2
           all_goals exact ⟨rfl, HB2.out⟩
     · have i37 : (((s[k].toNat : Nat) : Int) == 37) = false := beq_eq_false_iff_ne.2 (fun e => h37 (by rw [← hc]; exact UInt8.toNat_inj.1 (by rw [show (37 : UInt8).toNat = 37 from rfl]; omega)))
       have HM1 := hideL (HMS.out s[k])
       rw [hd] at HR
       cases hst : stB c
       · rw [hc, hst] at HM1
         have hX := spell_stop HR.out (spP_no h37 hst _)
         subst hX
         have hts := to_str W w.heap.size u6 acc HG.out
         have HM1 : HidL (∀ W : World, Calls Tryz.prog 176 #[.int .u8 s[k].toNat] W (fun e w' => e = .returned (.bool false) ∧ w' = W)) := by rw [hc]; exact HM1
         clear HR hd hc h37 hst
         go_wp2_with (first
           | (go_at_call 176; refine (HM1.out _).mono ?_; rintro e w3 ⟨rfl, rfl⟩)
           | go_region)
         all_goals (try rw [Exit.noGoto_ret])
         all_goals go_ret2
         all_goals exact ⟨rfl, HB.out⟩
       · have hX := spell_step (x := [c]) HR.out (spP_one h37 hst _)
         rw [hc, hst] at HM1
         have HM1 : HidL (∀ W : World, Calls Tryz.prog 176 #[.int .u8 s[k].toNat] W (fun e w' => e = .returned (.bool true) ∧ w' = W)) := by rw [hc]; exact HM1
         rw [← hc] at hX
         obtain ⟨v5, w5, hrun5, hG5, hB5⟩ := push_b W w.heap.size u6 acc HG.out s[k] (by omega) HB.out.size
         have HRUN5 := hideL hrun5
         have HG5 := hideL hG5
         have HB5 := hideL (HB.out.trans hB5)
         have HX := hideL hX
         have hk1' : ((k : Int) + 1) ≤ (s.size : Int) := by omega
         clear HR hd hc h37 hst hrun5 hG5 hB5 hX
         go_wp2_with (first
           | (go_at_call 176; refine (HM1.out _).mono ?_; rintro e w3 ⟨rfl, rfl⟩)
           | (at_builtin; refine wpList_append_runP rfl (.tmp 57) (.tmp 59) 22 22 22 rfl rfl _ _ v5 w5 rfl rfl HRUN5.out ?_)
           | go_region)
         go_roundg (s.size - (k + 1))
         case measure => omega
         case rel => exact ⟨k + 1, _, by go_num, by omega, by rw [List.length_append]; simp; omega, HG5, HB5, HX⟩
   · obtain rfl : k = s.size := by omega
     have hlt' : ¬ (s.size : Int) < (s.size : Int) := by omega
     rw [List.drop_of_length_le (by omega)] at HR
     have hX := spell_end HR.out
     subst hX
     have hts := to_str W w.heap.size u6 acc HG.out
     clear HR
     go_wp2_with go_region
     all_goals (try rw [Exit.noGoto_ret])
     all_goals go_ret2
     all_goals exact ⟨rfl, HB.out⟩
set_option maxRecDepth 100000 in
set_option maxHeartbeats 2000000 in
theorem spellN_any (s : ByteArray) (hs : s.size ≤ 1000000) (w : World) (hE : EnvS w) : Calls Tryz.prog 126 #[.string s, .func (.func 128) #[] #[]] w fun e w' => e = .returned (spA (spP nobad s.data.toList)) ∧ Below w.heap.size w w' := by
 have hsz := size_list s
 obtain ⟨R, hR⟩ : ∃ R, spP nobad s.data.toList = R := ⟨_, rfl⟩
 have HR0 : HidL (comb ([], true) (spP nobad (s.data.toList.drop 0)) = R) := ⟨by rw [comb_nil]; exact hR⟩
 rw [hR]
 clear hR
 have HBD := hideL (fun (c : UInt8) (W : World) => none_any c W)
 have HPL := hideL (fun (c : UInt8) (W : World) => isPlain_any c W)
 have HMS := hideL (fun (c : UInt8) (W : World) => mayStand_any c W)
 have HSB := hideL (fun (s : ByteArray) (W : World) (h : EnvS W) => saidBy_any s W h)
 obtain ⟨w1, hmk, hG1, hB1⟩ := make_b w s.size (by omega)
 have HG1 := hideL hG1
 have HE0 := hideL hE
 have HB1 := hideL hB1
 clear hE hG1 hB1
 go_enter Tryz.func126, Tryz.ntmps126
 go_wp2_with fail
 go_step3
 go_wp2_with fail
 go_step3
 go_wp2_with fail
 go_loopg [6, 7] s.size (fun g b i wr => ∃ (k : Nat) (acc : List UInt8), i = .int .i64 k ∧ k + g = s.size ∧ acc.length ≤ k ∧ HidL (GRow KB wr w.heap.size b acc) ∧ HidL (Below w.heap.size w wr) ∧ HidL (comb (acc, true) (spP nobad (s.data.toList.drop k)) = R))
 case atStart => exact ⟨0, [], rfl, Nat.zero_add _, Nat.le_refl _, HG1, HB1, HR0⟩
 case round =>
   obtain ⟨k, acc, rfl, hkg, hal, HG, HB, HR⟩ := hrel
   have HE := hideL (HE0.out.next HB.out)
   clear HG1 HB1 HR0
   obtain ⟨W, rfl⟩ : ∃ W, W = wr := ⟨_, rfl⟩
   by_cases hlt : k < s.size
   · have hlt' : (k : Int) < (s.size : Int) := by omega
     have hne : ((k : Int) == (s.size : Int)) = false := beq_eq_false_iff_ne.2 (by omega)
     have hd := byte_at s k hlt
     obtain ⟨c, hc⟩ : ∃ c, s[k] = c := ⟨_, rfl⟩
     rw [hc] at hd
     by_cases h37 : c = 37
     · subst h37
       have i37 : (((s[k].toNat : Nat) : Int) == 37) = true := by rw [hc]; rfl
       obtain ⟨r, hr⟩ : ∃ r, s.data.toList.drop (k + 1) = r := ⟨_, rfl⟩
       rw [hr] at hd
       obtain ⟨t, ht⟩ : ∃ t, s.extract k s.size = t := ⟨_, rfl⟩
       have htl : t.data.toList = 37 :: r := by
         rw [← ht, ex_list, hd]
         refine List.take_of_length_le ?_
         have : (s.data.toList.drop k).length = s.size - k := by rw [List.length_drop, hsz]
         rw [hd] at this
         omega
       have HS1 := hideL (HSB.out t W HE.out)
       rw [htl] at HS1
       rw [hd] at HR
       cases hv : saidV (37 :: r) with
       | none =>
         rw [hv] at HS1
         have HS1 : HidL (Calls Tryz.prog 173 #[.string t] W fun e w' => e = .returned (.tuple #[.int .u8 0, .bool false]) ∧ Below W.heap.size W w') := HS1
         have hX := spell_stop HR.out (saidV_none hv)
         subst hX
         have HG2 := HG
         have HTS := hideL (fun (W : World) (h : GRow KB W w.heap.size u6 acc) => to_str W w.heap.size u6 acc h)
         clear hv HR hd hr htl hc
         go_wp2_with (first
           | (go_at_call 173; refine HS1.out.mono ?_; rintro e w2 ⟨rfl, hB2⟩; clear HS1; have hts := HTS.out _ (HG.out.below hB2); have HB2 := hideL (HB.out.trans (hB2.mono HB.out.size)))
           | go_region)
         all_goals (try rw [Exit.noGoto_ret])
         all_goals go_ret2
         all_goals exact ⟨rfl, HB2.out⟩
       | some v =>
         rw [hv] at HS1
         have HS1 : HidL (Calls Tryz.prog 173 #[.string t] W fun e w' => e = .returned (.tuple #[.int .u8 v.toNat, .bool true]) ∧ Below W.heap.size W w') := HS1
         obtain ⟨a, b, r', rfl, h2⟩ := saidV_some hv
         have hk3 : k + 3 ≤ s.size := by
           have : (s.data.toList.drop k).length = s.size - k := by rw [List.length_drop, hsz]
           rw [hd] at this
           simp only [List.length_cons] at this
           omega
         have HBD1 := hideL (HBD.out v)
         cases hb : nobad v
         · rw [hb] at HBD1
           have hd3 : s.data.toList.drop (k + 3) = r' := by
             have : s.data.toList.drop (k + 3) = (s.data.toList.drop k).drop 3 := by rw [List.drop_drop]
             rw [this, hd]
             rfl
           have hX := spell_step HR.out (spP_two h2 hb r')
           rw [← hd3] at hX
           have HPL1 := hideL (HPL.out v)
           have hk3' : ((k : Int) + 3) ≤ (s.size : Int) := by omega
           have hpl := putB_length v a b
           cases hp : plB v
           · rw [hp] at HPL1
             have hpu : putB v a b = [37, upB a, upB b] := by unfold putB; rw [hp]; rfl
             rw [hpu] at hX
             have HX := hideL hX
             obtain ⟨t3, ht3⟩ : ∃ t, s.extract k (k + 3) = t := ⟨_, rfl⟩
             have htl3 : t3.data.toList = [37, a, b] := by
               rw [← ht3, ex_list, hd, show k + 3 - k = 3 by omega]
               rfl
             obtain ⟨ha1, hb1⟩ := twoV_some h2
             have HUP := hideL (fun W : World => upper_any t3 [37, a, b] htl3 (by rw [← size_list, htl3]; simp) (by
               intro x hx
               simp only [List.mem_cons, List.not_mem_nil, or_false] at hx
               rcases hx with rfl | rfl | rfl
               · decide
               · exact hex_ascii ha1
               · exact hex_ascii hb1) W)
             have HUP : HidL (∀ W : World, Calls Tryz.prog 175 #[.string t3] W fun e w' => e = .returned (.string (bo [37, upB a, upB b])) ∧ Below W.heap.size W w') := ⟨fun W => HUP.out W⟩
             clear hv HR hd hd3 htl hX hpu hb hp h2 htl3 ha1 hb1 hpl hc
             go_wp2_with (first
               | (go_at_call 173; refine HS1.out.mono ?_; rintro e w2 ⟨rfl, hB2⟩; clear HS1; have HG2 := hideL (HG.out.below hB2); have HB2 := hideL (HB.out.trans (hB2.mono HB.out.size)))
               | (go_at_call 174; refine (HPL1.out _).mono ?_; rintro e w3 ⟨rfl, rfl⟩)
               | (go_at_call 128; refine (HBD1.out _).mono ?_; rintro e w3 ⟨rfl, rfl⟩)
               | (go_at_call 175; refine (HUP.out _).mono ?_; rintro e w4 ⟨rfl, hB4⟩; have HB4 := hideL (HB2.out.trans (hB4.mono HB2.out.size)); have HG4 := hideL (HG2.out.below hB4); obtain ⟨v5, w5, hrun5, hG5, hB5⟩ := push_str _ w.heap.size _ acc HG4.out (bo [37, upB a, upB b]) (by rw [bo_size]; simp; omega) HB4.out.size; have HRUN5 := hideL hrun5; have HG5 := hideL hG5; have HB5 := hideL (HB4.out.trans hB5); clear hrun5 hG5)
               | (at_builtin; refine wpList_append_runP rfl (.tmp 44) (.tmp 50) 22 9 22 rfl rfl _ _ v5 w5 rfl rfl HRUN5.out ?_)
               | go_region)
             go_roundg (s.size - (k + 3))
             case measure => omega
             case rel => exact ⟨k + 3, _, by go_num, by omega, by rw [List.length_append, bo_list]; simp; omega, HG5, HB5, HX⟩
           · rw [hp] at HPL1
             have hpu : putB v a b = [v] := by unfold putB; rw [hp]; rfl
             rw [hpu] at hX
             have HX := hideL hX
             clear hv HR hd hd3 htl hX hpu hb hp h2 hpl hc
             go_wp2_with (first
               | (go_at_call 173; refine HS1.out.mono ?_; rintro e w2 ⟨rfl, hB2⟩; clear HS1; have HG2 := hideL (HG.out.below hB2); have HB2 := hideL (HB.out.trans (hB2.mono HB.out.size)); obtain ⟨v5, w5, hrun5, hG5, hB5⟩ := push_b w2 w.heap.size u6 acc HG2.out v (by omega) HB2.out.size; have HRUN5 := hideL hrun5; have HG5 := hideL hG5; have HB5 := hideL (HB2.out.trans hB5); clear hrun5 hG5 hB5)
               | (go_at_call 174; refine (HPL1.out _).mono ?_; rintro e w3 ⟨rfl, rfl⟩)
               | (go_at_call 128; refine (HBD1.out _).mono ?_; rintro e w3 ⟨rfl, rfl⟩)
               | (at_builtin; refine wpList_append_runP rfl (.tmp 40) (.tmp 42) 22 22 22 rfl rfl _ _ v5 w5 rfl rfl HRUN5.out ?_)
               | go_region)
             go_roundg (s.size - (k + 3))
             case measure => omega
             case rel => exact ⟨k + 3, _, by go_num, by omega, by rw [List.length_append]; simp; omega, HG5, HB5, HX⟩
         · rw [hb] at HBD1
           have hX := spell_stop HR.out (spP_bad h2 hb r')
           subst hX
           have HTS := hideL (fun (W : World) (h : GRow KB W w.heap.size u6 acc) => to_str W w.heap.size u6 acc h)
           clear hv HR hd hr htl hc h2 hb
           go_wp2_with (first
             | (go_at_call 173; refine HS1.out.mono ?_; rintro e w2 ⟨rfl, hB2⟩; clear HS1; have hts := HTS.out _ (HG.out.below hB2); have HB2 := hideL (HB.out.trans (hB2.mono HB.out.size)))
             | (go_at_call 128; refine (HBD1.out _).mono ?_; rintro e w3 ⟨rfl, rfl⟩)
             | go_region)
           all_goals (try rw [Exit.noGoto_ret])
           all_goals go_ret2
           all_goals exact ⟨rfl, HB2.out⟩
     · have i37 : (((s[k].toNat : Nat) : Int) == 37) = false := beq_eq_false_iff_ne.2 (fun e => h37 (by rw [← hc]; exact UInt8.toNat_inj.1 (by rw [show (37 : UInt8).toNat = 37 from rfl]; omega)))
       have HM1 := hideL (HMS.out s[k])
       rw [hd] at HR
       cases hst : stB c
       · rw [hc, hst] at HM1
         have hX := spell_stop HR.out (spP_no h37 hst _)
         subst hX
         have hts := to_str W w.heap.size u6 acc HG.out
         have HM1 : HidL (∀ W : World, Calls Tryz.prog 176 #[.int .u8 s[k].toNat] W (fun e w' => e = .returned (.bool false) ∧ w' = W)) := by rw [hc]; exact HM1
         clear HR hd hc h37 hst
         go_wp2_with (first
           | (go_at_call 176; refine (HM1.out _).mono ?_; rintro e w3 ⟨rfl, rfl⟩)
           | go_region)
         all_goals (try rw [Exit.noGoto_ret])
         all_goals go_ret2
         all_goals exact ⟨rfl, HB.out⟩
       · have hX := spell_step (x := [c]) HR.out (spP_one h37 hst _)
         rw [hc, hst] at HM1
         have HM1 : HidL (∀ W : World, Calls Tryz.prog 176 #[.int .u8 s[k].toNat] W (fun e w' => e = .returned (.bool true) ∧ w' = W)) := by rw [hc]; exact HM1
         rw [← hc] at hX
         obtain ⟨v5, w5, hrun5, hG5, hB5⟩ := push_b W w.heap.size u6 acc HG.out s[k] (by omega) HB.out.size
         have HRUN5 := hideL hrun5
         have HG5 := hideL hG5
         have HB5 := hideL (HB.out.trans hB5)
         have HX := hideL hX
         have hk1' : ((k : Int) + 1) ≤ (s.size : Int) := by omega
         clear HR hd hc h37 hst hrun5 hG5 hB5 hX
         go_wp2_with (first
           | (go_at_call 176; refine (HM1.out _).mono ?_; rintro e w3 ⟨rfl, rfl⟩)
           | (at_builtin; refine wpList_append_runP rfl (.tmp 57) (.tmp 59) 22 22 22 rfl rfl _ _ v5 w5 rfl rfl HRUN5.out ?_)
           | go_region)
         go_roundg (s.size - (k + 1))
         case measure => omega
         case rel => exact ⟨k + 1, _, by go_num, by omega, by rw [List.length_append]; simp; omega, HG5, HB5, HX⟩
   · obtain rfl : k = s.size := by omega
     have hlt' : ¬ (s.size : Int) < (s.size : Int) := by omega
     rw [List.drop_of_length_le (by omega)] at HR
     have hX := spell_end HR.out
     subst hX
     have hts := to_str W w.heap.size u6 acc HG.out
     clear HR
     go_wp2_with go_region
     all_goals (try rw [Exit.noGoto_ret])
     all_goals go_ret2
     all_goals exact ⟨rfl, HB.out⟩
end Go.Proofs.YtafmgoekgijfgaaGreatDoor
