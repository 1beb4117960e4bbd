/- The document's Split, Kept, Join, Same. -/
import Derived.Test.YtafmgoekgijfgaaGreatDoorYPhLeftW
import Derived.Test.YtafmgoekgijfgaaGreatDoorYPhSpell
namespace Go.Proofs.YtafmgoekgijfgaaGreatDoor
open Go.RowKit

theorem drop_mid {L : List UInt8} {j i : Nat} (hj : j ≤ i) (hi : i < L.length) : L.drop j = (L.drop j).take (i - j) ++ L[i] :: L.drop (i + 1) := by
 conv => lhs; rw [← List.take_append_drop (i - j) (L.drop j), List.drop_drop, show j + (i - j) = i by omega, List.drop_eq_getElem_cons hi]
theorem take_more {L : List UInt8} {j i : Nat} (hj : j ≤ i) (hi : i < L.length) : (L.drop j).take (i + 1 - j) = (L.drop j).take (i - j) ++ [L[i]] := by
 rw [show i + 1 - j = (i - j) + 1 by omega, List.take_add_one, List.getElem?_drop, show j + (i - j) = i by omega, List.getElem?_eq_getElem hi]
 rfl
theorem bo_ext (s : ByteArray) (j i : Nat) : s.extract j i = bo ((s.data.toList.drop j).take (i - j)) := bytes_ext (by rw [ex_list, bo_list])
def SpS (L : List UInt8) (D : List (List UInt8)) (j i : Nat) : Prop := (j ≤ i ∧ i ≤ L.length ∧ splP (L.drop 1) = D ++ splP (L.drop j) ∧ (47 : UInt8) ∉ (L.drop j).take (i - j)) ∨ (i = L.length + 1 ∧ splP (L.drop 1) = D)
theorem SpS.hit {L : List UInt8} {D : List (List UInt8)} {j i : Nat} (h : SpS L D j i) (hi : i < L.length) (hc : L[i] = 47) : SpS L (D ++ [(L.drop j).take (i - j)]) (i + 1) (i + 1) := by
 rcases h with ⟨h1, h2, h3, h4⟩ | ⟨h1, _⟩
 · refine .inl ⟨Nat.le_refl _, hi, ?_, by simp⟩
   rw [h3]
   conv => lhs; rw [drop_mid h1 hi, hc, splP_hit h4]
   rw [List.append_assoc]; rfl
 · omega
theorem SpS.miss {L : List UInt8} {D : List (List UInt8)} {j i : Nat} (h : SpS L D j i) (hi : i < L.length) (hc : L[i] ≠ 47) : SpS L D j (i + 1) := by
 rcases h with ⟨h1, h2, h3, h4⟩ | ⟨h1, _⟩
 · refine .inl ⟨by omega, hi, h3, ?_⟩
   rw [take_more h1 hi]
   intro hm
   rcases List.mem_append.1 hm with hm | hm
   · exact h4 hm
   · simp at hm; exact hc hm.symm
 · omega
theorem SpS.last {L : List UInt8} {D : List (List UInt8)} {j : Nat} (h : SpS L D j L.length) : SpS L (D ++ [(L.drop j).take (L.length - j)]) (L.length + 1) (L.length + 1) := by
 rcases h with ⟨h1, h2, h3, h4⟩ | ⟨h1, _⟩
 · refine .inr ⟨rfl, ?_⟩
   have e : (L.drop j).take (L.length - j) = L.drop j := List.take_of_length_le (by rw [List.length_drop]; omega)
   rw [e] at h4 ⊢
   rw [h3, splP_none _ h4]
 · omega
theorem SpS.le {L : List UInt8} {D : List (List UInt8)} {j i : Nat} (h : SpS L D j i) (hi : i ≤ L.length) : j ≤ i := by
 rcases h with ⟨h1, _⟩ | ⟨h1, _⟩
 · exact h1
 · omega
theorem SpS.few {L : List UInt8} {D : List (List UInt8)} {j i : Nat} (h : SpS L D j i) : D.length ≤ L.length + 1 := by
 have := splP_length (L.drop 1)
 rw [List.length_drop] at this
 rcases h with ⟨_, _, h3, _⟩ | ⟨_, h3⟩
 · rw [h3, List.length_append] at this; omega
 · rw [h3] at this; omega
set_option maxRecDepth 100000 in
set_option maxHeartbeats 1000000 in
theorem splitR_any (s : ByteArray) (h1 : 1 ≤ s.size) (hs : s.size ≤ 900000) (w : World) : Calls Tryz.prog 85 #[.string s] w (fun e w' => ∃ v, e = .returned v ∧ GRow KS w' w.heap.size v ((splP (s.data.toList.drop 1)).map bo) ∧ Below w.heap.size w w') := by
 have hsz := size_list s
 have H0 : HidL (SpS s.data.toList [] 1 1) := ⟨.inl ⟨Nat.le_refl _, by omega, rfl, by simp⟩⟩
 go_enter Tryz.func85, Tryz.ntmps85
 go_wp2_with fail
 go_loopw [3, 4, 5] (fun o f i wr => ∃ (k j : Nat) (D : List (List UInt8)), i = .int .i64 k ∧ f = .int .i64 j ∧ k ≤ s.size + 1 ∧ HidL (SpS s.data.toList D j k) ∧ HidL (GRow KS wr w.heap.size o (D.map bo)) ∧ HidL (Below w.heap.size w wr)) (fun _ _ i _ => s.size + 1 - (intOf i).toNat)
 case atStart => exact ⟨1, 1, [], rfl, rfl, by omega, H0, ⟨GRow.nil _ _⟩, ⟨Below.refl _ _⟩⟩
 case round =>
   obtain ⟨k, j, D, rfl, rfl, hk, HC, HR, HB⟩ := hrel
   clear H0
   obtain ⟨W, rfl⟩ : ∃ W, W = wr := ⟨_, rfl⟩
   by_cases hle : k ≤ s.size
   · have hj := HC.out.le (by omega)
     have hle' : (k : Int) ≤ (s.size : Int) := by omega
     have hj' : (j : Int) ≤ (k : Int) := by omega
     have hfew := HC.out.few
     obtain ⟨v2, w2, hrun, hR2, hB2⟩ := push_s W w.heap.size u3 (D.map bo) HR.out (s.extract j k) (by rw [List.length_map]; omega) HB.out.size
     rw [show D.map bo ++ [s.extract j k] = (D ++ [(s.data.toList.drop j).take (k - j)]).map bo by rw [bo_ext]; simp] at hR2
     have HRUN := hideL hrun
     have HR2 := hideL hR2
     have HB2 := hideL (HB.out.trans hB2)
     clear hrun hR2 hB2 hfew
     by_cases he : k = s.size
     · subst he
       have hC2 := SpS.last (L := s.data.toList) (by rw [hsz]; exact HC.out)
       rw [hsz] at hC2
       have HC2 := hideL hC2
       clear hC2 HC
       go_wp2_with (at_builtin; refine wpList_append_runP rfl (.tmp 22) (.tmp 27) 69 69 69 rfl rfl _ _ v2 w2 rfl rfl HRUN.out ?_)
       go_roundw
       case rel => exact ⟨s.size + 1, s.size + 1, _, by first | rfl | go_num, by first | rfl | go_num, Nat.le_refl _, HC2, HR2, HB2⟩
       case measure => simp [intOf]
     · have hlt : k < s.size := by omega
       have hltL : k < s.data.toList.length := by omega
       have hne' : ((k : Int) == (s.size : Int)) = false := beq_eq_false_iff_ne.2 (by omega)
       have hget : s.data.toList[k] = s[k] := by rfl
       by_cases hc : s[k] = 47
       · have HC2 := hideL (HC.out.hit hltL (by rw [hget]; exact hc))
         have i47 : (((s[k].toNat : Nat) : Int) == 47) = true := by rw [hc]; rfl
         clear hc hget HC
         go_wp2_with (at_builtin; refine wpList_append_runP rfl (.tmp 22) (.tmp 27) 69 69 69 rfl rfl _ _ v2 w2 rfl rfl HRUN.out ?_)
         go_roundw
         case rel => exact ⟨k + 1, k + 1, _, by go_num, by go_num, by omega, HC2, HR2, HB2⟩
         case measure => simp [intOf]; omega
       · have HC2 := hideL (HC.out.miss hltL (by rw [hget]; exact hc))
         have i47 : (((s[k].toNat : Nat) : Int) == 47) = false := beq_eq_false_iff_ne.2 (fun e => hc (UInt8.toNat_inj.1 (by rw [show (47 : UInt8).toNat = 47 from rfl]; omega)))
         clear hc hget HC HRUN HR2 HB2
         go_wp2_with fail
         go_roundw
         case rel => exact ⟨k + 1, j, D, by go_num, rfl, by omega, HC2, HR, HB⟩
         case measure => simp [intOf]; omega
   · obtain rfl : k = s.size + 1 := by omega
     have hD : splP (s.data.toList.drop 1) = D := by
       rcases HC.out with ⟨_, h, _⟩ | ⟨_, h⟩
       · omega
       · exact h
     have HD := hideL hD
     clear hD HC
     go_wp2_with fail
     go_ret
     exact ⟨_, rfl, by rw [HD.out]; exact HR.out, HB.out⟩
/-- A row's copy: append([]string{}, l...). -/
theorem copy_s (W : World) (sv : Value) (l : List ByteArray) (h : GAt KS W sv l) (hl : l.length ≤ 1000000) :
   ∃ v' w', (Builtin.append_ #[69, 69] 69 #[.slice (some ⟨W.heap.size, 0, none⟩) 0 0, sv]).run Tryz.prog (W.alloc (.cells #[] 9)) = .ok v' w' ∧ GRow KS w' W.heap.size v' l ∧ Below W.heap.size W w' := by
 have hm : (1000000 : Nat) ≤ maxLen := by decide
 have h0 := GRow.lit (K := KS) W W.heap.size [] (Nat.le_refl _) (by simp)
 have hb := (Below.refl W.heap.size W).alloc (Nat.le_refl _) (.cells #[] 9)
 obtain ⟨v', w', h1, h2, h3, _⟩ := append_g (K := KS) (P := Tryz.prog) 69 (.string ByteArray.empty) 16 Tryz.underlying69 infoS rfl (W.alloc (.cells #[] 9)) W.heap.size _ [] h0 sv l (h.below hb) (by simp; omega) (by simp; omega) (by simp)
 exact ⟨v', w', h1, h2, hb.trans (h3.below (fun k hk => h0.ge hk) (by simp))⟩
def KeptPost (w : World) (l : List (List UInt8)) (e : Ending) (W' : World) : Prop := (match lefP [] l with
 | some a => ∃ v, e = .returned (.tuple #[v, .bool true]) ∧ GRow KS W' w.heap.size v (a.map bo)
 | none => e = .returned (.tuple #[.slice none 0 0, .bool false])) ∧ Below w.heap.size w W'
theorem KeptPost.yes {w W' : World} {l a : List (List UInt8)} {v : Value} (h : lefP [] l = some a) (hg : GRow KS W' w.heap.size v (a.map bo)) (hb : Below w.heap.size w W') : KeptPost w l (.returned (.tuple #[v, .bool true])) W' := by
 unfold KeptPost; rw [h]; exact ⟨⟨v, rfl, hg⟩, hb⟩
theorem KeptPost.no {w W' : World} {l : List (List UInt8)} (h : lefP [] l = none) (hb : Below w.heap.size w W') : KeptPost w l (.returned (.tuple #[.slice none 0 0, .bool false])) W' := by
 unfold KeptPost; rw [h]; exact ⟨rfl, hb⟩
set_option maxRecDepth 100000 in
set_option maxHeartbeats 1000000 in
theorem keptR_any (v : Value) (l : List (List UInt8)) (w : World) (hv : GAt KS w v (l.map bo)) (hl : l.length ≤ 900000) : Calls Tryz.prog 86 #[v] w (KeptPost w l) := by
 obtain ⟨ao, cap, rfl⟩ := hv.len
 rw [List.length_map] at hv ⊢
 obtain ⟨n, hn⟩ : ∃ n, l.length = n := ⟨_, rfl⟩
 rw [hn] at hv hl ⊢
 have HN := hideL hn
 have HV := hideL hv
 have H0 : HidL (lefP [] l = lefP [] (l.drop 0)) := ⟨rfl⟩
 clear hv hn
 go_enter Tryz.func86, Tryz.ntmps86
 go_wp2_with fail
 go_loopw [4, 5] (fun o i wr => ∃ (k : Nat) (acc : List (List UInt8)), i = .int .i64 k ∧ k ≤ n ∧ acc.length ≤ k ∧ HidL (lefP [] l = lefP acc (l.drop k)) ∧ HidL (GRow KS wr w.heap.size o (acc.map bo)) ∧ HidL (Below w.heap.size w wr)) (fun _ i _ => n - (intOf i).toNat)
 case atStart => exact ⟨0, [], rfl, Nat.zero_le _, Nat.le_refl _, H0, ⟨GRow.nil _ _⟩, ⟨Below.refl _ _⟩⟩
 case round =>
   obtain ⟨k, acc, rfl, hk, hal, HD, HR, HB⟩ := hrel
   clear H0
   obtain ⟨W, rfl⟩ : ∃ W, W = wr := ⟨_, rfl⟩
   by_cases hlt : k < n
   · have hlt' : (k : Int) < (n : Int) := by omega
     obtain ⟨b, o, hao, hbl, hcell⟩ := gat_text HV.out (k := k) hlt
     subst hao
     have hkl : k < l.length := by rw [HN.out]; exact hlt
     have hd : l.drop k = l[k] :: l.drop (k + 1) := List.drop_eq_getElem_cons hkl
     have hx : (l.map bo).getD k ByteArray.empty = bo l[k] := by simp [List.getD, hkl]
     rw [hx] at hcell
     have hD := HD.out
     rw [hd] at hD
     generalize l[k] = x at *
     have c0 := (HB.out.cell (p := ⟨b, o + k, none⟩) hbl).trans hcell
     clear hcell hd hx HD
     by_cases hx0 : x = [] ∨ x = [46]
     · rw [lefP_skip hx0] at hD
       have HD2 := hideL hD
       have e3 : ((bo x).toList == [46, 46]) = false := by rw [bo_toList]; rcases hx0 with rfl | rfl <;> rfl
       rcases hx0 with h0 | h0
       · have e1 : (bo x).toList.isEmpty = true := by rw [bo_toList, h0]; rfl
         have e2 : ((bo x).toList == [46]) = false := by rw [bo_toList, h0]; rfl
         clear hD h0
         go_wp2_with fail
         go_roundw
         case rel => exact ⟨k + 1, acc, by go_num, by omega, by omega, HD2, HR, HB⟩
         case measure => simp [intOf]; omega
       · have e1 : (bo x).toList.isEmpty = false := by rw [bo_toList, h0]; rfl
         have e2 : ((bo x).toList == [46]) = true := by rw [bo_toList, h0]; rfl
         clear hD h0
         go_wp2_with fail
         go_roundw
         case rel => exact ⟨k + 1, acc, by go_num, by omega, by omega, HD2, HR, HB⟩
         case measure => simp [intOf]; omega
     have hx0a : x ≠ [] := fun h => hx0 (.inl h)
     have hx0b : x ≠ [46] := fun h => hx0 (.inr h)
     have e1 : (bo x).toList.isEmpty = false := by rw [bo_toList]; cases x with | nil => exact absurd rfl hx0a | cons _ _ => rfl
     have e2 : ((bo x).toList == [46]) = false := by rw [bo_toList]; exact beq_eq_false_iff_ne.2 hx0b
     by_cases hx2 : x = [46, 46]
     · have e3 : ((bo x).toList == [46, 46]) = true := by rw [bo_toList, hx2]; rfl
       by_cases ha : acc = []
       · subst ha
         rw [hx2, lefP_out] at hD
         have HD2 := hideL hD
         obtain ⟨ao', cap', hv'⟩ := HR.out.gAt.len
         subst hv'
         clear hD hx2 hx0 hx0a hx0b HR
         go_wp2_with fail
         go_ret2
         exact KeptPost.no HD2.out HB.out
       · rw [hx2, lefP_up _ _ ha] at hD
         have HD2 := hideL hD
         have hal1 : 0 < acc.length := List.length_pos_iff.2 ha
         obtain ⟨m, hm⟩ : ∃ m, acc.length = m + 1 := ⟨acc.length - 1, by omega⟩
         obtain ⟨ao', cap', hv'⟩ := HR.out.gAt.len
         rw [List.length_map, hm] at hv'
         subst hv'
         have hf := HR.out.gAt.front (k := m) (by omega)
         rw [show (acc.map bo).take m = acc.dropLast.map bo by rw [← List.map_take, List.dropLast_eq_take, hm]; rfl] at hf
         have hcp := HR.out.gAt.le.2
         obtain ⟨v2, w2, hrun, hR2, hB2⟩ := copy_s W _ _ hf (by rw [List.length_map, List.length_dropLast]; omega)
         have HRUN := hideL hrun
         have HR2 := hideL (hR2.base HB.out.size)
         have HB2 := hideL (HB.out.trans (hB2.mono HB.out.size))
         have hm1 := succ_one m
         have hw64 : wrap64 (m : Int) = (m : Int) := wrap64_small m (by omega)
         have hm0 := succ_nz m
         have hmc : (m : Int) ≤ (cap' : Int) := by omega
         have hml : acc.dropLast.length ≤ k + 1 := by rw [List.length_dropLast]; omega
         clear hD hx2 hx0 hx0a hx0b hrun hR2 hB2 hf HR ha
         go_wp2_with (at_builtin; refine wpList_append_runP rfl (.tmp 39) (.tmp 44) 69 69 69 rfl rfl _ _ v2 w2 rfl rfl HRUN.out ?_)
         go_roundw
         case rel => exact ⟨k + 1, acc.dropLast, by go_num, by omega, hml, HD2, HR2, HB2⟩
         case measure => simp [intOf]; omega
     · have e3 : ((bo x).toList == [46, 46]) = false := by rw [bo_toList]; exact beq_eq_false_iff_ne.2 hx2
       have e4 : ((bo x).toList != [46, 46]) = true := by rw [bne, e3]; rfl
       rw [lefP_put hx0a hx0b hx2] at hD
       have HD2 := hideL hD
       obtain ⟨v2, w2, hrun, hR2, hB2⟩ := push_s W w.heap.size u4 (acc.map bo) HR.out (bo x) (by rw [List.length_map]; omega) HB.out.size
       rw [show acc.map bo ++ [bo x] = (acc ++ [x]).map bo by simp] at hR2
       have HRUN := hideL hrun
       have HR2 := hideL hR2
       have HB2 := hideL (HB.out.trans hB2)
       clear hD hx2 hx0 hx0a hx0b hrun hR2 hB2
       go_wp2_with (at_builtin; refine wpList_append_runP rfl (.tmp 29) (.tmp 34) 69 69 69 rfl rfl _ _ v2 w2 rfl rfl HRUN.out ?_)
       go_roundw
       case rel => exact ⟨k + 1, acc ++ [x], by go_num, by omega, by rw [List.length_append]; simp; omega, HD2, HR2, HB2⟩
       case measure => simp [intOf]; omega
   · obtain rfl : k = n := by omega
     have hD := HD.out
     rw [List.drop_of_length_le (by rw [HN.out]; omega), lefP] at hD
     have HD2 := hideL hD
     have hlt' : ¬ (k : Int) < (k : Int) := by omega
     clear hD HD
     go_wp2_with fail
     go_ret2
     exact KeptPost.yes HD2.out HR.out HB.out
end Go.Proofs.YtafmgoekgijfgaaGreatDoor
