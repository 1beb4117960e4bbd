/- The document's Host: the walk. -/
import Derived.Test.YtafmgoekgijfgaaGreatDoorFRqHostR
import Derived.Test.YtafmgoekgijfgaaGreatDoorFRqM3
import Derived.Test.YtafmgoekgijfgaaGreatDoorFPhRefS
namespace Go.Proofs.YtafmgoekgijfgaaGreatDoor
open Go.RowKit Go.Lib

theorem numN_snoc : ∀ (l : List UInt8) (n : Nat) (c : UInt8), numN n (l ++ [c]) = addN (numN n l) c
 | [], _, _ => rfl
 | x :: l, n, c => by
   rw [List.cons_append, numN, numN]
   exact numN_snoc l _ c
/-- The number of so many digits. -/
theorem numN_lt : ∀ (l : List UInt8) (n : Nat), (∀ c ∈ l, digB c = true) → numN n l < (n + 1) * 10 ^ l.length
 | [], n, _ => by
   rw [numN]
   simp
 | c :: l, n, h => by
   have h1 := numN_lt l (addN n c) fun x hx => h x (List.mem_cons_of_mem _ hx)
   have h2 := h c (List.mem_cons_self ..)
   unfold digB at h2
   rw [decide_eq_true_eq] at h2
   rw [numN, List.length_cons, Nat.pow_succ]
   rw [addN_eq] at h1 ⊢
   have h3 : n * 10 + (c.toNat - 48) + 1 ≤ (n + 1) * 10 := by omega
   have h4 := Nat.mul_le_mul_right (10 ^ l.length) h3
   have h5 : (n + 1) * 10 * 10 ^ l.length = (n + 1) * (10 ^ l.length * 10) := by rw [Nat.mul_assoc, Nat.mul_comm 10]
   omega
/-- A byte of a host, as the document tells it. -/
theorem hob_cases {c : UInt8} (h : hoB c = true) : c = 46 ∨ c = 45 ∨ (48 ≤ c.toNat ∧ c.toNat ≤ 57) ∨ (97 ≤ c.toNat ∧ c.toNat ≤ 122) := by
 unfold hoB at h
 rw [decide_eq_true_eq] at h
 rcases h with h | h | h | h
 · exact .inl (UInt8.toNat_inj.1 h)
 · exact .inr (.inl (UInt8.toNat_inj.1 h))
 · exact .inr (.inr (.inl h))
 · exact .inr (.inr (.inr h))
theorem hob_not {c : UInt8} (h : hoB c = false) : c.toNat ≠ 46 ∧ c.toNat ≠ 45 ∧ ¬ (48 ≤ c.toNat ∧ c.toNat ≤ 57) ∧ ¬ (97 ≤ c.toNat ∧ c.toNat ≤ 122) := by
 unfold hoB at h
 have h := of_decide_eq_false h
 exact ⟨fun e => h (.inl e), fun e => h (.inr (.inl e)), fun e => h (.inr (.inr (.inl e))), fun e => h (.inr (.inr (.inr e)))⟩
def hstA (x : Bool × Bool) : Value := .tuple #[.bool x.1, .bool x.2]
theorem take_next {L : List UInt8} {k : Nat} {P : UInt8 → Prop} (hk : k < L.length) (h : ∀ c ∈ L.take k, P c) (hc : P L[k]) : ∀ c ∈ L.take (k + 1), P c := by
 intro c hm
 rw [List.take_succ_eq_append_getElem hk] at hm
 rcases List.mem_append.1 hm with h' | h'
 · exact h c h'
 · rw [List.mem_singleton.1 h']; exact hc
set_option maxRecDepth 100000 in
set_option maxHeartbeats 2000000 in
theorem hostR_any (s : ByteArray) (w : World) : Calls Tryz.prog 17 #[.string s] w (fun e w' => e = .returned (hstA (hosP s.data.toList)) ∧ Below w.heap.size w w') := by
 have hz := size_list s
 by_cases h64 : 64 < s.size
 · rw [host_long (by omega)]
   have i64 : (64 : Int) < (s.size : Int) := by omega
   clear hz h64
   go_enter Tryz.func17, Tryz.ntmps17
   go_wp2
   exact bodyPost_ret (v := .tuple #[.bool false, .bool false]) (by simp [results, Tryz.results17, go_sem]) rfl ⟨rfl, Below.refl _ _⟩
 have i64 : ¬ (64 : Int) < (s.size : Int) := by omega
 have h64' : s.size ≤ 64 := by omega
 obtain ⟨R, hR⟩ : ∃ R, hosP s.data.toList = R := ⟨_, rfl⟩
 rw [hR]
 have HR := hideL hR
 have HZ := hideL hz
 have H0 : HidL (∀ c ∈ s.data.toList.take 0, c ≠ 58 ∧ hoB c = true) := ⟨fun c hc => by rw [List.take_zero] at hc; cases hc⟩
 clear hz h64 hR
 go_enter Tryz.func17, Tryz.ntmps17
 go_wp2_with fail
 go_loopw [4] (fun i wr => ∃ k : Nat, k ≤ s.size ∧ i = .int .i64 k ∧ wr = w ∧ HidL (∀ c ∈ s.data.toList.take k, c ≠ 58 ∧ hoB c = true)) (fun i _ => s.size - (RowKit.intOf i).toNat)
 case atStart => exact ⟨0, Nat.zero_le _, rfl, rfl, H0⟩
 case round =>
   obtain ⟨k, hk, rfl, rfl, HI⟩ := hrel
   clear H0
   by_cases hlt : k < s.size
   · have hlt' : (k : Int) < (s.size : Int) := by omega
     have hkl : k < s.data.toList.length := by rw [HZ.out]; exact hlt
     have hget : s.data.toList[k] = s[k] := rfl
     by_cases h58 : s[k] = 58
     · have i58 : ((s[k].toNat : Int) != 58) = false := by rw [h58]; rfl
       have hcut : s.data.toList = s.data.toList.take k ++ 58 :: s.data.toList.drop (k + 1) := by
         conv => lhs; rw [← List.take_append_drop k s.data.toList, List.drop_eq_getElem_cons hkl, hget, h58]
       by_cases hk0 : k = 0
       · subst hk0
         have hr := HR.out
         rw [host_nil (by rw [hcut]; simp)] at hr
         subst hr
         clear hcut HI
         go_wp2_with fail
         exact bodyPost_ret (v := .tuple #[.bool false, .bool false]) (by simp [results, Tryz.results17, go_sem]) rfl ⟨rfl, Below.refl _ _⟩
       have ik0 : ((k : Int) == 0) = false := by rw [beq_eq_false_iff_ne]; omega
       have ikn : ((k : Int) == (s.size : Int)) = false := by rw [beq_eq_false_iff_ne]; omega
       have hr := HR.out
       have hk1 : (k : Int) + 1 ≤ (s.size : Int) := by omega
       have hk2 : (0 : Int) ≤ (k : Int) + 1 := by omega
       have hk1n : ((k : Int) + 1).toNat = k + 1 := by omega
       have hw1 : IntKind.i64.wrap ((k : Int) + 1) = (k : Int) + 1 := by rw [IntWalk.i64_in _ (by omega)]
       have htl : (s.data.toList.take k).length = k := by rw [List.length_take]; omega
       have hle : (s.data.toList.take k ++ 58 :: s.data.toList.drop (k + 1)).length ≤ 64 := by rw [← hcut, HZ.out]; exact h64'
       have hne : s.data.toList.take k ≠ [] := fun e => hk0 (by rw [e] at htl; exact htl.symm)
       have e2 : s.extract (k + 1) s.size = bo (s.data.toList.drop (k + 1)) := by rw [bo_ext, List.take_of_length_le (by rw [List.length_drop, HZ.out]; exact Nat.le_refl _)]
       rw [hcut, host_port hle hne HI.out] at hr
       obtain ⟨D, hD⟩ : ∃ D, s.data.toList.drop (k + 1) = D := ⟨_, rfl⟩
       rw [hD] at hr e2
       obtain ⟨T, hT⟩ : ∃ T, bo D = T := ⟨_, rfl⟩
       rw [hT] at e2
       have hTD : T.data.toList = D := by rw [← hT, bo_list]
       have hTs := size_list T
       have hDl : D.length = s.size - (k + 1) := by rw [← hD, List.length_drop, HZ.out]
       rw [hTD] at hTs
       obtain ⟨V, hV⟩ : ∃ V, porP D = V := ⟨_, rfl⟩
       rw [hV] at hr
       subst hr
       have HC := hideL hcut
       clear hcut HI htl hle hne hT
       by_cases hd1 : T.size < 1
       · have id1 : (T.size : Int) < 1 := by omega
         obtain rfl : V = false := hV.symm.trans (port_len (by omega))
         clear hV hTD hTs hDl hd1 hD
         go_wp2_with fail
         exact bodyPost_ret (v := .tuple #[.bool false, .bool false]) (by simp [results, Tryz.results17, go_sem]) rfl ⟨rfl, Below.refl _ _⟩
       have id1 : ¬ (T.size : Int) < 1 := by omega
       by_cases hd5 : 5 < T.size
       · have id5 : (5 : Int) < (T.size : Int) := by omega
         obtain rfl : V = false := hV.symm.trans (port_len (by omega))
         clear hV hTD hTs hDl hd1 hd5 hD
         go_wp2_with fail
         exact bodyPost_ret (v := .tuple #[.bool false, .bool false]) (by simp [results, Tryz.results17, go_sem]) rfl ⟨rfl, Below.refl _ _⟩
       have id5 : ¬ (5 : Int) < (T.size : Int) := by omega
       have hT0 : 0 < T.size := by omega
       have id0 : (0 : Int) < (T.size : Int) := by omega
       have hhd : D.head? = some (T[0]'hT0) := by
         rw [← hTD]
         have := byte_at T 0 hT0
         rw [List.drop_zero] at this
         rw [this]
         rfl
       by_cases hn : T[0]'hT0 = 48
       · have idn : (((T[0]'hT0).toNat : Int) == 48) = true := by rw [hn]; rfl
         obtain rfl : V = false := hV.symm.trans (port_zero (by rw [hhd, hn]))
         clear hV hTD hTs hDl hd1 hd5 hhd hn hD
         go_wp2_with fail
         exact bodyPost_ret (v := .tuple #[.bool false, .bool false]) (by simp [results, Tryz.results17, go_sem]) rfl ⟨rfl, Below.refl _ _⟩
       have idn : (((T[0]'hT0).toNat : Int) == 48) = false := by
         rw [beq_eq_false_iff_ne]
         intro e
         exact hn (UInt8.toNat_inj.1 (by show (T[0]'hT0).toNat = 48; omega))
       have HVV := hideL hV
       have HTD := hideL hTD
       have HTS := hideL hTs
       have HH := hideL (show D.head? ≠ some 48 from fun e => hn (by rw [hhd] at e; injection e))
       have hT5 : T.size ≤ 5 := by omega
       have HLN := hideL (show 1 ≤ D.length ∧ D.length ≤ 5 by omega)
       have J0 : HidL (∀ c ∈ D.take 0, digB c = true) := ⟨fun c hc => by rw [List.take_zero] at hc; cases hc⟩
       clear hV hTD hTs hDl hd1 hd5 hhd hn hD
       go_wp2_with fail
       go_loopw [7, 8] (fun nn i wr2 => ∃ j : Nat, j ≤ T.size ∧ i = .int .i64 j ∧ nn = .int .i64 (numN 0 (D.take j)) ∧ wr2 = wr ∧ HidL (∀ c ∈ D.take j, digB c = true)) (fun _ i _ => T.size - (RowKit.intOf i).toNat)
       case atStart => exact ⟨0, Nat.zero_le _, rfl, rfl, rfl, J0⟩
       case round =>
         obtain ⟨j, hj, rfl, rfl, rfl, HJ⟩ := hrel
         clear J0
         have hlt2 := numN_lt (D.take j) 0 HJ.out
         have hpw : 10 ^ (D.take j).length ≤ 10 ^ 5 := Nat.pow_le_pow_right (by decide) (by have := HLN.out; rw [List.length_take]; omega)
         by_cases hjl : j < T.size
         · have hjl' : (j : Int) < (T.size : Int) := by omega
           have hjd : j < D.length := by rw [HTS.out]; exact hjl
           have hdj : D[j] = T[j] := by
             have := byte_at T j hjl
             rw [HTD.out, List.drop_eq_getElem_cons hjd] at this
             injection this
           by_cases hb : digB (T[j]'hjl) = true
           · have hb2 := hb
             unfold digB at hb2
             rw [decide_eq_true_eq] at hb2
             have HJ2 := hideL (take_next hjd HJ.out (by rw [hdj]; exact hb))
             have hnx : numN 0 (D.take (j + 1)) = numN 0 (D.take j) * 10 + ((T[j]'hjl).toNat - 48) := by
               rw [List.take_succ_eq_append_getElem hjd, numN_snoc, addN_eq, hdj]
             obtain ⟨X, hX⟩ : ∃ X, numN 0 (D.take j) = X := ⟨_, rfl⟩
             have HNX := hideL hnx
             rw [hX] at hlt2 HNX ⊢
             obtain ⟨c, hc⟩ : ∃ c, T[j]'hjl = c := ⟨_, rfl⟩
             rw [hc] at hb2 HNX
             have c1 : ¬ (c.toNat : Int) < 48 := by omega
             have c2 : ¬ (57 : Int) < (c.toNat : Int) := by omega
             have hw3 : IntKind.i64.wrap ((X : Int) * 10) = (X : Int) * 10 := by rw [IntWalk.i64_in _ (by omega)]
             have hw4 : IntKind.i64.wrap ((X : Int) * 10 + (c.toNat : Int)) = (X : Int) * 10 + (c.toNat : Int) := by rw [IntWalk.i64_in _ (by omega)]
             have hw5 : IntKind.i64.wrap ((X : Int) * 10 + (c.toNat : Int) - 48) = (X : Int) * 10 + (c.toNat : Int) - 48 := by rw [IntWalk.i64_in _ (by omega)]
             have HFIN : HidL ((X : Int) * 10 + (c.toNat : Int) - 48 = ((numN 0 (D.take (j + 1)) : Nat) : Int)) := ⟨by rw [HNX.out]; omega⟩
             clear hX hb hb2 hdj hjd hnx hlt2 hpw HJ
             go_wp2_with fail
             go_roundw
             case rel => exact ⟨j + 1, by omega, by go_num, by rw [HFIN.out], trivial, HJ2⟩
             case measure => simp [RowKit.intOf]; omega
           · have hb1 : digB (T[j]'hjl) = false := Bool.eq_false_iff.2 hb
             have hmem : T[j]'hjl ∈ D := hdj ▸ List.getElem_mem hjd
             obtain rfl : V = false := HVV.out.symm.trans (port_bad hmem hb1)
             have hb2 := hb1
             unfold digB at hb2
             have hb2 := of_decide_eq_false hb2
             obtain ⟨c, hc⟩ : ∃ c, T[j]'hjl = c := ⟨_, rfl⟩
             rw [hc] at hb2
             by_cases hc1 : c.toNat < 48
             · have c1 : (c.toNat : Int) < 48 := by omega
               clear hb hb1 hb2 hmem hdj hjd hlt2 hpw HJ hc1
               go_wp2_with fail
               exact bodyPost_ret (v := .tuple #[.bool false, .bool false]) (by simp [results, Tryz.results17, go_sem]) rfl ⟨rfl, Below.refl _ _⟩
             · have c1 : ¬ (c.toNat : Int) < 48 := by omega
               have c2 : (57 : Int) < (c.toNat : Int) := by omega
               clear hb hb1 hb2 hmem hdj hjd hlt2 hpw HJ hc1
               go_wp2_with fail
               exact bodyPost_ret (v := .tuple #[.bool false, .bool false]) (by simp [results, Tryz.results17, go_sem]) rfl ⟨rfl, Below.refl _ _⟩
         · obtain rfl : j = T.size := by omega
           have hjl' : ¬ (T.size : Int) < (T.size : Int) := by omega
           have hall : D.take T.size = D := List.take_of_length_le (by rw [HTS.out]; exact Nat.le_refl _)
           have hJ := HJ.out
           rw [hall] at hJ hlt2
           have hok := HVV.out.symm.trans (port_ok HLN.out HH.out hJ)
           rw [hall]
           obtain ⟨X, hX⟩ : ∃ X, numN 0 D = X := ⟨_, rfl⟩
           rw [hX] at hok ⊢
           have hdc : decide ((X : Int) ≤ 65535) = V := by rw [hok]; exact decide_eq_decide.2 (by omega)
           clear hJ hlt2 hpw hok hX HJ hall
           go_wp2_with fail
           exact bodyPost_ret (v := .tuple #[.bool V, .bool V]) (by simp [results, Tryz.results17, go_sem]) rfl ⟨rfl, Below.refl _ _⟩
     · have i58 : ((s[k].toNat : Int) != 58) = true := by
         rw [bne_iff_ne]
         intro e
         exact h58 (UInt8.toNat_inj.1 (by show s[k].toNat = 58; omega))
       by_cases hh : hoB s[k] = true
       · have HI2 := hideL (take_next hkl HI.out ⟨by rw [hget]; exact h58, by rw [hget]; exact hh⟩)
         have hcs := hob_cases hh
         obtain ⟨c, hc⟩ : ∃ c, s[k] = c := ⟨_, rfl⟩
         rw [hc] at hcs i58
         rcases hcs with e | e | e | e
         · have c0 : ((c.toNat : Int) != 46) = false := by rw [e]; rfl
           clear HI hh h58 hget e
           go_wp2_with fail
           go_roundw
           case rel => exact ⟨k + 1, by omega, by go_num, trivial, HI2⟩
           case measure => simp [RowKit.intOf]; omega
         · have c0 : ((c.toNat : Int) != 46) = true := by rw [e]; rfl
           have c1 : ((c.toNat : Int) != 45) = false := by rw [e]; rfl
           clear HI hh h58 hget e
           go_wp2_with fail
           go_roundw
           case rel => exact ⟨k + 1, by omega, by go_num, trivial, HI2⟩
           case measure => simp [RowKit.intOf]; omega
         · have c0 : ((c.toNat : Int) != 46) = true := by rw [bne_iff_ne]; omega
           have c1 : ((c.toNat : Int) != 45) = true := by rw [bne_iff_ne]; omega
           have c2 : ¬ (c.toNat : Int) < 48 := by omega
           have c3 : ¬ (57 : Int) < (c.toNat : Int) := by omega
           clear HI hh h58 hget e
           go_wp2_with fail
           go_roundw
           case rel => exact ⟨k + 1, by omega, by go_num, trivial, HI2⟩
           case measure => simp [RowKit.intOf]; omega
         · have c0 : ((c.toNat : Int) != 46) = true := by rw [bne_iff_ne]; omega
           have c1 : ((c.toNat : Int) != 45) = true := by rw [bne_iff_ne]; omega
           have c2 : ¬ (c.toNat : Int) < 48 := by omega
           have c3 : (57 : Int) < (c.toNat : Int) := by omega
           have c4 : ¬ (c.toNat : Int) < 97 := by omega
           have c5 : ¬ (122 : Int) < (c.toNat : Int) := by omega
           clear HI hh h58 hget e
           go_wp2_with fail
           go_roundw
           case rel => exact ⟨k + 1, by omega, by go_num, trivial, HI2⟩
           case measure => simp [RowKit.intOf]; omega
       · have hh1 : hoB s[k] = false := Bool.eq_false_iff.2 hh
         have hr := HR.out
         rw [host_bad hkl HI.out (by rw [hget]; exact h58) (by rw [hget]; exact hh1)] at hr
         subst hr
         have hn := hob_not hh1
         obtain ⟨c, hc⟩ : ∃ c, s[k] = c := ⟨_, rfl⟩
         rw [hc] at hn i58
         obtain ⟨e1, e2, e3, e4⟩ := hn
         have c0 : ((c.toNat : Int) != 46) = true := by rw [bne_iff_ne]; omega
         have c1 : ((c.toNat : Int) != 45) = true := by rw [bne_iff_ne]; omega
         by_cases d1 : c.toNat < 48
         · have c2 : (c.toNat : Int) < 48 := by omega
           have c4 : (c.toNat : Int) < 97 := by omega
           clear HI hh hh1 h58 hget e1 e2 e3 e4 d1
           go_wp2_with fail
           exact bodyPost_ret (v := .tuple #[.bool false, .bool false]) (by simp [results, Tryz.results17, go_sem]) rfl ⟨rfl, Below.refl _ _⟩
         · have c2 : ¬ (c.toNat : Int) < 48 := by omega
           have c3 : (57 : Int) < (c.toNat : Int) := by omega
           by_cases d2 : c.toNat < 97
           · have c4 : (c.toNat : Int) < 97 := by omega
             clear HI hh hh1 h58 hget e1 e2 e3 e4 d1 d2
             go_wp2_with fail
             exact bodyPost_ret (v := .tuple #[.bool false, .bool false]) (by simp [results, Tryz.results17, go_sem]) rfl ⟨rfl, Below.refl _ _⟩
           · have c4 : ¬ (c.toNat : Int) < 97 := by omega
             have c5 : (122 : Int) < (c.toNat : Int) := by omega
             clear HI hh hh1 h58 hget e1 e2 e3 e4 d1 d2
             go_wp2_with fail
             exact bodyPost_ret (v := .tuple #[.bool false, .bool false]) (by simp [results, Tryz.results17, go_sem]) rfl ⟨rfl, Below.refl _ _⟩
   · obtain rfl : k = s.size := by omega
     have hlt' : ¬ (s.size : Int) < (s.size : Int) := by omega
     have hall : s.data.toList.take s.size = s.data.toList := List.take_of_length_le (by rw [HZ.out]; exact Nat.le_refl _)
     have hI := HI.out
     rw [hall] at hI
     have hr := HR.out
     by_cases h0 : s.size = 0
     · rw [host_nil (by rw [List.eq_nil_of_length_eq_zero (HZ.out.trans h0)]; rfl)] at hr
       subst hr
       have i0 : ((s.size : Int) == 0) = true := by rw [beq_iff_eq]; omega
       clear hI hall HI h0
       go_wp2_with fail
       exact bodyPost_ret (v := .tuple #[.bool false, .bool false]) (by simp [results, Tryz.results17, go_sem]) rfl ⟨rfl, Below.refl _ _⟩
     · rw [host_all (by rw [HZ.out]; exact h64') (fun e => h0 (by rw [← HZ.out, e]; rfl)) hI] at hr
       subst hr
       have i0 : ((s.size : Int) == 0) = false := by rw [beq_eq_false_iff_ne]; omega
       clear hI hall HI h0
       go_wp2_with fail
       exact bodyPost_ret (v := .tuple #[.bool true, .bool false]) (by simp [results, Tryz.results17, go_sem]) rfl ⟨rfl, Below.refl _ _⟩
end Go.Proofs.YtafmgoekgijfgaaGreatDoor
