/- The document's Read. -/
import Derived.Test.YtafmgoekgijfgaaGreatDoorBRqM2
import Derived.Test.YtafmgoekgijfgaaGreatDoorBHdRef
import Derived.Test.YtafmgoekgijfgaaGreatDoorBRqM3
import Derived.Deep.RegionWith
import Derived.Deep.RegionHeld3
import Derived.Deep.CutBlock
import Derived.Deep.DeepCutAuto
import Derived.StillTailTactics
namespace Go.Proofs.YtafmgoekgijfgaaGreatDoor
open Go.RowKit Go.Lib

theorem i_ne {c : UInt8} {m : Int} (h : ¬ (c.toNat : Int) = m) : (((c.toNat : Nat) : Int) == m) = false := beq_eq_false_iff_ne.2 h
theorem i_eq {c : UInt8} {m : Int} (h : (c.toNat : Int) = m) : (((c.toNat : Nat) : Int) == m) = true := by rw [h]; exact beq_self_eq_true _
theorem take_snoc {l : List UInt8} {k : Nat} (h : k < l.length) : l.take (k + 1) = l.take k ++ [l[k]] := by
 rw [List.take_add_one, List.getElem?_eq_getElem h]
 rfl
/-- What stands between f and t, behind the colon at k, is what is left when blanks go. -/
theorem trim_mid {l : List UInt8} {k f t : Nat} (hk : k + 1 ≤ f) (hft : f ≤ t) (ht : t ≤ l.length) (ha : ∀ c ∈ (l.drop (k + 1)).take (f - (k + 1)), wsB c = true) (hb : ∀ c ∈ l.drop t, wsB c = true)
   (h1 : f = t ∨ ∃ h : f < l.length, wsB l[f] = false) (h2 : f = t ∨ ∃ h : t - 1 < l.length, wsB l[t - 1] = false) : trimP (l.drop (k + 1)) = (l.drop f).take (t - f) := by
 have e1 : l.drop (k + 1) = (l.drop (k + 1)).take (f - (k + 1)) ++ (l.drop f).take (t - f) ++ l.drop t := by
   have a1 := (List.take_append_drop (f - (k + 1)) (l.drop (k + 1))).symm
   rw [List.drop_drop, show k + 1 + (f - (k + 1)) = f by omega] at a1
   have a2 := (List.take_append_drop (t - f) (l.drop f)).symm
   rw [List.drop_drop, show f + (t - f) = t by omega] at a2
   rw [List.append_assoc, ← a2, ← a1]
 conv => lhs; rw [e1]
 refine trim_pad ha hb ?_
 rcases Nat.eq_or_lt_of_le hft with e | hlt
 · rw [e, Nat.sub_self, List.take_zero]; rfl
 · obtain ⟨hf, g1⟩ := h1.resolve_left (by omega)
   obtain ⟨ht', g2⟩ := h2.resolve_left (by omega)
   unfold bareP
   have c1 : ((l.drop f).take (t - f)).head? = some l[f] := by
     rw [List.head?_take, if_neg (by omega), List.head?_drop, List.getElem?_eq_getElem hf]
   have c2 : ((l.drop f).take (t - f)).getLast? = some l[t - 1] := by
     rw [List.getLast?_eq_getElem?, List.length_take, List.length_drop, Nat.min_eq_left (by omega), List.getElem?_take, if_pos (by omega), List.getElem?_drop, show f + (t - f - 1) = t - 1 by omega, List.getElem?_eq_getElem ht']
   rw [c1, c2]
   simp [g1, g2]
theorem sizeH {a b : ByteArray} : (Tryz.prog.info? 83).map (·.size) = some (#[Value.string a, Value.string b] : Array Value).size := by kernel_rfl
theorem oneH (a b : ByteArray) : (#[Value.string a, Value.string b] : Array Value).all (·.oneCell') = true := by simp [Value.oneCell']
theorem HBox.put {W : World} {g : Nat} {s t : ByteArray} (h : HBox W g s t) (x y : ByteArray) : HBox (W.setRow g #[.string x, .string y]) g x y := setRow_heap _ _ _ _ _ (0, 0) h
theorem wp_alloc_h {op : Oper} {a : Act} {w : World} {K : Act → World → Prop} {Q : Exit → Act → World → Prop} (ho : op.op = .alloc 83)
   (h : K (a.put op.dst (.pointer (some ⟨w.heap.size, 0, none⟩))) (w.alloc (.cells #[.string (⟨#[]⟩ : ByteArray), .string (⟨#[]⟩ : ByteArray)] 83))) : Oper.wp Tryz.prog op a w K Q := by
 unfold Oper.wp execOp
 simp [ho, Instr.alloc, newVar, Value.cells]
 exact h
set_option maxRecDepth 100000 in
set_option maxHeartbeats 40000000 in
theorem readR_any (s : ByteArray) (hs : s.size ≤ 1000000) (w : World) : Calls Tryz.prog 115 #[.string s] w (fun e w' => e = .returned (readA (readP s.data.toList)) ∧ Below w.heap.size w w') := by
 have hlen := size_list s
 have HB0 := hideL ((Below.refl w.heap.size w).alloc (Nat.le_refl _) (.cells #[.string (⟨#[]⟩ : ByteArray), .string (⟨#[]⟩ : ByteArray)] 83))
 have HX := hideL (HBox.new w (⟨#[]⟩ : ByteArray) (⟨#[]⟩ : ByteArray))
 by_cases h1 : 578 < s.size
 · rw [readP_long (by omega)]
   have h1' : (578 : Int) < (s.size : Int) := by omega
   have f0 := HX.out.frozen 0
   have f1 := HX.out.frozen 1
   have c0 := HX.out.c0
   have c1 := HX.out.c1
   clear hlen
   go_enter Tryz.func115, Tryz.ntmps115
   go_wp2_with fail
   have HXF := HX
   have HBF := HB0
   clear f0 f1 c0 c1
   generalize (w.alloc (.cells #[.string (⟨#[]⟩ : ByteArray), .string (⟨#[]⟩ : ByteArray)] 83)) = WF at *
   have r0 := HXF.out.c0
   have r1 := HXF.out.c1
   exact bodyPost_ret (v := readA (6, [], [])) (by simp [results, Tryz.results115, go_sem, r0, r1]; rfl) rfl ⟨rfl, HBF.out⟩
 have h1' : ¬ (578 : Int) < (s.size : Int) := by omega
 obtain ⟨L, hL⟩ : ∃ L, s.data.toList = L := ⟨_, rfl⟩
 have hget : ∀ k (h : k < s.size), s[k] = L.getD k 0 := by
   intro k h
   subst hL
   have h2 : k < s.data.toList.length := by rw [hlen]; exact h
   rw [List.getD, List.getElem?_eq_getElem h2]
   rfl
 have HG := hideL hget
 have HN := hideL (show L.length = s.size by rw [← hL]; exact hlen)
 have HLL := hideL hL
 rw [hL]
 obtain ⟨R, hR⟩ : ∃ R, readP L = R := ⟨_, rfl⟩
 rw [hR]
 have HR := hideL hR
 clear hget hL hlen hR h1
 go_enter Tryz.func115, Tryz.ntmps115
 go_wp2_with fail
 obtain ⟨W0, hW0⟩ : ∃ W0, W0 = w.alloc (.cells #[.string (⟨#[]⟩ : ByteArray), .string (⟨#[]⟩ : ByteArray)] 83) := ⟨_, rfl⟩
 rw [← hW0] at HX HB0 ⊢
 clear hW0
 go_loopw [4] (fun i wr => ∃ k : Nat, k ≤ s.size ∧ i = .int .i64 k ∧ W0 = wr ∧ HidL ((58 : UInt8) ∉ L.take k)) (fun i _ => s.size - (RowKit.intOf i).toNat)
 case atStart => exact ⟨0, Nat.zero_le _, rfl, rfl, ⟨by simp⟩⟩
 case round =>
   obtain ⟨k, hk, rfl, rfl, HD⟩ := hrel
   by_cases hlt : k < s.size
   · have hlt' : (k : Int) < (s.size : Int) := by omega
     obtain ⟨c, hc⟩ : ∃ c, s[k] = c := ⟨_, rfl⟩
     have hkl : k < L.length := by rw [HN.out]; exact hlt
     have hcl : L[k] = c := by have := HG.out k hlt; rw [hc] at this; rw [this]; simp [List.getD, hkl]
     by_cases h58 : c.toNat = 58
     · have e58 := i_eq (c := c) (m := 58) (by omega)
       have hab : L = L.take k ++ 58 :: L.drop (k + 1) := by
         conv => lhs; rw [← List.take_append_drop k L, List.drop_eq_getElem_cons hkl, hcl]
         rw [show c = 58 from UInt8.toNat_inj.1 h58]
       have hR := readP_cut (a := L.take k) (b := L.drop (k + 1)) (by rw [← hab, HN.out]; omega) HD.out
       rw [← hab, HR.out] at hR
       have HR2 := hideL hR
       have hne : (((k : Nat) : Int) == ((s.size : Nat) : Int)) = false := beq_eq_false_iff_ne.2 (by omega)
       have wk : IntKind.i64.wrap ((k : Int) + 1) = ((k + 1 : Nat) : Int) := by rw [IntWalk.i64_in _ (by omega)]; omega
       clear hR hab HR hcl hkl
       go_wp2_with fail
       clear hne
       go_loopw [5] (fun i wr => ∃ f : Nat, k + 1 ≤ f ∧ f ≤ s.size ∧ i = .int .i64 f ∧ W0 = wr ∧ HidL (∀ c ∈ (L.drop (k + 1)).take (f - (k + 1)), wsB c = true)) (fun i _ => s.size - (RowKit.intOf i).toNat)
       case atStart => exact ⟨k + 1, Nat.le_refl _, hlt, by first | rfl | go_num, rfl, ⟨by rw [Nat.sub_self, List.take_zero]; intro c h; cases h⟩⟩
       case round =>
         obtain ⟨f, hf1, hf2, rfl, rfl, HA⟩ := hrel
         by_cases hfl : f < s.size
         · have hfl' : (f : Int) < (s.size : Int) := by omega
           obtain ⟨d, hd⟩ : ∃ d, s[f] = d := ⟨_, rfl⟩
           have hfL : f < L.length := by rw [HN.out]; exact hfl
           have hdl : L[f] = d := by have := HG.out f hfl; rw [hd] at this; rw [this]; simp [List.getD, hfL]
           by_cases hw : wsB d = true
           · have hn : ∀ c ∈ (L.drop (k + 1)).take (f + 1 - (k + 1)), wsB c = true := by
               rw [show f + 1 - (k + 1) = (f - (k + 1)) + 1 by omega, List.take_add_one, List.getElem?_drop, show k + 1 + (f - (k + 1)) = f by omega, List.getElem?_eq_getElem hfL, hdl]
               intro c hc
               rcases List.mem_append.1 hc with h | h
               · exact HA.out c h
               · rw [show c = d by simpa using h]; exact hw
             have HA2 := hideL hn
             have hw' : d.toNat = 32 ∨ d.toNat = 9 := of_decide_eq_true hw
             clear hn hdl hfL HA hw
             rcases hw' with h | h
             · have e1 := i_eq (c := d) (m := 32) (by omega)
               go_wp2_with fail
               go_roundw
               case rel => exact ⟨f + 1, by omega, by omega, by go_num, trivial, HA2⟩
               case measure => simp [RowKit.intOf]; omega
             · have e1 := i_ne (c := d) (m := 32) (by omega)
               have e2 := i_eq (c := d) (m := 9) (by omega)
               go_wp2_with fail
               go_roundw
               case rel => exact ⟨f + 1, by omega, by omega, by go_num, trivial, HA2⟩
               case measure => simp [RowKit.intOf]; omega
           · have hw' : d.toNat ≠ 32 ∧ d.toNat ≠ 9 := by
               constructor
               · intro h; exact hw (decide_eq_true (.inl h))
               · intro h; exact hw (decide_eq_true (.inr h))
             have e1 := i_ne (c := d) (m := 32) (by omega)
             have e2 := i_ne (c := d) (m := 9) (by omega)
             have HF : HidL (∀ t, f ≤ t → t ≤ s.size → f = t ∨ ∃ h : f < L.length, wsB L[f] = false) := ⟨fun _ _ _ => .inr ⟨hfL, by rw [hdl]; simpa using hw⟩⟩
             clear hdl hfL hw hw'
             go_wp2_with fail
             go_loopw [6] (fun i wr => ∃ t : Nat, f ≤ t ∧ t ≤ s.size ∧ i = .int .i64 t ∧ W0 = wr ∧ HidL (∀ c ∈ L.drop t, wsB c = true)) (fun i _ => (RowKit.intOf i).toNat)
             case atStart => exact ⟨s.size, hf2, Nat.le_refl _, rfl, rfl, ⟨by rw [List.drop_of_length_le (by rw [HN.out]; exact Nat.le_refl _)]; intro c h; cases h⟩⟩
             case round =>
               obtain ⟨t, ht1, ht2, rfl, rfl, HB⟩ := hrel
               by_cases hft : f < t
               · have hft' : (f : Int) < (t : Int) := by omega
                 have wt : IntKind.i64.wrap ((t : Int) - 1) = ((t - 1 : Nat) : Int) := by rw [IntWalk.i64_in _ (by omega)]; omega
                 have htn : t - 1 < s.size := by omega
                 obtain ⟨e, he⟩ : ∃ e, s[t - 1] = e := ⟨_, rfl⟩
                 have htl : t - 1 < L.length := by rw [HN.out]; exact htn
                 have hel : L[t - 1] = e := by have := HG.out (t - 1) htn; rw [he] at this; rw [this]; simp [List.getD, htl]
                 by_cases hw : wsB e = true
                 · have hn : ∀ c ∈ L.drop (t - 1), wsB c = true := by
                     rw [List.drop_eq_getElem_cons htl, hel, show t - 1 + 1 = t by omega]
                     intro c hc
                     rcases List.mem_cons.1 hc with h | h
                     · rw [h]; exact hw
                     · exact HB.out c h
                   have HB2 := hideL hn
                   have hw' : e.toNat = 32 ∨ e.toNat = 9 := of_decide_eq_true hw
                   clear hn hel htl HB hw
                   rcases hw' with h | h
                   · have e1 := i_eq (c := e) (m := 32) (by omega)
                     go_wp2_with fail
                     go_roundw
                     case rel => exact ⟨t - 1, by omega, by omega, by first | rfl | go_num, trivial, HB2⟩
                     case measure => simp [RowKit.intOf]; omega
                   · have e1 := i_ne (c := e) (m := 32) (by omega)
                     have e2 := i_eq (c := e) (m := 9) (by omega)
                     go_wp2_with fail
                     go_roundw
                     case rel => exact ⟨t - 1, by omega, by omega, by first | rfl | go_num, trivial, HB2⟩
                     case measure => simp [RowKit.intOf]; omega
                 · have hw' : e.toNat ≠ 32 ∧ e.toNat ≠ 9 := by
                     constructor
                     · intro h; exact hw (decide_eq_true (.inl h))
                     · intro h; exact hw (decide_eq_true (.inr h))
                   have e1 := i_ne (c := e) (m := 32) (by omega)
                   have e2 := i_ne (c := e) (m := 9) (by omega)
                   have HT : HidL (f = t ∨ ∃ h : t - 1 < L.length, wsB L[t - 1] = false) := ⟨.inr ⟨htl, by rw [hel]; simpa using hw⟩⟩
                   clear hel htl hw hw'
                   go_wp2_with fail
                   have hv := trim_mid (l := L) (k := k) hf1 ht1 (by rw [HN.out]; exact ht2) HA.out HB.out (HF.out t ht1 ht2) HT.out
                   have hR3 := HR2.out
                   rw [hv] at hR3
                   have hn1 : (s.extract 0 k).data.toList = L.take k := by rw [ex_list, HLL.out, List.drop_zero, Nat.sub_zero]
                   have hv1 : s.extract f t = bo ((L.drop f).take (t - f)) := by
                     apply bytes_ext
                     rw [ex_list, HLL.out]
                     rfl
                   have z1 : (L.take k).length ≤ 1000000 := by rw [List.length_take]; omega
                   have z2 : ((L.drop f).take (t - f)).length ≤ 1000000 := by rw [List.length_take]; omega
                   have LS := hideL (fun W => smallR_any (s.extract 0 k) (by rw [← size_list, hn1]; exact z1) W)
                   have LG := hideL (fun W => good_any ⟨bo ((L.take k).map smB), bo ((L.drop f).take (t - f))⟩ ⟨by rw [bo_size, List.length_map]; exact z1, by rw [bo_size]; exact z2⟩ W)
                   rw [hn1] at LS
                   rw [goodP_bo] at LG
                   simp only [hdV] at LG
                   rw [← hv1] at LG
                   have HV1 := hideL hv1
                   generalize (L.take k).map smB = SN at *
                   generalize (L.drop f).take (t - f) = SV at *
                   generalize (nameP SN && valP SV) = G at *
                   have HR4 := hideL hR3
                   have q1 : (k : Int) ≤ (s.size : Int) := by omega
                   have q2 : (f : Int) ≤ (t : Int) := by omega
                   have q3 : (t : Int) ≤ (s.size : Int) := by omega
                   clear hR3 hv hn1 hv1 z1 z2 HR2 HA HB HF HT HD HG
                   have HBR0 := hideL ((Below.refl W0.heap.size W0).drew)
                   go_cut [7] (fun s7 W' => ∃ gk, s7 = .pointer (some ⟨gk, 0, none⟩) ∧ W0.heap.size ≤ gk ∧ HBox W' gk (bo SN) (s.extract f t) ∧ Below W0.heap.size W0 W')
                   case first =>
                     refine wp_region_held_drew (S := fun w' => Below W0.heap.size W0 w') (by kernel_rfl) ((Below.refl _ _).drew) (fun hHeld => ?_)
                     refine tl 0 rfl hHeld ?_
                     try simp only [pA, pB, pC, pD]
                     refine tl 1 rfl hHeld ?_
                     try simp only [pA, pB, pC, pD]
                     refine tl 2 rfl hHeld ?_
                     try simp only [pA, pB, pC, pD]
                     refine tl 4 rfl hHeld ?_
                     try simp only [pA, pB, pC, pD]
                     refine tl 5 rfl hHeld ?_
                     try simp only [pA, pB, pC, pD]
                     refine tl 6 rfl hHeld ?_
                     try simp only [pA, pB, pC, pD]
                     refine tl 7 rfl hHeld ?_
                     try simp only [pA, pB, pC, pD]
                     refine wpAnyH_ready (rs := [3, 9]) (by kernel_rfl) (by simp) ?_
                     refine AllReadyH.cons (o := ⟨_, _, _, _, _, _⟩) rfl (fun K hK => ?_) (AllReadyH.cons (o := ⟨_, _, _, _, _, _⟩) rfl (fun K hK => ?_) AllReadyH.nil)
                     · clear hHeld
                       go_simp
                       refine (LS.out _).mono ?_
                       rintro e V1 ⟨rfl, hB⟩
                       have HBR1 := hideL (HBR0.out.trans (hB.mono HBR0.out.size))
                       clear hB LS
                       refine hK.out _ _ (HBR1.out) (fun hHeld => ?_)
                       clear hK K
                       try simp only [pA, pB, pC, pD]
                       refine tl 8 rfl hHeld ?_
                       try simp only [pA, pB, pC, pD]
                       refine wpAnyH_ready (rs := [9]) (by kernel_rfl) (by simp) ?_
                       refine aC rfl (fun K hK => ?_)
                       clear hHeld
                       rw [if_pos (by rfl)]
                       refine wp_alloc_h rfl ?_
                       have HK2 := hideL (HBox.new (V1) (⟨#[]⟩ : ByteArray) (⟨#[]⟩ : ByteArray))
                       have HBR2 := hideL (HBR1.out.alloc HBR1.out.size (.cells #[.string (⟨#[]⟩ : ByteArray), .string (⟨#[]⟩ : ByteArray)] 83))
                       have HGE := hideL (show W0.heap.size ≤ (V1).heap.size from HBR1.out.size)
                       obtain ⟨gk, hgk⟩ : ∃ gk, gk = (V1).heap.size := ⟨_, rfl⟩
                       rw [← hgk] at HK2 HGE ⊢
                       clear hgk
                       obtain ⟨V2, hVn⟩ : ∃ x, x = (V1).alloc (.cells #[.string (⟨#[]⟩ : ByteArray), .string (⟨#[]⟩ : ByteArray)] 83) := ⟨_, rfl⟩
                       rw [← hVn] at HK2 HBR2 ⊢
                       clear hVn
                       refine hK.out _ _ (HBR2.out) (fun hHeld => ?_)
                       clear hK K
                       try simp only [pA, pB, pC, pD]
                       refine wpAnyH_ready (rs := [10]) (by kernel_rfl) (by simp) ?_
                       refine aC rfl (fun K hK => ?_)
                       clear hHeld
                       rw [if_pos (by rfl)]
                       refine wp_store_row _ _ _ rfl gk #[.string (bo SN), .string (s.extract f t)] rfl rfl _ _ HK2.out sizeH rfl (oneH _ _) ?_
                       have HK3 := hideL (HK2.out.put (bo SN) (s.extract f t))
                       have HBR3 := hideL (below_setRow HBR2.out (Nat.le_trans (Nat.le_refl _) HGE.out) #[.string (bo SN), .string (s.extract f t)])
                       refine hK.out _ _ (HBR3.out) (fun hHeld => ?_)
                       clear hK K
                       try simp only [Act.put]
                       refine wpAnyH_done (by kernel_rfl) ?_ _
                       clear hHeld
                       go_wp2_with fail
                       go_meet
                       case rel => exact ⟨gk, rfl, HGE.out, HK3.out, HBR3.out⟩
                     · clear hHeld
                       rw [if_pos (by rfl)]
                       refine wp_alloc_h rfl ?_
                       have HK1 := hideL (HBox.new (W0.drew) (⟨#[]⟩ : ByteArray) (⟨#[]⟩ : ByteArray))
                       have HBR1 := hideL (HBR0.out.alloc HBR0.out.size (.cells #[.string (⟨#[]⟩ : ByteArray), .string (⟨#[]⟩ : ByteArray)] 83))
                       have HGE := hideL (show W0.heap.size ≤ (W0.drew).heap.size from HBR0.out.size)
                       obtain ⟨gk, hgk⟩ : ∃ gk, gk = (W0.drew).heap.size := ⟨_, rfl⟩
                       rw [← hgk] at HK1 HGE ⊢
                       clear hgk
                       obtain ⟨V1, hVn⟩ : ∃ x, x = (W0.drew).alloc (.cells #[.string (⟨#[]⟩ : ByteArray), .string (⟨#[]⟩ : ByteArray)] 83) := ⟨_, rfl⟩
                       rw [← hVn] at HK1 HBR1 ⊢
                       clear hVn
                       refine hK.out _ _ (HBR1.out) (fun hHeld => ?_)
                       clear hK K
                       try simp only [pA, pB, pC, pD]
                       refine wpAnyH_ready (rs := [3]) (by kernel_rfl) (by simp) ?_
                       refine aC rfl (fun K hK => ?_)
                       clear hHeld
                       go_simp
                       refine (LS.out _).mono ?_
                       rintro e V2 ⟨rfl, hB⟩
                       have HBR2 := hideL (HBR1.out.trans (hB.mono HBR1.out.size))
                       have HK2 := hideL (HK1.out.next hB)
                       clear hB LS
                       refine hK.out _ _ (HBR2.out) (fun hHeld => ?_)
                       clear hK K
                       try simp only [pA, pB, pC, pD]
                       refine tl 8 rfl hHeld ?_
                       try simp only [pA, pB, pC, pD]
                       refine wpAnyH_ready (rs := [10]) (by kernel_rfl) (by simp) ?_
                       refine aC rfl (fun K hK => ?_)
                       clear hHeld
                       rw [if_pos (by rfl)]
                       refine wp_store_row _ _ _ rfl gk #[.string (bo SN), .string (s.extract f t)] rfl rfl _ _ HK2.out sizeH rfl (oneH _ _) ?_
                       have HK3 := hideL (HK2.out.put (bo SN) (s.extract f t))
                       have HBR3 := hideL (below_setRow HBR2.out (Nat.le_trans (Nat.le_refl _) HGE.out) #[.string (bo SN), .string (s.extract f t)])
                       refine hK.out _ _ (HBR3.out) (fun hHeld => ?_)
                       clear hK K
                       try simp only [Act.put]
                       refine wpAnyH_done (by kernel_rfl) ?_ _
                       clear hHeld
                       go_wp2_with fail
                       go_meet
                       case rel => exact ⟨gk, rfl, HGE.out, HK3.out, HBR3.out⟩
                   case rest =>
                     obtain ⟨gk, rfl, hge, hkk, hbb⟩ := hcut
                     obtain ⟨W1, rfl⟩ : ∃ W1, W1 = wc := ⟨_, rfl⟩
                     have HX8 := hideL (HX.out.next hbb)
                     have HB8 := hideL (HB0.out.trans (hbb.mono HB0.out.size))
                     have HK8 := hideL hkk
                     have k0 := HK8.out.c0
                     have k1 := HK8.out.c1
                     clear hge hkk hbb HBR0 LS
                     cases G
                     · have hR5 := HR4.out
                       rw [if_neg (by decide)] at hR5
                       subst hR5
                       clear HR4
                       go_wp2_with (go_at_call 102; refine (LG.out _).mono ?_; rintro e9 w9 ⟨rfl, hB9⟩; have HX9 := hideL (HX8.out.next hB9); have HB9 := hideL (HB8.out.trans (hB9.mono HB8.out.size)); have HK9 := hideL (HK8.out.next hB9); have m0 := HX9.out.frozen 0; have m1 := HX9.out.frozen 1; have n0 := HX9.out.c0; have n1 := HX9.out.c1; have o0 := HK9.out.c0; have o1 := HK9.out.c1; clear hB9)
                       have HXF := hideL (HX9.out.st (⟨#[]⟩ : ByteArray) (⟨#[]⟩ : ByteArray))
                       have HBF := hideL ((HB9.out.setCell (p := ⟨w.heap.size, 0, none⟩) (Nat.le_refl _) (.string (⟨#[]⟩ : ByteArray))).setCell (p := ⟨w.heap.size, 1, none⟩) (Nat.le_refl _) (.string (⟨#[]⟩ : ByteArray)))
                       clear m0 m1 n0 n1 o0 o1 k0 k1 LG
                       generalize (World.setCell (World.setCell w9 ⟨w.heap.size, 0, none⟩ (.string (⟨#[]⟩ : ByteArray))) ⟨w.heap.size, 1, none⟩ (.string (⟨#[]⟩ : ByteArray))) = WF at *
                       have r0 := HXF.out.c0
                       have r1 := HXF.out.c1
                       exact bodyPost_ret (v := readA (2, [], [])) (by simp [results, Tryz.results115, go_sem, r0, r1]; rfl) rfl ⟨rfl, HBF.out⟩
                     · have hR5 := HR4.out
                       rw [if_pos rfl] at hR5
                       subst hR5
                       clear HR4
                       go_wp2_with (go_at_call 102; refine (LG.out _).mono ?_; rintro e9 w9 ⟨rfl, hB9⟩; have HX9 := hideL (HX8.out.next hB9); have HB9 := hideL (HB8.out.trans (hB9.mono HB8.out.size)); have HK9 := hideL (HK8.out.next hB9); have m0 := HX9.out.frozen 0; have m1 := HX9.out.frozen 1; have n0 := HX9.out.c0; have n1 := HX9.out.c1; have o0 := HK9.out.c0; have o1 := HK9.out.c1; clear hB9)
                       have HXF := hideL (HX9.out.st (bo SN) (s.extract f t))
                       have HBF := hideL ((HB9.out.setCell (p := ⟨w.heap.size, 0, none⟩) (Nat.le_refl _) (.string (bo SN))).setCell (p := ⟨w.heap.size, 1, none⟩) (Nat.le_refl _) (.string (s.extract f t)))
                       clear m0 m1 n0 n1 o0 o1 k0 k1 LG
                       generalize (World.setCell (World.setCell w9 ⟨w.heap.size, 0, none⟩ (.string (bo SN))) ⟨w.heap.size, 1, none⟩ (.string (s.extract f t))) = WF at *
                       have r0 := HXF.out.c0
                       have r1 := HXF.out.c1
                       rw [HV1.out] at r1
                       exact bodyPost_ret (v := readA (0, SN, SV)) (by simp [results, Tryz.results115, go_sem, r0, r1]; rfl) rfl ⟨rfl, HBF.out⟩
               · have hft' : ¬ (f : Int) < (t : Int) := by omega
                 have HT : HidL (f = t ∨ ∃ h : t - 1 < L.length, wsB L[t - 1] = false) := ⟨.inl (by omega)⟩
                 clear hft
                 go_wp2_with fail
                 have hv := trim_mid (l := L) (k := k) hf1 ht1 (by rw [HN.out]; exact ht2) HA.out HB.out (HF.out t ht1 ht2) HT.out
                 have hR3 := HR2.out
                 rw [hv] at hR3
                 have hn1 : (s.extract 0 k).data.toList = L.take k := by rw [ex_list, HLL.out, List.drop_zero, Nat.sub_zero]
                 have hv1 : s.extract f t = bo ((L.drop f).take (t - f)) := by
                   apply bytes_ext
                   rw [ex_list, HLL.out]
                   rfl
                 have z1 : (L.take k).length ≤ 1000000 := by rw [List.length_take]; omega
                 have z2 : ((L.drop f).take (t - f)).length ≤ 1000000 := by rw [List.length_take]; omega
                 have LS := hideL (fun W => smallR_any (s.extract 0 k) (by rw [← size_list, hn1]; exact z1) W)
                 have LG := hideL (fun W => good_any ⟨bo ((L.take k).map smB), bo ((L.drop f).take (t - f))⟩ ⟨by rw [bo_size, List.length_map]; exact z1, by rw [bo_size]; exact z2⟩ W)
                 rw [hn1] at LS
                 rw [goodP_bo] at LG
                 simp only [hdV] at LG
                 rw [← hv1] at LG
                 have HV1 := hideL hv1
                 generalize (L.take k).map smB = SN at *
                 generalize (L.drop f).take (t - f) = SV at *
                 generalize (nameP SN && valP SV) = G at *
                 have HR4 := hideL hR3
                 have q1 : (k : Int) ≤ (s.size : Int) := by omega
                 have q2 : (f : Int) ≤ (t : Int) := by omega
                 have q3 : (t : Int) ≤ (s.size : Int) := by omega
                 clear hR3 hv hn1 hv1 z1 z2 HR2 HA HB HF HT HD HG
                 have HBR0 := hideL ((Below.refl W0.heap.size W0).drew)
                 go_cut [7] (fun s7 W' => ∃ gk, s7 = .pointer (some ⟨gk, 0, none⟩) ∧ W0.heap.size ≤ gk ∧ HBox W' gk (bo SN) (s.extract f t) ∧ Below W0.heap.size W0 W')
                 case first =>
                   refine wp_region_held_drew (S := fun w' => Below W0.heap.size W0 w') (by kernel_rfl) ((Below.refl _ _).drew) (fun hHeld => ?_)
                   refine tl 0 rfl hHeld ?_
                   try simp only [pA, pB, pC, pD]
                   refine tl 1 rfl hHeld ?_
                   try simp only [pA, pB, pC, pD]
                   refine tl 2 rfl hHeld ?_
                   try simp only [pA, pB, pC, pD]
                   refine tl 4 rfl hHeld ?_
                   try simp only [pA, pB, pC, pD]
                   refine tl 5 rfl hHeld ?_
                   try simp only [pA, pB, pC, pD]
                   refine tl 6 rfl hHeld ?_
                   try simp only [pA, pB, pC, pD]
                   refine tl 7 rfl hHeld ?_
                   try simp only [pA, pB, pC, pD]
                   refine wpAnyH_ready (rs := [3, 9]) (by kernel_rfl) (by simp) ?_
                   refine AllReadyH.cons (o := ⟨_, _, _, _, _, _⟩) rfl (fun K hK => ?_) (AllReadyH.cons (o := ⟨_, _, _, _, _, _⟩) rfl (fun K hK => ?_) AllReadyH.nil)
                   · clear hHeld
                     go_simp
                     refine (LS.out _).mono ?_
                     rintro e V1 ⟨rfl, hB⟩
                     have HBR1 := hideL (HBR0.out.trans (hB.mono HBR0.out.size))
                     clear hB LS
                     refine hK.out _ _ (HBR1.out) (fun hHeld => ?_)
                     clear hK K
                     try simp only [pA, pB, pC, pD]
                     refine tl 8 rfl hHeld ?_
                     try simp only [pA, pB, pC, pD]
                     refine wpAnyH_ready (rs := [9]) (by kernel_rfl) (by simp) ?_
                     refine aC rfl (fun K hK => ?_)
                     clear hHeld
                     rw [if_pos (by rfl)]
                     refine wp_alloc_h rfl ?_
                     have HK2 := hideL (HBox.new (V1) (⟨#[]⟩ : ByteArray) (⟨#[]⟩ : ByteArray))
                     have HBR2 := hideL (HBR1.out.alloc HBR1.out.size (.cells #[.string (⟨#[]⟩ : ByteArray), .string (⟨#[]⟩ : ByteArray)] 83))
                     have HGE := hideL (show W0.heap.size ≤ (V1).heap.size from HBR1.out.size)
                     obtain ⟨gk, hgk⟩ : ∃ gk, gk = (V1).heap.size := ⟨_, rfl⟩
                     rw [← hgk] at HK2 HGE ⊢
                     clear hgk
                     obtain ⟨V2, hVn⟩ : ∃ x, x = (V1).alloc (.cells #[.string (⟨#[]⟩ : ByteArray), .string (⟨#[]⟩ : ByteArray)] 83) := ⟨_, rfl⟩
                     rw [← hVn] at HK2 HBR2 ⊢
                     clear hVn
                     refine hK.out _ _ (HBR2.out) (fun hHeld => ?_)
                     clear hK K
                     try simp only [pA, pB, pC, pD]
                     refine wpAnyH_ready (rs := [10]) (by kernel_rfl) (by simp) ?_
                     refine aC rfl (fun K hK => ?_)
                     clear hHeld
                     rw [if_pos (by rfl)]
                     refine wp_store_row _ _ _ rfl gk #[.string (bo SN), .string (s.extract f t)] rfl rfl _ _ HK2.out sizeH rfl (oneH _ _) ?_
                     have HK3 := hideL (HK2.out.put (bo SN) (s.extract f t))
                     have HBR3 := hideL (below_setRow HBR2.out (Nat.le_trans (Nat.le_refl _) HGE.out) #[.string (bo SN), .string (s.extract f t)])
                     refine hK.out _ _ (HBR3.out) (fun hHeld => ?_)
                     clear hK K
                     try simp only [Act.put]
                     refine wpAnyH_done (by kernel_rfl) ?_ _
                     clear hHeld
                     go_wp2_with fail
                     go_meet
                     case rel => exact ⟨gk, rfl, HGE.out, HK3.out, HBR3.out⟩
                   · clear hHeld
                     rw [if_pos (by rfl)]
                     refine wp_alloc_h rfl ?_
                     have HK1 := hideL (HBox.new (W0.drew) (⟨#[]⟩ : ByteArray) (⟨#[]⟩ : ByteArray))
                     have HBR1 := hideL (HBR0.out.alloc HBR0.out.size (.cells #[.string (⟨#[]⟩ : ByteArray), .string (⟨#[]⟩ : ByteArray)] 83))
                     have HGE := hideL (show W0.heap.size ≤ (W0.drew).heap.size from HBR0.out.size)
                     obtain ⟨gk, hgk⟩ : ∃ gk, gk = (W0.drew).heap.size := ⟨_, rfl⟩
                     rw [← hgk] at HK1 HGE ⊢
                     clear hgk
                     obtain ⟨V1, hVn⟩ : ∃ x, x = (W0.drew).alloc (.cells #[.string (⟨#[]⟩ : ByteArray), .string (⟨#[]⟩ : ByteArray)] 83) := ⟨_, rfl⟩
                     rw [← hVn] at HK1 HBR1 ⊢
                     clear hVn
                     refine hK.out _ _ (HBR1.out) (fun hHeld => ?_)
                     clear hK K
                     try simp only [pA, pB, pC, pD]
                     refine wpAnyH_ready (rs := [3]) (by kernel_rfl) (by simp) ?_
                     refine aC rfl (fun K hK => ?_)
                     clear hHeld
                     go_simp
                     refine (LS.out _).mono ?_
                     rintro e V2 ⟨rfl, hB⟩
                     have HBR2 := hideL (HBR1.out.trans (hB.mono HBR1.out.size))
                     have HK2 := hideL (HK1.out.next hB)
                     clear hB LS
                     refine hK.out _ _ (HBR2.out) (fun hHeld => ?_)
                     clear hK K
                     try simp only [pA, pB, pC, pD]
                     refine tl 8 rfl hHeld ?_
                     try simp only [pA, pB, pC, pD]
                     refine wpAnyH_ready (rs := [10]) (by kernel_rfl) (by simp) ?_
                     refine aC rfl (fun K hK => ?_)
                     clear hHeld
                     rw [if_pos (by rfl)]
                     refine wp_store_row _ _ _ rfl gk #[.string (bo SN), .string (s.extract f t)] rfl rfl _ _ HK2.out sizeH rfl (oneH _ _) ?_
                     have HK3 := hideL (HK2.out.put (bo SN) (s.extract f t))
                     have HBR3 := hideL (below_setRow HBR2.out (Nat.le_trans (Nat.le_refl _) HGE.out) #[.string (bo SN), .string (s.extract f t)])
                     refine hK.out _ _ (HBR3.out) (fun hHeld => ?_)
                     clear hK K
                     try simp only [Act.put]
                     refine wpAnyH_done (by kernel_rfl) ?_ _
                     clear hHeld
                     go_wp2_with fail
                     go_meet
                     case rel => exact ⟨gk, rfl, HGE.out, HK3.out, HBR3.out⟩
                 case rest =>
                   obtain ⟨gk, rfl, hge, hkk, hbb⟩ := hcut
                   obtain ⟨W1, rfl⟩ : ∃ W1, W1 = wc := ⟨_, rfl⟩
                   have HX8 := hideL (HX.out.next hbb)
                   have HB8 := hideL (HB0.out.trans (hbb.mono HB0.out.size))
                   have HK8 := hideL hkk
                   have k0 := HK8.out.c0
                   have k1 := HK8.out.c1
                   clear hge hkk hbb HBR0 LS
                   cases G
                   · have hR5 := HR4.out
                     rw [if_neg (by decide)] at hR5
                     subst hR5
                     clear HR4
                     go_wp2_with (go_at_call 102; refine (LG.out _).mono ?_; rintro e9 w9 ⟨rfl, hB9⟩; have HX9 := hideL (HX8.out.next hB9); have HB9 := hideL (HB8.out.trans (hB9.mono HB8.out.size)); have HK9 := hideL (HK8.out.next hB9); have m0 := HX9.out.frozen 0; have m1 := HX9.out.frozen 1; have n0 := HX9.out.c0; have n1 := HX9.out.c1; have o0 := HK9.out.c0; have o1 := HK9.out.c1; clear hB9)
                     have HXF := hideL (HX9.out.st (⟨#[]⟩ : ByteArray) (⟨#[]⟩ : ByteArray))
                     have HBF := hideL ((HB9.out.setCell (p := ⟨w.heap.size, 0, none⟩) (Nat.le_refl _) (.string (⟨#[]⟩ : ByteArray))).setCell (p := ⟨w.heap.size, 1, none⟩) (Nat.le_refl _) (.string (⟨#[]⟩ : ByteArray)))
                     clear m0 m1 n0 n1 o0 o1 k0 k1 LG
                     generalize (World.setCell (World.setCell w9 ⟨w.heap.size, 0, none⟩ (.string (⟨#[]⟩ : ByteArray))) ⟨w.heap.size, 1, none⟩ (.string (⟨#[]⟩ : ByteArray))) = WF at *
                     have r0 := HXF.out.c0
                     have r1 := HXF.out.c1
                     exact bodyPost_ret (v := readA (2, [], [])) (by simp [results, Tryz.results115, go_sem, r0, r1]; rfl) rfl ⟨rfl, HBF.out⟩
                   · have hR5 := HR4.out
                     rw [if_pos rfl] at hR5
                     subst hR5
                     clear HR4
                     go_wp2_with (go_at_call 102; refine (LG.out _).mono ?_; rintro e9 w9 ⟨rfl, hB9⟩; have HX9 := hideL (HX8.out.next hB9); have HB9 := hideL (HB8.out.trans (hB9.mono HB8.out.size)); have HK9 := hideL (HK8.out.next hB9); have m0 := HX9.out.frozen 0; have m1 := HX9.out.frozen 1; have n0 := HX9.out.c0; have n1 := HX9.out.c1; have o0 := HK9.out.c0; have o1 := HK9.out.c1; clear hB9)
                     have HXF := hideL (HX9.out.st (bo SN) (s.extract f t))
                     have HBF := hideL ((HB9.out.setCell (p := ⟨w.heap.size, 0, none⟩) (Nat.le_refl _) (.string (bo SN))).setCell (p := ⟨w.heap.size, 1, none⟩) (Nat.le_refl _) (.string (s.extract f t)))
                     clear m0 m1 n0 n1 o0 o1 k0 k1 LG
                     generalize (World.setCell (World.setCell w9 ⟨w.heap.size, 0, none⟩ (.string (bo SN))) ⟨w.heap.size, 1, none⟩ (.string (s.extract f t))) = WF at *
                     have r0 := HXF.out.c0
                     have r1 := HXF.out.c1
                     rw [HV1.out] at r1
                     exact bodyPost_ret (v := readA (0, SN, SV)) (by simp [results, Tryz.results115, go_sem, r0, r1]; rfl) rfl ⟨rfl, HBF.out⟩
         · have hfl' : ¬ (f : Int) < (s.size : Int) := by omega
           have HF : HidL (∀ t, f ≤ t → t ≤ s.size → f = t ∨ ∃ h : f < L.length, wsB L[f] = false) := ⟨fun _ h1 h2 => .inl (by omega)⟩
           have HFE := hideL (show s.size ≤ f by omega)
           clear hfl
           go_wp2_with fail
           go_loopw [6] (fun i wr => ∃ t : Nat, f ≤ t ∧ t ≤ s.size ∧ i = .int .i64 t ∧ W0 = wr) (fun i _ => (RowKit.intOf i).toNat)
           case atStart => exact ⟨s.size, hf2, Nat.le_refl _, rfl, rfl⟩
           case round =>
             obtain ⟨t, ht1, ht2, rfl, rfl⟩ := hrel
             have hft' : ¬ (f : Int) < (t : Int) := by have := HFE.out; omega
             have HT : HidL (f = t ∨ ∃ h : t - 1 < L.length, wsB L[t - 1] = false) := ⟨.inl (by have := HFE.out; omega)⟩
             have HB : HidL (∀ c ∈ L.drop t, wsB c = true) := ⟨by rw [List.drop_of_length_le (by rw [HN.out]; have := HFE.out; omega)]; intro c h; cases h⟩
             clear HFE
             go_wp2_with fail
             have hv := trim_mid (l := L) (k := k) hf1 ht1 (by rw [HN.out]; exact ht2) HA.out HB.out (HF.out t ht1 ht2) HT.out
             have hR3 := HR2.out
             rw [hv] at hR3
             have hn1 : (s.extract 0 k).data.toList = L.take k := by rw [ex_list, HLL.out, List.drop_zero, Nat.sub_zero]
             have hv1 : s.extract f t = bo ((L.drop f).take (t - f)) := by
               apply bytes_ext
               rw [ex_list, HLL.out]
               rfl
             have z1 : (L.take k).length ≤ 1000000 := by rw [List.length_take]; omega
             have z2 : ((L.drop f).take (t - f)).length ≤ 1000000 := by rw [List.length_take]; omega
             have LS := hideL (fun W => smallR_any (s.extract 0 k) (by rw [← size_list, hn1]; exact z1) W)
             have LG := hideL (fun W => good_any ⟨bo ((L.take k).map smB), bo ((L.drop f).take (t - f))⟩ ⟨by rw [bo_size, List.length_map]; exact z1, by rw [bo_size]; exact z2⟩ W)
             rw [hn1] at LS
             rw [goodP_bo] at LG
             simp only [hdV] at LG
             rw [← hv1] at LG
             have HV1 := hideL hv1
             generalize (L.take k).map smB = SN at *
             generalize (L.drop f).take (t - f) = SV at *
             generalize (nameP SN && valP SV) = G at *
             have HR4 := hideL hR3
             have q1 : (k : Int) ≤ (s.size : Int) := by omega
             have q2 : (f : Int) ≤ (t : Int) := by omega
             have q3 : (t : Int) ≤ (s.size : Int) := by omega
             clear hR3 hv hn1 hv1 z1 z2 HR2 HA HB HF HT HD HG
             have HBR0 := hideL ((Below.refl W0.heap.size W0).drew)
             go_cut [7] (fun s7 W' => ∃ gk, s7 = .pointer (some ⟨gk, 0, none⟩) ∧ W0.heap.size ≤ gk ∧ HBox W' gk (bo SN) (s.extract f t) ∧ Below W0.heap.size W0 W')
             case first =>
               refine wp_region_held_drew (S := fun w' => Below W0.heap.size W0 w') (by kernel_rfl) ((Below.refl _ _).drew) (fun hHeld => ?_)
               refine tl 0 rfl hHeld ?_
               try simp only [pA, pB, pC, pD]
               refine tl 1 rfl hHeld ?_
               try simp only [pA, pB, pC, pD]
               refine tl 2 rfl hHeld ?_
               try simp only [pA, pB, pC, pD]
               refine tl 4 rfl hHeld ?_
               try simp only [pA, pB, pC, pD]
               refine tl 5 rfl hHeld ?_
               try simp only [pA, pB, pC, pD]
               refine tl 6 rfl hHeld ?_
               try simp only [pA, pB, pC, pD]
               refine tl 7 rfl hHeld ?_
               try simp only [pA, pB, pC, pD]
               refine wpAnyH_ready (rs := [3, 9]) (by kernel_rfl) (by simp) ?_
               refine AllReadyH.cons (o := ⟨_, _, _, _, _, _⟩) rfl (fun K hK => ?_) (AllReadyH.cons (o := ⟨_, _, _, _, _, _⟩) rfl (fun K hK => ?_) AllReadyH.nil)
               · clear hHeld
                 go_simp
                 refine (LS.out _).mono ?_
                 rintro e V1 ⟨rfl, hB⟩
                 have HBR1 := hideL (HBR0.out.trans (hB.mono HBR0.out.size))
                 clear hB LS
                 refine hK.out _ _ (HBR1.out) (fun hHeld => ?_)
                 clear hK K
                 try simp only [pA, pB, pC, pD]
                 refine tl 8 rfl hHeld ?_
                 try simp only [pA, pB, pC, pD]
                 refine wpAnyH_ready (rs := [9]) (by kernel_rfl) (by simp) ?_
                 refine aC rfl (fun K hK => ?_)
                 clear hHeld
                 rw [if_pos (by rfl)]
                 refine wp_alloc_h rfl ?_
                 have HK2 := hideL (HBox.new (V1) (⟨#[]⟩ : ByteArray) (⟨#[]⟩ : ByteArray))
                 have HBR2 := hideL (HBR1.out.alloc HBR1.out.size (.cells #[.string (⟨#[]⟩ : ByteArray), .string (⟨#[]⟩ : ByteArray)] 83))
                 have HGE := hideL (show W0.heap.size ≤ (V1).heap.size from HBR1.out.size)
                 obtain ⟨gk, hgk⟩ : ∃ gk, gk = (V1).heap.size := ⟨_, rfl⟩
                 rw [← hgk] at HK2 HGE ⊢
                 clear hgk
                 obtain ⟨V2, hVn⟩ : ∃ x, x = (V1).alloc (.cells #[.string (⟨#[]⟩ : ByteArray), .string (⟨#[]⟩ : ByteArray)] 83) := ⟨_, rfl⟩
                 rw [← hVn] at HK2 HBR2 ⊢
                 clear hVn
                 refine hK.out _ _ (HBR2.out) (fun hHeld => ?_)
                 clear hK K
                 try simp only [pA, pB, pC, pD]
                 refine wpAnyH_ready (rs := [10]) (by kernel_rfl) (by simp) ?_
                 refine aC rfl (fun K hK => ?_)
                 clear hHeld
                 rw [if_pos (by rfl)]
                 refine wp_store_row _ _ _ rfl gk #[.string (bo SN), .string (s.extract f t)] rfl rfl _ _ HK2.out sizeH rfl (oneH _ _) ?_
                 have HK3 := hideL (HK2.out.put (bo SN) (s.extract f t))
                 have HBR3 := hideL (below_setRow HBR2.out (Nat.le_trans (Nat.le_refl _) HGE.out) #[.string (bo SN), .string (s.extract f t)])
                 refine hK.out _ _ (HBR3.out) (fun hHeld => ?_)
                 clear hK K
                 try simp only [Act.put]
                 refine wpAnyH_done (by kernel_rfl) ?_ _
                 clear hHeld
                 go_wp2_with fail
                 go_meet
                 case rel => exact ⟨gk, rfl, HGE.out, HK3.out, HBR3.out⟩
               · clear hHeld
                 rw [if_pos (by rfl)]
                 refine wp_alloc_h rfl ?_
                 have HK1 := hideL (HBox.new (W0.drew) (⟨#[]⟩ : ByteArray) (⟨#[]⟩ : ByteArray))
                 have HBR1 := hideL (HBR0.out.alloc HBR0.out.size (.cells #[.string (⟨#[]⟩ : ByteArray), .string (⟨#[]⟩ : ByteArray)] 83))
                 have HGE := hideL (show W0.heap.size ≤ (W0.drew).heap.size from HBR0.out.size)
                 obtain ⟨gk, hgk⟩ : ∃ gk, gk = (W0.drew).heap.size := ⟨_, rfl⟩
                 rw [← hgk] at HK1 HGE ⊢
                 clear hgk
                 obtain ⟨V1, hVn⟩ : ∃ x, x = (W0.drew).alloc (.cells #[.string (⟨#[]⟩ : ByteArray), .string (⟨#[]⟩ : ByteArray)] 83) := ⟨_, rfl⟩
                 rw [← hVn] at HK1 HBR1 ⊢
                 clear hVn
                 refine hK.out _ _ (HBR1.out) (fun hHeld => ?_)
                 clear hK K
                 try simp only [pA, pB, pC, pD]
                 refine wpAnyH_ready (rs := [3]) (by kernel_rfl) (by simp) ?_
                 refine aC rfl (fun K hK => ?_)
                 clear hHeld
                 go_simp
                 refine (LS.out _).mono ?_
                 rintro e V2 ⟨rfl, hB⟩
                 have HBR2 := hideL (HBR1.out.trans (hB.mono HBR1.out.size))
                 have HK2 := hideL (HK1.out.next hB)
                 clear hB LS
                 refine hK.out _ _ (HBR2.out) (fun hHeld => ?_)
                 clear hK K
                 try simp only [pA, pB, pC, pD]
                 refine tl 8 rfl hHeld ?_
                 try simp only [pA, pB, pC, pD]
                 refine wpAnyH_ready (rs := [10]) (by kernel_rfl) (by simp) ?_
                 refine aC rfl (fun K hK => ?_)
                 clear hHeld
                 rw [if_pos (by rfl)]
                 refine wp_store_row _ _ _ rfl gk #[.string (bo SN), .string (s.extract f t)] rfl rfl _ _ HK2.out sizeH rfl (oneH _ _) ?_
                 have HK3 := hideL (HK2.out.put (bo SN) (s.extract f t))
                 have HBR3 := hideL (below_setRow HBR2.out (Nat.le_trans (Nat.le_refl _) HGE.out) #[.string (bo SN), .string (s.extract f t)])
                 refine hK.out _ _ (HBR3.out) (fun hHeld => ?_)
                 clear hK K
                 try simp only [Act.put]
                 refine wpAnyH_done (by kernel_rfl) ?_ _
                 clear hHeld
                 go_wp2_with fail
                 go_meet
                 case rel => exact ⟨gk, rfl, HGE.out, HK3.out, HBR3.out⟩
             case rest =>
               obtain ⟨gk, rfl, hge, hkk, hbb⟩ := hcut
               obtain ⟨W1, rfl⟩ : ∃ W1, W1 = wc := ⟨_, rfl⟩
               have HX8 := hideL (HX.out.next hbb)
               have HB8 := hideL (HB0.out.trans (hbb.mono HB0.out.size))
               have HK8 := hideL hkk
               have k0 := HK8.out.c0
               have k1 := HK8.out.c1
               clear hge hkk hbb HBR0 LS
               cases G
               · have hR5 := HR4.out
                 rw [if_neg (by decide)] at hR5
                 subst hR5
                 clear HR4
                 go_wp2_with (go_at_call 102; refine (LG.out _).mono ?_; rintro e9 w9 ⟨rfl, hB9⟩; have HX9 := hideL (HX8.out.next hB9); have HB9 := hideL (HB8.out.trans (hB9.mono HB8.out.size)); have HK9 := hideL (HK8.out.next hB9); have m0 := HX9.out.frozen 0; have m1 := HX9.out.frozen 1; have n0 := HX9.out.c0; have n1 := HX9.out.c1; have o0 := HK9.out.c0; have o1 := HK9.out.c1; clear hB9)
                 have HXF := hideL (HX9.out.st (⟨#[]⟩ : ByteArray) (⟨#[]⟩ : ByteArray))
                 have HBF := hideL ((HB9.out.setCell (p := ⟨w.heap.size, 0, none⟩) (Nat.le_refl _) (.string (⟨#[]⟩ : ByteArray))).setCell (p := ⟨w.heap.size, 1, none⟩) (Nat.le_refl _) (.string (⟨#[]⟩ : ByteArray)))
                 clear m0 m1 n0 n1 o0 o1 k0 k1 LG
                 generalize (World.setCell (World.setCell w9 ⟨w.heap.size, 0, none⟩ (.string (⟨#[]⟩ : ByteArray))) ⟨w.heap.size, 1, none⟩ (.string (⟨#[]⟩ : ByteArray))) = WF at *
                 have r0 := HXF.out.c0
                 have r1 := HXF.out.c1
                 exact bodyPost_ret (v := readA (2, [], [])) (by simp [results, Tryz.results115, go_sem, r0, r1]; rfl) rfl ⟨rfl, HBF.out⟩
               · have hR5 := HR4.out
                 rw [if_pos rfl] at hR5
                 subst hR5
                 clear HR4
                 go_wp2_with (go_at_call 102; refine (LG.out _).mono ?_; rintro e9 w9 ⟨rfl, hB9⟩; have HX9 := hideL (HX8.out.next hB9); have HB9 := hideL (HB8.out.trans (hB9.mono HB8.out.size)); have HK9 := hideL (HK8.out.next hB9); have m0 := HX9.out.frozen 0; have m1 := HX9.out.frozen 1; have n0 := HX9.out.c0; have n1 := HX9.out.c1; have o0 := HK9.out.c0; have o1 := HK9.out.c1; clear hB9)
                 have HXF := hideL (HX9.out.st (bo SN) (s.extract f t))
                 have HBF := hideL ((HB9.out.setCell (p := ⟨w.heap.size, 0, none⟩) (Nat.le_refl _) (.string (bo SN))).setCell (p := ⟨w.heap.size, 1, none⟩) (Nat.le_refl _) (.string (s.extract f t)))
                 clear m0 m1 n0 n1 o0 o1 k0 k1 LG
                 generalize (World.setCell (World.setCell w9 ⟨w.heap.size, 0, none⟩ (.string (bo SN))) ⟨w.heap.size, 1, none⟩ (.string (s.extract f t))) = WF at *
                 have r0 := HXF.out.c0
                 have r1 := HXF.out.c1
                 rw [HV1.out] at r1
                 exact bodyPost_ret (v := readA (0, SN, SV)) (by simp [results, Tryz.results115, go_sem, r0, r1]; rfl) rfl ⟨rfl, HBF.out⟩
     · have e58 := i_ne (c := c) (m := 58) (by omega)
       have hn : (58 : UInt8) ∉ L.take (k + 1) := by
         rw [take_snoc hkl, hcl, List.mem_append]
         rintro (h | h)
         · exact HD.out h
         · exact h58 (by rw [← List.mem_singleton.1 h]; rfl)
       have HD2 := hideL hn
       clear hn hcl hkl HD
       go_wp2_with fail
       go_roundw
       case rel => exact ⟨k + 1, by omega, by go_num, trivial, HD2⟩
       case measure => simp [RowKit.intOf]; omega
   · obtain rfl : k = s.size := by omega
     have hlt' : ¬ (s.size : Int) < (s.size : Int) := by omega
     have hc58 : (58 : UInt8) ∉ L := by
       have := HD.out
       rwa [List.take_of_length_le (by rw [HN.out]; exact Nat.le_refl _)] at this
     have hR := readP_none (s := L) (by rw [HN.out]; omega) hc58
     rw [HR.out] at hR
     subst hR
     have f0 := HX.out.frozen 0
     have f1 := HX.out.frozen 1
     have c0 := HX.out.c0
     have c1 := HX.out.c1
     clear hc58
     go_wp2_with fail
     have HXF := hideL (HX.out.st (⟨#[]⟩ : ByteArray) (⟨#[]⟩ : ByteArray))
     have HBF := hideL ((HB0.out.setCell (p := ⟨w.heap.size, 0, none⟩) (Nat.le_refl _) (.string (⟨#[]⟩ : ByteArray))).setCell (p := ⟨w.heap.size, 1, none⟩) (Nat.le_refl _) (.string (⟨#[]⟩ : ByteArray)))
     clear f0 f1 c0 c1
     generalize (World.setCell (World.setCell W0 ⟨w.heap.size, 0, none⟩ (.string (⟨#[]⟩ : ByteArray))) ⟨w.heap.size, 1, none⟩ (.string (⟨#[]⟩ : ByteArray))) = WF at *
     have r0 := HXF.out.c0
     have r1 := HXF.out.c1
     exact bodyPost_ret (v := readA (2, [], [])) (by simp [results, Tryz.results115, go_sem, r0, r1]; rfl) rfl ⟨rfl, HBF.out⟩
end Go.Proofs.YtafmgoekgijfgaaGreatDoor
