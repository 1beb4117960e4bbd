/- The document's Join, Same, Normal, Canon. -/
import Derived.Test.YtafmgoekgijfgaaGreatDoorFPhRefS
import Derived.Test.YtafmgoekgijfgaaGreatDoorFPhSaidR
import Derived.Test.YtafmgoekgijfgaaGreatDoorFPhNormal
import Derived.Deep.CutBlock
namespace Go.Proofs.YtafmgoekgijfgaaGreatDoor
open Go.RowKit

def flaP (l : List (List UInt8)) : List UInt8 := l.flatMap fun s => 47 :: s
theorem flaP_take {l : List (List UInt8)} {k : Nat} (h : k < l.length) : flaP (l.take (k + 1)) = flaP (l.take k) ++ 47 :: l[k] := by
 unfold flaP
 rw [List.take_add_one, List.getElem?_eq_getElem h, List.flatMap_append]
 simp
theorem flaP_le (l : List (List UInt8)) (k : Nat) : (flaP (l.take k)).length ≤ (flaP l).length := by
 unfold flaP
 conv => rhs; rw [← List.take_append_drop k l, List.flatMap_append, List.length_append]
 omega
set_option maxRecDepth 100000 in
set_option maxHeartbeats 1000000 in
theorem joinR_any (dir : Bool) (v : Value) (l : List (List UInt8)) (w : World) (hv : GAt KS w v (l.map bo)) (hn : l.length ≤ 1000000) (hl : (flaP l).length ≤ 1000000) : Calls Tryz.prog 87 #[.bool dir, v] w (fun e w' => e = .returned (.string (bo (joiP dir l))) ∧ Below w.heap.size w w') := by
 obtain ⟨ao, cap, rfl⟩ := hv.len
 rw [List.length_map] at hv ⊢
 obtain ⟨n, hnn⟩ : ∃ n, l.length = n := ⟨_, rfl⟩
 rw [hnn] at hv hn ⊢
 have HN := hideL hnn
 have HV := hideL hv
 have HL := hideL hl
 obtain ⟨J, hJ⟩ : ∃ J, joiP dir l = J := ⟨_, rfl⟩
 have hJ2 : J = flaP l ++ if n = 0 ∨ dir = true then [47] else [] := by
   rw [← hJ, ← hnn]
   unfold joiP flaP
   congr 1
   by_cases h : l = []
   · rw [if_pos (.inl h), if_pos (.inl (by rw [h]; rfl))]
   · have h' : l.length ≠ 0 := fun e => h (List.length_eq_zero_iff.1 e)
     cases dir
     · rw [if_neg (by rintro (e | e); exact h e; cases e), if_neg (by rintro (e | e); exact h' e; cases e)]
     · rw [if_pos (.inr rfl), if_pos (.inr rfl)]
 rw [hJ]
 have HJ := hideL hJ2
 clear hv hnn hl hJ hJ2
 go_enter Tryz.func87, Tryz.ntmps87
 go_wp2_with fail
 go_loopw [5, 6] (fun o i wr => ∃ k : Nat, i = .int .i64 k ∧ k ≤ n ∧ o = .string (bo (flaP (l.take k))) ∧ HidL (Below w.heap.size w wr)) (fun _ i _ => n - (intOf i).toNat)
 case atStart => exact ⟨0, rfl, Nat.zero_le _, rfl, ⟨Below.refl _ _⟩⟩
 case round =>
   obtain ⟨k, rfl, hk, rfl, HB⟩ := hrel
   obtain ⟨W, rfl⟩ : ∃ W, W = wr := ⟨_, rfl⟩
   have hfk := Nat.le_trans (flaP_le l k) HL.out
   by_cases hlt : k < n
   · have hlt' : (k : Int) < (n : Int) := by omega
     obtain ⟨b, o, hao, hbl, hcell⟩ := gat_text HV.out (k := k) hlt
     subst hao
     have hkl : k < l.length := by rw [HN.out]; exact hlt
     have hx : (l.map bo).getD k ByteArray.empty = bo l[k] := by simp [List.getD, hkl]
     rw [hx] at hcell
     have ht := flaP_take hkl
     have hf2 := Nat.le_trans (flaP_le l (k + 1)) HL.out
     rw [ht] at hf2
     have ht2 : bo (flaP (l.take k)) ++ ⟨#[47]⟩ ++ bo l[k] = bo (flaP (l.take (k + 1))) := by
       rw [ht, show (⟨#[47]⟩ : ByteArray) = bo [47] from rfl, cat_bo, cat_bo, List.append_assoc]; rfl
     have HT := hideL ht2
     generalize l[k] = x at *
     have c0 := (HB.out.cell (p := ⟨b, o + k, none⟩) hbl).trans hcell
     generalize flaP (l.take k) = F at *
     have z1 : ¬ 9223372036854775807 < (bo F).size + 1 := by rw [bo_size]; omega
     have z2 : ¬ 9223372036854775807 < (bo F).size + 1 + (bo x).size := by rw [bo_size, bo_size]; rw [List.length_append, List.length_cons] at hf2; omega
     clear hcell hx ht ht2 hf2
     go_wp2_with fail
     go_roundw
     case rel => exact ⟨k + 1, by go_num, by omega, by rw [HT.out], HB⟩
     case measure => simp [intOf]; omega
   · obtain rfl : k = n := by omega
     have hlt' : ¬ (k : Int) < (k : Int) := by omega
     rw [List.take_of_length_le (by rw [HN.out]; omega)] at hfk ⊢
     have hJ := HJ.out
     have z1 : ¬ 9223372036854775807 < (bo (flaP l)).size + 1 := by rw [bo_size]; omega
     have hcat : bo (flaP l) ++ ⟨#[47]⟩ = bo (flaP l ++ [47]) := cat_bo _ [47]
     generalize flaP l = F at *
     by_cases h0 : k = 0
     · rw [if_pos (.inl h0)] at hJ
       have i0 : ((k : Int) == 0) = true := by rw [h0]; rfl
       have HJC := hideL (show bo J = bo F ++ ⟨#[47]⟩ by rw [hJ]; exact hcat.symm)
       clear hJ hcat h0 HJ
       go_wp2_with fail
       go_ret
       exact ⟨by rw [HJC.out]; rfl, HB.out⟩
     · have i0 : ((k : Int) == 0) = false := beq_eq_false_iff_ne.2 (by omega)
       cases dir
       · rw [if_neg (by rintro (e | e); exact h0 e; cases e), List.append_nil] at hJ
         have HJC := hideL (show bo J = bo F by rw [hJ])
         clear hJ hcat h0 HJ
         go_wp2_with fail
         go_ret
         exact ⟨by rw [HJC.out]; rfl, HB.out⟩
       · rw [if_pos (.inr rfl)] at hJ
         have HJC := hideL (show bo J = bo F ++ ⟨#[47]⟩ by rw [hJ]; exact hcat.symm)
         clear hJ hcat h0 HJ
         go_wp2_with fail
         go_ret
         exact ⟨by rw [HJC.out]; rfl, HB.out⟩
def norRA : Option (List UInt8 × List UInt8) → Value
 | some (p, q) => .tuple #[.string (bo p), .string (bo q), .bool true]
 | none => .tuple #[.string ⟨#[]⟩, .string ⟨#[]⟩, .bool false]
theorem mayB_parts {L : List UInt8} (h : mayB L = true) : 1 ≤ L.length ∧ L.length ≤ 512 ∧ L.head? = some 47 ∧ mayT (askP L).1 = true ∧ mayT (askP L).2 = true := by
 unfold mayB at h
 simp only [Bool.and_eq_true, decide_eq_true_eq] at h
 obtain ⟨⟨⟨h1, h2⟩, h3⟩, h4⟩ := h
 refine ⟨h1, h2, h3, ?_⟩
 rcases ask_split L with ⟨_, e, _⟩ | ⟨_, e⟩
 · rw [e, mayT_app (c := 63) (by decide) (by decide) (by decide), Bool.and_eq_true] at h4
   exact h4
 · rw [e]
   exact ⟨h4, rfl⟩
theorem mayB_of {L : List UInt8} (h1 : L.length ≤ 512) (h2 : L.head? = some 47) (h3 : mayT (askP L).1 = true) (h4 : mayT (askP L).2 = true) : mayB L = true := by
 have hm : mayT L = true := by
   rcases ask_split L with ⟨_, e, _⟩ | ⟨_, e⟩
   · rw [e, mayT_app (c := 63) (by decide) (by decide) (by decide), h3, h4]; rfl
   · rw [e] at h3; exact h3
 have h0 : 1 ≤ L.length := by
   cases L with
   | nil => cases h2
   | cons _ _ => simp
 unfold mayB
 rw [hm, h2, decide_eq_true h0, decide_eq_true h1, decide_eq_true rfl]
 rfl
theorem norP_no {L : List UInt8} (h : mayB L = false) : norP L = none := by
 unfold norP
 rw [if_neg]
 rintro ⟨h1, h2, h3, h4⟩
 rw [mayB_of h1 h2 (mayT_of_sp _ h3) (mayT_of_sp _ h4)] at h
 cases h
theorem spP_head {bad : UInt8 → Bool} {p : List UInt8} (h : p.head? = some 47) : ∃ r, (spP bad p).1 = 47 :: r := by
 cases p with
 | nil => cases h
 | cons c r =>
   injection h with h
   subst h
   rw [spP_one (by decide) (by decide)]
   exact ⟨_, rfl⟩
theorem ask_head {L : List UInt8} (h : L.head? = some 47) : (askP L).1.head? = some 47 := by
 cases L with
 | nil => cases h
 | cons c r =>
   injection h with h
   subst h
   rw [askP, if_neg (by decide)]
   rfl
theorem ask_take {L : List UInt8} {k : Nat} (h : (63 : UInt8) ∉ L.take k) (hk : k < L.length) (hc : L[k] = 63) : askP L = (L.take k, L.drop (k + 1)) := by
 conv => lhs; rw [← List.take_append_drop k L, List.drop_eq_getElem_cons hk, hc]
 exact askP_hit _ _ h
set_option maxRecDepth 100000 in
set_option maxHeartbeats 2000000 in
theorem normalR_any (s : ByteArray) (hs : s.size ≤ 900000) (w : World) : Calls Tryz.prog 50 #[.string s] w fun e w' => e = .returned (norRA (norP s.data.toList)) ∧ Below w.heap.size w w' := by
 have hsz := size_list s
 have HM := hideL (mayR_any s (by omega) w)
 cases hm : mayB s.data.toList
 · rw [norP_no hm]
   rw [hm] at HM
   clear hm
   go_enter Tryz.func50, Tryz.ntmps50
   go_wp2_with (go_at_call 83; refine (HM.out).mono ?_; rintro e w2 ⟨rfl, hB2⟩)
   go_ret3
   exact ⟨rfl, hB2⟩
 · obtain ⟨h1, h2, h3, h4, h5⟩ := mayB_parts hm
   rw [hm] at HM
   have hask := askP_length s.data.toList
   have hhd := ask_head h3
   obtain ⟨p, hp⟩ : ∃ p, (askP s.data.toList).1 = p := ⟨_, rfl⟩
   obtain ⟨q, hq⟩ : ∃ q, (askP s.data.toList).2 = q := ⟨_, rfl⟩
   rw [hp] at h4 hask hhd
   rw [hq] at h5 hask
   have HPQ : HidL (askP s.data.toList = (p, q)) := ⟨by rw [← hp, ← hq]⟩
   have HSP := hideL (fun W : World => saidR_any (bo p) true (by rw [bo_size]; omega) h4 W)
   have HSQ := hideL (fun W : World => saidR_any (bo q) false (by rw [bo_size]; omega) h5 W)
   rw [bo_list, badB_t] at HSP
   rw [bo_list, badB_f] at HSQ
   have hy2 := sp_of_mayT q h5
   obtain ⟨r, hr⟩ := spP_head (bad := badR) hhd
   have hxl := spP_length (bad := badR) p
   obtain ⟨x, hx⟩ : ∃ x, spP badR p = x := ⟨_, rfl⟩
   obtain ⟨y, hy⟩ : ∃ y, spP nobad q = y := ⟨_, rfl⟩
   rw [hx] at HSP hr hxl
   rw [hy] at HSQ hy2
   obtain ⟨R, hR⟩ : ∃ R, norP s.data.toList = R := ⟨_, rfl⟩
   have hRR : R = if x.2 = true then (lefP [] (splP x.1)).map fun k => (joiP (dirP (splP x.1)) k, y.1) else none := by
     rw [← hR]
     unfold norP
     rw [hp, hq, hx, hy]
     by_cases h : x.2 = true
     · rw [if_pos h, if_pos ⟨by omega, h3, h, hy2⟩]
     · rw [if_neg h, if_neg (fun h' => h h'.2.2.1)]
   rw [hR]
   obtain ⟨x1, x2⟩ := x
   obtain ⟨y1, y2⟩ := y
   dsimp only at hr hy2 hxl hRR HSP HSQ
   subst hr hy2
   rw [if_pos rfl] at HSQ
   rw [splP_slash, lefP_skip (.inl rfl), show ([] : List UInt8) :: splP r = [[]] ++ splP r from rfl, dirP_app (splP_ne r)] at hRR
   have hrl : r.length ≤ 511 := by simp only [List.length_cons] at hxl; omega
   have HRR := hideL hRR
   clear hm h4 h5 hhd hp hq hx hy hR hRR hxl h3
   go_enter Tryz.func50, Tryz.ntmps50
   go_upto_block 0 with (go_at_call 83; refine (HM.out).mono ?_; rintro e w2 ⟨rfl, hB2⟩)
   go_cut [5, 6] (fun s5 s6 W' => s5 = .string (bo p) ∧ s6 = .string (bo q) ∧ HidL (Below w.heap.size w W'))
   case first =>
     have HB2 := hideL hB2
     have H0 : HidL ((63 : UInt8) ∉ s.data.toList.take 0) := ⟨by simp⟩
     clear HSP HSQ HRR hB2 HM hrl
     go_wp2_with fail
     go_loopg [5, 6, 7] s.size (fun g o5 o6 i wr => ∃ k : Nat, k + g = s.size ∧ i = .int .i64 k ∧ o5 = .string s ∧ o6 = .string ⟨#[]⟩ ∧ HidL ((63 : UInt8) ∉ s.data.toList.take k) ∧ wr = w2)
     case atStart => exact ⟨0, Nat.zero_add _, rfl, rfl, rfl, H0, rfl⟩
     case round =>
       obtain ⟨k, hkg, rfl, rfl, rfl, HK, hwr⟩ := hrel
       rw [hwr]
       clear H0 hwr
       by_cases hlt : k < s.size
       · have hlt' : (k : Int) < (s.size : Int) := by omega
         have hkl : k < s.data.toList.length := by omega
         have hget : s.data.toList[k] = s[k] := rfl
         by_cases hc : s[k] = 63
         · have i63 : (((s[k].toNat : Nat) : Int) == 63) = true := by rw [hc]; rfl
           have ht := ask_take HK.out hkl (by rw [hget]; exact hc)
           rw [HPQ.out] at ht
           injection ht with ht1 ht2
           have e1 : s.extract 0 k = bo p := by rw [bo_ext, ht1, List.drop_zero, Nat.sub_zero]
           have e2 : s.extract (k + 1) s.size = bo q := by rw [bo_ext, ht2, List.take_of_length_le (by rw [List.length_drop]; omega)]
           have hk1 : ((k : Int) + 1) ≤ (s.size : Int) := by omega
           have hk1n : ((k : Int) + 1).toNat = k + 1 := by omega
           have HBd := hideL HB2.out.drew
           clear hc hget ht1 ht2 HK
           go_wp2_with go_region
           all_goals go_meet
           all_goals exact ⟨rfl, rfl, HBd⟩
         · have i63 : (((s[k].toNat : Nat) : Int) == 63) = false := beq_eq_false_iff_ne.2 (fun e => hc (UInt8.toNat_inj.1 (by rw [show (63 : UInt8).toNat = 63 from rfl]; omega)))
           have HK2 : HidL ((63 : UInt8) ∉ s.data.toList.take (k + 1)) := ⟨by
             rw [List.take_add_one, List.getElem?_eq_getElem hkl]
             intro h
             rcases List.mem_append.1 h with h | h
             · exact HK.out h
             · simp at h; exact hc h.symm⟩
           clear hc hget
           go_wp2_with fail
           go_roundg (s.size - (k + 1))
           case measure => omega
           case rel => exact ⟨k + 1, by omega, by go_num, rfl, rfl, HK2, rfl⟩
       · obtain rfl : k = s.size := by omega
         have hlt' : ¬ (s.size : Int) < (s.size : Int) := by omega
         have hn := HK.out
         rw [List.take_of_length_le (by omega)] at hn
         have ha := askP_none _ hn
         rw [HPQ.out] at ha
         injection ha with ha1 ha2
         have e1 : s = bo p := by rw [ha1, bo_of]
         have e2 : (⟨#[]⟩ : ByteArray) = bo q := by rw [ha2]; rfl
         have E1 := hideL e1
         have E2 := hideL e2
         clear e1 e2 ha1 ha2 hn HK
         go_wp2_with fail
         go_meet
         case rel => exact ⟨by rw [← E1.out], by rw [← E2.out], HB2⟩
   case rest =>
     obtain ⟨rfl, rfl, HB⟩ := hcut
     obtain ⟨W, rfl⟩ : ∃ X, X = wc := ⟨_, rfl⟩
     clear HM HPQ hask h1 h2 hB2
     cases x2
     · have hR := HRR.out
       rw [if_neg (by decide)] at hR
       subst hR
       have HSP : HidL (∀ W : World, Calls Tryz.prog 84 #[.string (bo p), .bool true] W fun e w' => e = .returned (.tuple #[.string ⟨#[]⟩, .bool false]) ∧ Below W.heap.size W w') := ⟨fun W => HSP.out W⟩
       clear HRR HSQ
       go_wp2_with (go_at_call 84; refine (HSP.out _).mono ?_; rintro e w3 ⟨rfl, hB3⟩)
       go_ret3
       exact ⟨rfl, HB.out.trans (hB3.mono HB.out.size)⟩
     · have HSP : HidL (∀ W : World, Calls Tryz.prog 84 #[.string (bo p), .bool true] W fun e w' => e = .returned (.tuple #[.string (bo (47 :: r)), .bool true]) ∧ Below W.heap.size W w') := ⟨fun W => HSP.out W⟩
       have hR := HRR.out
       rw [if_pos rfl] at hR
       have HS := hideL (fun W : World => splitR_any (bo (47 :: r)) (by rw [bo_size]; simp) (by rw [bo_size]; simp; omega) W)
       rw [bo_list, List.drop_succ_cons, List.drop_zero] at HS
       have hM := splP_ne r
       have hMl := splP_length r
       have hjs := fun (dir : Bool) (a : List (List UInt8)) (h : lefP [] (splP r) = some a) => joi_short dir (x := r) (by omega) h
       have hal := fun (a : List (List UInt8)) (h : lefP [] (splP r) = some a) => lefP_len _ _ _ h
       obtain ⟨M, hMM⟩ : ∃ M, splP r = M := ⟨_, rfl⟩
       rw [hMM] at HS hR hM hMl hjs hal
       have HK := hideL (fun (v : Value) (W : World) (h : GAt KS W v (M.map bo)) => keptR_any v M W h (by omega))
       have HJS := hideL hjs
       have HAL := hideL hal
       have HMl : HidL (M.length ≤ 513) := ⟨by omega⟩
       have HMn := hideL hM
       clear hMM hjs HRR hM hMl hrl hal
       cases hk : lefP [] M with
       | none =>
         rw [hk] at hR
         have hR : R = none := hR
         subst hR
         have HK : HidL (∀ (v : Value) (W : World), GAt KS W v (M.map bo) → Calls Tryz.prog 86 #[v] W fun e w' => e = .returned (.tuple #[.slice none 0 0, .bool false]) ∧ Below W.heap.size W w') := ⟨fun v W h => (HK.out v W h).mono fun e w' he => by unfold KeptPost at he; rw [hk] at he; exact he⟩
         clear hk HJS HMl HMn HAL HSQ
         go_wp2_with (first
           | (go_at_call 84; refine (HSP.out _).mono ?_; rintro e w3 ⟨rfl, hB3⟩; have HB3 := hideL (HB.out.trans (hB3.mono HB.out.size)); clear hB3)
           | (go_at_call 85; refine (HS.out _).mono ?_; rintro e w4 ⟨v, rfl, hg4, hB4⟩; have HB4 := hideL (HB3.out.trans (hB4.mono HB3.out.size)); have HK4 := hideL (HK.out v w4 hg4.gAt); clear hB4 hg4)
           | (go_at_call 86; refine (HK4.out).mono ?_; rintro e w5 ⟨rfl, hB5⟩; have HB5 := hideL (HB4.out.trans (hB5.mono HB4.out.size)); clear hB5))
         go_ret3
         exact ⟨rfl, HB5.out⟩
       | some a =>
         rw [hk] at hR
         have hR : R = some (joiP (dirP M) a, y1) := hR
         subst hR
         have HK : HidL (∀ (v : Value) (W : World), GAt KS W v (M.map bo) → Calls Tryz.prog 86 #[v] W fun e w' => ∃ u, e = .returned (.tuple #[u, .bool true]) ∧ GAt KS w' u (a.map bo) ∧ Below W.heap.size W w') := ⟨fun v W h => (HK.out v W h).mono fun e w' he => by
           unfold KeptPost at he
           rw [hk] at he
           obtain ⟨⟨u, h1, h2⟩, h3⟩ := he
           exact ⟨u, h1, h2.gAt, h3⟩⟩
         have hjs := HJS.out (dirP M) a hk
         have hal := HAL.out a hk
         have HFL : HidL ((flaP a).length ≤ 1000000 ∧ a.length ≤ 1000000) := ⟨by
           unfold joiP at hjs
           rw [List.length_append] at hjs
           have := HMl.out
           refine ⟨?_, by simp at hal; omega⟩
           unfold flaP
           omega⟩
         clear hk HJS HAL hjs hal
         obtain ⟨z, hz⟩ : ∃ z, M.getLast? = some z := by
           cases hm : M.getLast? with
           | none => exact absurd (List.getLast?_eq_none_iff.1 hm) HMn.out
           | some z => exact ⟨z, rfl⟩
         have hdir : dirP M = isDir z := by unfold dirP; rw [hz]
         obtain ⟨n, hn⟩ : ∃ n, M.length = n + 1 := ⟨M.length - 1, by have := List.length_pos_iff.2 HMn.out; omega⟩
         have hlast : (M.map bo).getD n ByteArray.empty = bo z := by
           rw [List.getLast?_eq_getElem?, hn, show n + 1 - 1 = n by omega] at hz
           simp [List.getD, hz]
         have HNN := hideL hn
         have HLA := hideL hlast
         clear hn hlast hz
         go_upto_if 56 with (first
           | (go_at_call 84; refine (HSP.out _).mono ?_; rintro e w3 ⟨rfl, hB3⟩; have HB3 := hideL (HB.out.trans (hB3.mono HB.out.size)); clear hB3)
           | (go_at_call 85; refine (HS.out _).mono ?_; rintro e w4 ⟨v, rfl, hg4, hB4⟩; have HB4 := hideL (HB3.out.trans (hB4.mono HB3.out.size)); have HK4 := hideL (HK.out v w4 hg4.gAt); obtain ⟨ao, cap, hvv⟩ := hg4.gAt.len; rw [List.length_map, HNN.out] at hvv; subst hvv; have HG4 := hideL hg4.gAt; clear hB4 hg4)
           | (go_at_call 86; refine (HK4.out).mono ?_; rintro e w5 ⟨u, rfl, hg5, hB5⟩; have HG5 := hideL (HG4.out.below hB5); have HU5 := hideL hg5; have HB5 := hideL (HB4.out.trans (hB5.mono HB4.out.size)); clear hB5 hg5))
         obtain ⟨b, o, hao, hbl, hcell⟩ := gat_text HG5.out (k := n) (by omega)
         subst hao
         rw [HLA.out] at hcell
         have hm1 := succ_one n
         have hnp : (0 : Int) < (n : Int) + 1 := by omega
         have hn0 : (n : Int) < (n : Int) + 1 := by omega
         have hw64 : wrap64 (n : Int) = (n : Int) := wrap64_small n (by have := HMl.out; have := HNN.out; omega)
         obtain ⟨D, hD⟩ : ∃ D, dirP M = D := ⟨_, rfl⟩
         have HDD := hideL hD
         have hdir2 : isDir z = D := by rw [← hD, hdir]
         have HJ := hideL (fun W h => joinR_any D u a W h HFL.out.2 HFL.out.1)
         clear hdir hD HSP HS HK HK4 HMn HMl hR
         go_cut [13] (fun s13 W' => s13 = .bool D ∧ W' = w5)
         case first =>
           clear HJ HSQ
           by_cases h6 : z = []
           · have e1 : (bo z).toList.isEmpty = true := by rw [bo_toList, h6]; rfl
             have e2 : ((bo z).toList == [46]) = false := by rw [bo_toList, h6]; rfl
             have e3 : ((bo z).toList == [46, 46]) = false := by rw [bo_toList, h6]; rfl
             have HD : HidL (D = true) := ⟨by rw [← hdir2, h6]; rfl⟩
             clear h6 hdir2
             go_wp2_with fail
             go_meet
             case rel => exact ⟨by rw [HD.out], rfl⟩
           by_cases h8 : z = [46]
           · have e1 : (bo z).toList.isEmpty = false := by rw [bo_toList, h8]; rfl
             have e2 : ((bo z).toList == [46]) = true := by rw [bo_toList, h8]; rfl
             have e3 : ((bo z).toList == [46, 46]) = false := by rw [bo_toList, h8]; rfl
             have HD : HidL (D = true) := ⟨by rw [← hdir2, h8]; rfl⟩
             clear h8 hdir2
             go_wp2_with fail
             go_meet
             case rel => exact ⟨by rw [HD.out], rfl⟩
           by_cases h12 : z = [46, 46]
           · have e1 : (bo z).toList.isEmpty = false := by rw [bo_toList, h12]; rfl
             have e2 : ((bo z).toList == [46]) = false := by rw [bo_toList, h12]; rfl
             have e3 : ((bo z).toList == [46, 46]) = true := by rw [bo_toList, h12]; rfl
             have HD : HidL (D = true) := ⟨by rw [← hdir2, h12]; rfl⟩
             clear h12 hdir2
             go_wp2_with fail
             go_meet
             case rel => exact ⟨by rw [HD.out], rfl⟩
           have e1 : (bo z).toList.isEmpty = false := by rw [bo_toList]; cases z with | nil => exact absurd rfl h6 | cons _ _ => rfl
           have e2 : ((bo z).toList == [46]) = false := by rw [bo_toList]; exact beq_eq_false_iff_ne.2 h8
           have e3 : ((bo z).toList == [46, 46]) = false := by rw [bo_toList]; exact beq_eq_false_iff_ne.2 h12
           have HD : HidL (D = false) := ⟨by rw [← hdir2]; exact decide_eq_false (by rintro (h | h | h); exact h6 h; exact h8 h; exact h12 h)⟩
           clear h6 h8 h12 hdir2
           go_wp2_with fail
           go_meet
           case rel => exact ⟨by rw [HD.out], rfl⟩
         case rest =>
           obtain ⟨rfl, hwc⟩ := hcut
           rw [hwc]
           clear hwc hdir2
           have HSQ : HidL (∀ W : World, Calls Tryz.prog 84 #[.string (bo q), .bool false] W fun e w' => e = .returned (.tuple #[.string (bo y1), .bool true]) ∧ Below W.heap.size W w') := ⟨fun W => HSQ.out W⟩
           go_wp2_with (first
             | (go_at_call 84; refine (HSQ.out _).mono ?_; rintro e w6 ⟨rfl, hB6⟩; have HJ6 := hideL (HJ.out w6 (HU5.out.below hB6)); have HB6 := hideL (HB5.out.trans (hB6.mono HB5.out.size)); clear hB6)
             | (go_at_call 87; refine (HJ6.out).mono ?_; rintro e w7 ⟨rfl, hB7⟩; have HB7 := hideL (HB6.out.trans (hB7.mono HB6.out.size)); clear hB7)
             | go_region)
           all_goals go_ret3
           all_goals exact ⟨by rw [HDD.out]; rfl, HB7.out⟩
end Go.Proofs.YtafmgoekgijfgaaGreatDoor
