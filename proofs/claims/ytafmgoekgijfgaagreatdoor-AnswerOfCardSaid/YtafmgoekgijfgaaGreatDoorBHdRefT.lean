/- The document's All, Texts, Same. -/
import Derived.Test.YtafmgoekgijfgaaGreatDoorBRqM2
import Derived.StillTactics
import Derived.Shelf.RegionOpen
namespace Go.Proofs.YtafmgoekgijfgaaGreatDoor
open Go.RowKit Go.Lib

theorem allP_snoc (name : ByteArray) (l : List Hd) (h : Hd) : allP name (l ++ [h]) = allP name l ++ (if h.n = name then [h.v] else []) := by
 rw [allP_append]
 by_cases e : h.n = name
 · rw [if_pos e, allP_one e]
 · rw [if_neg e, allP_other e]
set_option maxRecDepth 100000 in
set_option maxHeartbeats 1000000 in
theorem allR_any (name : ByteArray) (v : Value) (l : List Hd) (w : World) (hv : GAt KH w v l) (hl : l.length ≤ 1000) :
   Calls Tryz.prog 48 #[.string name, v] w (fun e w' => ∃ r, e = .returned r ∧ GRow KS w' w.heap.size r (allP name l) ∧ Below w.heap.size w w') := by
 obtain ⟨ao, cap, rfl⟩ := hv.len
 obtain ⟨n, hn⟩ : ∃ n, l.length = n := ⟨_, rfl⟩
 rw [hn] at hv hl ⊢
 have HN := hideL hn
 have HV := hideL hv
 clear hv hn
 go_enter Tryz.func48, Tryz.ntmps48
 go_wp2_with fail
 go_loopw [5, 6] (fun r i wr => ∃ k : Nat, k ≤ n ∧ i = .int .i64 k ∧ HidL (GRow KS wr w.heap.size r (allP name (l.take k))) ∧ HidL (Below w.heap.size w wr)) (fun _ i _ => n - (RowKit.intOf i).toNat)
 case atStart => exact ⟨0, Nat.zero_le _, rfl, ⟨GRow.nil _ _⟩, ⟨Below.refl _ _⟩⟩
 case round =>
   obtain ⟨k, hk, rfl, HR, HB⟩ := hrel
   obtain ⟨W, rfl⟩ : ∃ W, W = wr := ⟨_, rfl⟩
   by_cases hlt : k < n
   · have hlt' : (k : Int) < (n : Int) := by omega
     obtain ⟨b, o, hao, hbl, hcell⟩ := HV.out.at (k := k) hlt
     subst hao
     have hkl : k < l.length := by rw [HN.out]; exact hlt
     have htk : l.take (k + 1) = l.take k ++ [l.getD k KH.dft] := by
       rw [List.take_add_one, List.getElem?_eq_getElem hkl]
       simp [List.getD, hkl]
     have hlen : (allP name (l.take k)).length ≤ 1000 := Nat.le_trans (allP_len _ _) (by rw [List.length_take]; omega)
     generalize l.getD k KH.dft = x at *
     have hal : allP name (l.take (k + 1)) = allP name (l.take k) ++ (if x.n = name then [x.v] else []) := by rw [htk, allP_snoc]
     obtain ⟨a, c⟩ := x
     simp only at hal
     have d0 : W.cell? ⟨b, o + k * 2, none⟩ = some (.string a) := (HB.out.cell (p := ⟨b, o + k * 2, none⟩) hbl).trans (hcell 0 (by decide))
     have d1 : W.cell? ⟨b, o + k * 2 + 1, none⟩ = some (.string c) := (HB.out.cell (p := ⟨b, o + k * 2 + 1, none⟩) hbl).trans (hcell 1 (by decide))
     clear hcell hbl htk
     by_cases hx : a = name
     · have he := eqs_true hx
       rw [if_pos hx] at hal
       obtain ⟨v4, w4, hrun, hR4, hB4⟩ := push_s W w.heap.size u5 _ HR.out c (by omega) HB.out.size
       rw [← hal] at hR4
       have HRUN := hideL hrun
       have HR4 := hideL hR4
       have HB4 := hideL (HB.out.trans hB4)
       clear hrun hR4 hB4 hal hlen hx
       go_wp2_with (at_builtin; refine wpList_append_runP rfl (.tmp 20) (.tmp 26) 69 69 69 rfl rfl _ _ v4 w4 rfl rfl HRUN.out ?_)
       go_roundw
       case rel => exact ⟨k + 1, by omega, by go_num, HR4, HB4⟩
       case measure => simp [RowKit.intOf]; omega
     · have he := eqs_false hx
       rw [if_neg hx, List.append_nil] at hal
       have hR := HR.out
       rw [← hal] at hR
       have HR2 := hideL hR
       clear hR HR hal hlen hx
       go_wp2_with fail
       go_roundw
       case rel => exact ⟨k + 1, by omega, by go_num, HR2, HB⟩
       case measure => simp [RowKit.intOf]; omega
   · obtain rfl : k = n := by omega
     have hlt' : ¬ (k : Int) < (k : Int) := by omega
     have hR := HR.out
     rw [List.take_of_length_le (by rw [HN.out]; omega)] at hR
     have HR2 := hideL hR
     clear hR HR
     go_wp2_with fail
     go_ret
     exact ⟨_, rfl, HR2.out, HB.out⟩
theorem heads_step {a b : List Hd} {k : Nat} (ha : k < a.length) (hb : k < b.length) : decide (a.drop k = b.drop k) = (decide (a.getD k KH.dft = b.getD k KH.dft) && decide (a.drop (k + 1) = b.drop (k + 1))) := by
 rw [List.drop_eq_getElem_cons ha, List.drop_eq_getElem_cons hb, show a.getD k KH.dft = a[k] by simp [List.getD, ha], show b.getD k KH.dft = b[k] by simp [List.getD, hb], ← Bool.decide_and]
 simp only [List.cons.injEq]
set_option maxRecDepth 100000 in
set_option maxHeartbeats 1000000 in
theorem same_any (va vb : Value) (a b : List Hd) (w : World) (ha : GAt KH w va a) (hb : GAt KH w vb b) (hm : b.length ≤ 1000) :
   Calls Tryz.prog 39 #[va, vb] w (fun e w' => e = .returned (.bool (decide (a = b))) ∧ Below w.heap.size w w') := by
 obtain ⟨ao, ac, rfl⟩ := ha.len
 obtain ⟨bo, bc, rfl⟩ := hb.len
 by_cases hne : a.length = b.length
 · have hne' : (((a.length : Nat) : Int) != ((b.length : Nat) : Int)) = false := by rw [hne]; simp
   obtain ⟨V, hV⟩ : ∃ V, decide (a = b) = V := ⟨_, rfl⟩
   rw [hV]
   have H0 : HidL (decide (a.drop 0 = b.drop 0) = V) := ⟨hV⟩
   obtain ⟨n, hn⟩ : ∃ n, b.length = n := ⟨_, rfl⟩
   rw [hn] at hne hb hne' hm ⊢
   rw [hne] at ha hne' ⊢
   have HA := hideL ha
   have HB' := hideL hb
   have HN := hideL hne
   have HM := hideL hn
   clear ha hb hV hne hn
   go_enter Tryz.func39, Tryz.ntmps39
   go_wp2_with fail
   go_loopw [5] (fun i wr => ∃ k : Nat, k ≤ n ∧ i = .int .i64 k ∧ HidL (Below w.heap.size w wr) ∧ HidL (decide (a.drop k = b.drop k) = V)) (fun i _ => n - (RowKit.intOf i).toNat)
   case atStart => exact ⟨0, Nat.zero_le _, rfl, ⟨Below.refl _ _⟩, H0⟩
   case round =>
     obtain ⟨k, hk, rfl, HB, HD⟩ := hrel
     clear H0
     obtain ⟨W, rfl⟩ : ∃ W, W = wr := ⟨_, rfl⟩
     by_cases hlt : k < n
     · have hlt' : (k : Int) < (n : Int) := by omega
       obtain ⟨b1, o1, e1, l1, c1⟩ := HA.out.at (k := k) hlt
       obtain ⟨b2, o2, e2, l2, c2⟩ := HB'.out.at (k := k) hlt
       subst e1 e2
       have hD := HD.out
       rw [heads_step (by rw [HN.out]; exact hlt) (by rw [HM.out]; exact hlt)] at hD
       generalize a.getD k KH.dft = x at *
       generalize b.getD k KH.dft = y at *
       obtain ⟨xn, xv⟩ := x
       obtain ⟨yn, yv⟩ := y
       have d1 : W.cell? ⟨b1, o1 + k * 2, none⟩ = some (.string xn) := (HB.out.cell (p := ⟨b1, o1 + k * 2, none⟩) l1).trans (c1 0 (by decide))
       have d2 : W.cell? ⟨b1, o1 + k * 2 + 1, none⟩ = some (.string xv) := (HB.out.cell (p := ⟨b1, o1 + k * 2 + 1, none⟩) l1).trans (c1 1 (by decide))
       have d3 : W.cell? ⟨b2, o2 + k * 2, none⟩ = some (.string yn) := (HB.out.cell (p := ⟨b2, o2 + k * 2, none⟩) l2).trans (c2 0 (by decide))
       have d4 : W.cell? ⟨b2, o2 + k * 2 + 1, none⟩ = some (.string yv) := (HB.out.cell (p := ⟨b2, o2 + k * 2 + 1, none⟩) l2).trans (c2 1 (by decide))
       clear HD l1 l2 c1 c2
       by_cases hx : xn = yn ∧ xv = yv
       · have he1 := eqs_true hx.1
         have he2 := eqs_true hx.2
         rw [decide_eq_true (show (⟨xn, xv⟩ : Hd) = ⟨yn, yv⟩ by rw [hx.1, hx.2]), Bool.true_and] at hD
         have HN2 := hideL hD
         clear hD hx
         go_wp2_with go_region
         all_goals go_roundw
         all_goals first
           | (case rel => exact ⟨k + 1, by omega, by go_num, ⟨HB.out.drew⟩, HN2⟩)
           | (case measure => simp [RowKit.intOf]; omega)
       · rw [decide_eq_false (fun e : (⟨xn, xv⟩ : Hd) = ⟨yn, yv⟩ => hx (by injection e with e1 e2; exact ⟨e1, e2⟩)), Bool.false_and] at hD
         subst hD
         by_cases hy : xn = yn
         · have he1 := eqs_true hy
           have he2 := eqs_false (fun e => hx ⟨hy, e⟩)
           clear hx hy
           go_wp2_with go_region
           all_goals go_ret
           all_goals exact ⟨rfl, HB.out.drew⟩
         · have he1 := eqs_false hy
           clear hx hy
           go_wp2_with go_region
           all_goals go_ret
           all_goals exact ⟨rfl, HB.out.drew⟩
     · obtain rfl : k = n := by omega
       have hlt' : ¬ (k : Int) < (k : Int) := by omega
       have hD := HD.out
       rw [List.drop_of_length_le (by rw [HN.out]; omega), List.drop_of_length_le (by rw [HM.out]; omega)] at hD
       have hBt : V = true := by rw [← hD]; rfl
       subst hBt
       clear HD hD
       go_wp2_with fail
       go_ret
       exact ⟨rfl, HB.out⟩
 · rw [decide_eq_false (fun e => hne (by rw [e]))]
   have hne' : (((a.length : Nat) : Int) == ((b.length : Nat) : Int)) = false := beq_eq_false_iff_ne.2 (by omega)
   clear ha hb
   go_enter Tryz.func39, Tryz.ntmps39
   go_wp2_with fail
   go_ret
   exact ⟨rfl, Below.refl _ _⟩
end Go.Proofs.YtafmgoekgijfgaaGreatDoor
