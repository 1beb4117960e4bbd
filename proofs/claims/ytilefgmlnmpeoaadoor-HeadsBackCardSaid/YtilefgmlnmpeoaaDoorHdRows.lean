/- The table of headers: All, Get, Add, Del. -/
import Derived.Test.YtilefgmlnmpeoaaDoorHdTab
namespace Go.Proofs.YtilefgmlnmpeoaaDoor
open Go.RowKit Go.Lib

theorem filter_true (l : List Hd) : l.filter (fun _ => true) = l := by
  induction l with
  | nil => rfl
  | cons a l ih => rw [List.filter_cons_of_pos rfl, ih]
theorem eg_isName : ∀ args w, (callFunc 44 args).run Tryd.prog w = .ok (.enter 44 args) w := enters_of Tryd.func44 (by kernel_rfl) rfl
theorem eg_notName : ∀ args w, (callFunc 46 args).run Tryd.prog w = .ok (.enter 46 args) w := enters_of Tryd.func46 (by kernel_rfl) rfl
theorem eg_allStay : ∀ args w, (callFunc 45 args).run Tryd.prog w = .ok (.enter 45 args) w := enters_of Tryd.func45 (by kernel_rfl) rfl

set_option maxRecDepth 100000 in
set_option maxHeartbeats 1000000 in
theorem all_any (name : ByteArray) (v : Value) (l : List Hd) (w : World) (hv : GAt KH w v l) (hf : Fits l) (hl : l.length ≤ 1000) :
    Calls Tryd.prog 24 #[.string name, v] w (fun e w' => ∃ r, e = .returned r ∧ GRow KS w' w.heap.size r (allP name l) ∧ Below w.heap.size w w') := by
  have HB := hideL ((Below.refl w.heap.size w).alloc (Nat.le_refl _) (.cells #[.string name] 9))
  have LK := hideL (kept_any 44 #[.pointer (some ⟨w.heap.size, 0, none⟩)] eg_isName (fun h => decide (h.n = name)) v l _ (hv.below HB.out) hf hl (isName_pred _ _ name (SBox.new w name)))
  have hml : (l.filter fun h => decide (h.n = name)).length ≤ 1000 := Nat.le_trans (List.length_filter_le _ _) hl
  unfold allP
  obtain ⟨M, hM⟩ : ∃ M, (l.filter fun h => decide (h.n = name)) = M := ⟨_, rfl⟩
  rw [hM] at LK hml ⊢
  obtain ⟨ao, cap, rfl⟩ := hv.len
  clear hM hf hv
  go_enter Tryd.func24, Tryd.ntmps24
  go_wp2_with (go_at_call 43
               refine LK.out.mono ?_
               rintro e w1 ⟨r, rfl, hR, hB1⟩
               have HB1 := hideL (HB.out.trans (hB1.mono HB.out.size))
               have HG := hideL hR.gAt
               clear hB1 hR
               obtain ⟨ro, rn, rc, hr⟩ : ∃ ro rn rc, r = .slice ro rn rc := by
                 obtain ⟨x, y, hx⟩ := HG.out.len
                 exact ⟨x, _, y, hx⟩
               subst hr)
  obtain ⟨hrn, hrc⟩ := HG.out.le
  have HN : HidL (M.length = rn) := ⟨hrn.symm⟩
  have hml2 : rn ≤ 1000 := by omega
  clear LK hrn hrc hml hl
  go_loopw [5, 12] (fun r i wr => ∃ k : Nat, k ≤ rn ∧ i = .int .i64 k ∧ HidL (GRow KS wr w1.heap.size r ((M.take k).map (·.v))) ∧ HidL (Below w1.heap.size w1 wr)) (fun _ i _ => rn - (RowKit.intOf i).toNat)
  case atStart => exact ⟨0, Nat.zero_le _, rfl, ⟨GRow.nil _ _⟩, ⟨Below.refl _ _⟩⟩
  case round =>
    obtain ⟨k, hk, rfl, HR, HB3⟩ := hrel
    obtain ⟨W, rfl⟩ : ∃ W, W = wr := ⟨_, rfl⟩
    by_cases hlt : k < rn
    · have hlt' : (k : Int) < (rn : Int) := by omega
      obtain ⟨b, o, hao, hbl, hcell⟩ := HG.out.at (k := k) hlt
      subst hao
      have hkl : k < M.length := by rw [HN.out]; exact hlt
      have htk : (M.take (k + 1)).map (·.v) = (M.take k).map (·.v) ++ [(M.getD k KH.dft).v] := by
        rw [List.take_add_one, List.getElem?_eq_getElem hkl, List.map_append]
        simp only [List.getD, hkl, getElem?_pos]
        rfl
      have hlen : ((M.take k).map (·.v)).length ≤ 1000 := by rw [List.length_map, List.length_take]; omega
      generalize M.getD k KH.dft = x at *
      obtain ⟨a, c⟩ := x
      have d0 : W.cell? ⟨b, o + k * 2, none⟩ = some (.string a) := (HB3.out.cell (p := ⟨b, o + k * 2, none⟩) hbl).trans (hcell 0 (by decide))
      have d1 : W.cell? ⟨b, o + k * 2 + 1, none⟩ = some (.string c) := (HB3.out.cell (p := ⟨b, o + k * 2 + 1, none⟩) hbl).trans (hcell 1 (by decide))
      have HBx := hideL ((Below.refl W.heap.size W).alloc (Nat.le_refl _) (.cells #[.string a, .string c] 23))
      obtain ⟨v4, w4, hrun, hR4, hB4⟩ := push_s (W.alloc (.cells #[.string a, .string c] 23)) w1.heap.size u5 _ (HR.out.alloc _) c (by omega) (Nat.le_trans HB3.out.size HBx.out.size)
      rw [← htk] at hR4
      have HRUN := hideL hrun
      have HR4 := hideL hR4
      have HB4 := hideL ((HB3.out.trans (HBx.out.mono HB3.out.size)).trans hB4)
      clear hrun hR4 hB4 htk hcell hbl hlen
      rw [World.size_alloc] at HRUN
      go_wp2_with (at_builtin; refine wpList_append_runP rfl (.tmp 16) (.tmp 19) 36 36 36 rfl rfl _ _ v4 w4 rfl rfl HRUN.out ?_)
      go_roundw
      case rel => exact ⟨k + 1, by omega, by go_num, HR4, HB4⟩
      case measure => simp [RowKit.intOf]; omega
    · obtain rfl : k = rn := by omega
      have hlt' : ¬ (k : Int) < (k : Int) := by omega
      have hR := HR.out
      rw [List.take_of_length_le (by rw [HN.out]; omega)] at hR
      have HR2 := hideL hR
      clear hR HR
      go_wp2_with fail
      go_ret
      exact ⟨_, rfl, HR2.out.base HB1.out.size, HB1.out.trans (HB3.out.mono HB1.out.size)⟩
set_option maxRecDepth 100000 in
theorem del_any (name : ByteArray) (v : Value) (l : List Hd) (w : World) (hv : GAt KH w v l) (hf : Fits l) (hl : l.length ≤ 1000) :
    Calls Tryd.prog 27 #[.string name, v] w (fun e w' => ∃ r, e = .returned r ∧ GRow KH w' w.heap.size r (delP name l) ∧ Below w.heap.size w w') := by
  have HB := hideL ((Below.refl w.heap.size w).alloc (Nat.le_refl _) (.cells #[.string name] 9))
  have LK := hideL (kept_any 46 #[.pointer (some ⟨w.heap.size, 0, none⟩)] eg_notName (fun h => !decide (h.n = name)) v l _ (hv.below HB.out) hf hl (notName_pred _ _ name (SBox.new w name)))
  unfold delP
  obtain ⟨M, hM⟩ : ∃ M, (l.filter fun h => !decide (h.n = name)) = M := ⟨_, rfl⟩
  rw [hM] at LK ⊢
  clear hM hf hv
  go_enter Tryd.func27, Tryd.ntmps27
  go_wp2_with (go_at_call 43; refine LK.out.mono ?_; rintro e w1 ⟨r, rfl, hR, hB1⟩)
  go_ret
  exact ⟨_, rfl, hR.base HB.out.size, HB.out.trans (hB1.mono HB.out.size)⟩
/-- The errors of Add. -/
def addE (l : List Hd) (h : Hd) : Nat := if goodP h = false then 1 else if 24 ≤ l.length then 3 else 0
def addL (l : List Hd) (h : Hd) : List Hd := if addE l h = 0 then l ++ [h] else []
set_option maxRecDepth 100000 in
set_option maxHeartbeats 1000000 in
theorem add_any (v : Value) (l : List Hd) (h : Hd) (w : World) (hv : GAt KH w v l) (hf : Fits l) (hl : l.length ≤ 1000) (hh : h.n.size ≤ 1000000 ∧ h.v.size ≤ 1000000) :
    Calls Tryd.prog 25 #[v, hdV h] w (fun e w' => ∃ r, e = .returned (.tuple #[r, .int .i64 (addE l h)]) ∧ GRow KH w' w.heap.size r (addL l h) ∧ Below w.heap.size w w') := by
  have LM := hideL (mayOne_any h hh)
  have LO := hideL (fun W => own_any h hh W)
  have LK := hideL (fun (W : World) (hb : Below w.heap.size w W) => kept_any 45 #[] eg_allStay (fun _ => true) v l W (hv.below hb) hf hl (allStay_pred W))
  rw [filter_true] at LK
  obtain ⟨n, c⟩ := h
  simp only [hdV] at LM LO ⊢
  have HBx := hideL ((Below.refl w.heap.size w).alloc (Nat.le_refl _) (.cells #[.string n, .string c] 23))
  have HX := hideL (HBox.new w n c)
  obtain ⟨ao, cap, rfl⟩ := hv.len
  clear hv hf hh
  unfold addL addE
  obtain ⟨y, hy⟩ : ∃ y, goodP ⟨n, c⟩ = y := ⟨_, rfl⟩
  rw [hy] at LM ⊢
  clear hy
  cases y
  · rw [if_pos rfl, if_neg (by decide)]
    go_enter Tryd.func25, Tryd.ntmps25
    go_wp2_with (go_at_call 37; refine (LM.out _).mono ?_; rintro e w2 ⟨rfl, hB2⟩)
    go_ret2
    exact ⟨_, rfl, GRow.nil _ _, HBx.out.trans (hB2.mono HBx.out.size)⟩
  · rw [if_neg (by decide)]
    by_cases h24 : 24 ≤ l.length
    · rw [if_pos h24, if_neg (by decide)]
      have h24' : (24 : Int) ≤ (l.length : Int) := by omega
      go_enter Tryd.func25, Tryd.ntmps25
      go_wp2_with (go_at_call 37; refine (LM.out _).mono ?_; rintro e w2 ⟨rfl, hB2⟩)
      go_ret2
      exact ⟨_, rfl, GRow.nil _ _, HBx.out.trans (hB2.mono HBx.out.size)⟩
    · rw [if_neg h24, if_pos rfl]
      have h24' : ¬ (24 : Int) ≤ (l.length : Int) := by omega
      go_enter Tryd.func25, Tryd.ntmps25
      go_wp2_with (first
        | (go_at_call 37; refine (LM.out _).mono ?_; rintro e w2 ⟨rfl, hB2⟩; have HB2 := hideL (HBx.out.trans (hB2.mono HBx.out.size)); have HX2 := hideL (HX.out.next hB2); clear hB2)
        | (go_at_call 43
           refine (LK.out _ HB2.out).mono ?_
           rintro e w3 ⟨r, rfl, hR, hB3⟩
           have c0 := (HX2.out.next hB3).c0
           have c1 := (HX2.out.next hB3).c1
           have HB3 := hideL (HB2.out.trans (hB3.mono HB2.out.size))
           have HR3 := hideL (hR.base HB2.out.size)
           clear hB3 hR)
        | (go_at_call 40
           refine (LO.out _).mono ?_
           rintro e w4 ⟨rfl, hB4⟩
           have HB4 := hideL (HB3.out.trans (hB4.mono HB3.out.size))
           obtain ⟨v5, w5, hrun, hR5, hB5⟩ := push_h w4 w.heap.size r l (HR3.out.below hB4) ⟨n, c⟩ (by omega) HB4.out.size
           have HRUN := hideL hrun
           have HR5 := hideL hR5
           have HB5 := hideL (HB4.out.trans hB5)
           clear hrun hR5 hB5 hB4)
        | (at_builtin; refine wpList_append_runP rfl (.tmp 17) (.tmp 20) 24 24 24 rfl rfl _ _ v5 w5 rfl rfl HRUN.out ?_))
      go_ret2
      exact ⟨_, rfl, HR5.out, HB5.out⟩
def getV (name : ByteArray) (l : List Hd) : Value := match allP name l with
  | x :: _ => .tuple #[.string x, .bool true]
  | [] => .tuple #[.string ⟨#[]⟩, .bool false]
theorem allP_cons (name : ByteArray) (h : Hd) (l : List Hd) : allP name (h :: l) = if h.n = name then h.v :: allP name l else allP name l := by
  unfold allP
  rw [List.filter_cons]
  by_cases e : h.n = name
  · rw [if_pos e, if_pos (decide_eq_true e)]; rfl
  · rw [if_neg e, if_neg (by simpa using e)]
set_option maxRecDepth 100000 in
set_option maxHeartbeats 1000000 in
theorem get_any (name : ByteArray) (v : Value) (l : List Hd) (w : World) (hv : GAt KH w v l) (hf : Fits l) (hl : l.length ≤ 1000) :
    Calls Tryd.prog 22 #[.string name, v] w (fun e w' => e = .returned (getV name l) ∧ Below w.heap.size w w') := by
  have HF := hideL hf
  obtain ⟨ao, cap, rfl⟩ := hv.len
  obtain ⟨n, hn⟩ : ∃ n, l.length = n := ⟨_, rfl⟩
  rw [hn] at hv hl ⊢
  have HN := hideL hn
  have HV := hideL hv
  obtain ⟨G, hG⟩ : ∃ G, getV name l = G := ⟨_, rfl⟩
  rw [hG]
  have HG : HidL (getV name (l.drop 0) = G) := ⟨hG⟩
  clear hv hn hf hG
  go_enter Tryd.func22, Tryd.ntmps22
  go_wp2_with fail
  go_loopw [10] (fun i wr => ∃ k : Nat, k ≤ n ∧ i = .int .i64 k ∧ HidL (getV name (l.drop k) = G) ∧ HidL (Below w.heap.size w wr)) (fun i _ => n - (RowKit.intOf i).toNat)
  case atStart => exact ⟨0, Nat.zero_le _, rfl, HG, ⟨Below.refl _ _⟩⟩
  case round =>
    obtain ⟨k, hk, rfl, HD, HB⟩ := hrel
    clear HG
    obtain ⟨W, rfl⟩ : ∃ W, W = wr := ⟨_, rfl⟩
    by_cases hlt : k < n
    · have hlt' : (k : Int) < (n : Int) := by omega
      obtain ⟨b, o, hao, hbl, hcell⟩ := HV.out.at (k := k) hlt
      subst hao
      have hkl : k < l.length := by rw [HN.out]; exact hlt
      have hD := HD.out
      rw [hdrop_at l k hkl] at hD
      have hfit := HF.out.get hkl
      generalize l.getD k KH.dft = x at *
      obtain ⟨a, c⟩ := x
      have d0 : W.cell? ⟨b, o + k * 2, none⟩ = some (.string a) := (HB.out.cell (p := ⟨b, o + k * 2, none⟩) hbl).trans (hcell 0 (by decide))
      have d1 : W.cell? ⟨b, o + k * 2 + 1, none⟩ = some (.string c) := (HB.out.cell (p := ⟨b, o + k * 2 + 1, none⟩) hbl).trans (hcell 1 (by decide))
      have HBx := hideL ((Below.refl W.heap.size W).alloc (Nat.le_refl _) (.cells #[.string a, .string c] 23))
      have LC := hideL (fun W => clone_any c (by have := hfit.2; simp only at this; omega) W)
      clear hcell hbl hfit
      by_cases hx : a = name
      · have he := eqs_true hx
        have hg : G = .tuple #[.string c, .bool true] := by
          rw [← hD]
          unfold getV
          rw [allP_cons, if_pos hx]
        subst hg
        clear hD HD hx
        go_wp2_with (go_at_call 42; refine (LC.out _).mono ?_; rintro e w2 ⟨rfl, hB2⟩)
        go_ret2
        exact ⟨rfl, HB.out.trans ((HBx.out.trans (hB2.mono HBx.out.size)).mono HB.out.size)⟩
      · have he := eqs_false hx
        have hg : getV name (l.drop (k + 1)) = G := by
          rw [← hD]
          unfold getV
          rw [allP_cons, if_neg hx]
        have HG := hideL hg
        clear hD HD hx hg
        go_wp2_with fail
        go_roundw
        case rel => exact ⟨k + 1, by omega, by go_num, HG, ⟨HB.out.trans (HBx.out.mono HB.out.size)⟩⟩
        case measure => simp [RowKit.intOf]; omega
    · obtain rfl : k = n := by omega
      have hlt' : ¬ (k : Int) < (k : Int) := by omega
      have hD := HD.out
      rw [List.drop_of_length_le (by rw [HN.out]; omega)] at hD
      have hg : G = .tuple #[.string ⟨#[]⟩, .bool false] := hD.symm
      subst hg
      clear HD hD
      go_wp2_with fail
      go_ret2
      exact ⟨rfl, HB.out⟩
end Go.Proofs.YtilefgmlnmpeoaaDoor
