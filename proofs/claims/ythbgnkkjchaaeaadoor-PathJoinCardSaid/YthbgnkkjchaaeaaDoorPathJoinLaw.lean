/- The law PathJoin (P8.3, P8.4). -/
import Derived.Test.YthbgnkkjchaaeaaDoorPathNormalLaw
import Derived.Test.YthbgnkkjchaaeaaDoorPhJoin
import Derived.Test.YthbgnkkjchaaeaaDoorPhRefN
namespace Go.Proofs.YthbgnkkjchaaeaaDoor
open Go.RowKit

theorem canP_len {L : List UInt8} (h : canP L = true) : L.length ≤ 512 := by
  unfold canP at h
  cases hn : norP L with
  | none => rw [hn] at h; cases h
  | some pq =>
    unfold norP at hn
    split at hn
    · rename_i hh; exact hh.1
    · cases hn
theorem joi_head (dir : Bool) (l : List (List UInt8)) : ∃ r, joiP dir l = 47 :: r := by
  cases l with
  | nil => exact ⟨[], joi_nil dir⟩
  | cons x t => exact ⟨_, by rw [joi_some dir (by simp)]; rfl⟩
theorem joi_fla (dir : Bool) (l : List (List UInt8)) : (flaP l).length ≤ (joiP dir l).length ∧ (joiP dir l).length ≤ (flaP l).length + 1 := by
  unfold joiP flaP
  rw [List.length_append]
  have : (if l = [] ∨ dir = true then [(47 : UInt8)] else []).length ≤ 1 := by split <;> simp
  omega
/-- What the program answers, in the law's words. -/
theorem joR_good (dir : Bool) (l : List ByteArray) (r : List UInt8) (hr : joiP dir (l.map (·.data.toList)) = 47 :: r) : joR dir l = if (canP (47 :: r) && decide ((lefP [] (splP r)).getD [] = l.map (·.data.toList))) = true then some (47 :: r) else none := by
  unfold joR
  rw [hr, segP_cons]
  by_cases h1 : canP (47 :: r) = true
  · have h2 := canP_len h1
    have h3 := (joi_fla dir (l.map (·.data.toList))).1
    have h4 : (flaP (l.map (·.data.toList))).length = totP l := joi_total dir l
    rw [hr] at h3
    by_cases h5 : (lefP [] (splP r)).getD [] = l.map (·.data.toList)
    · rw [if_pos ⟨by omega, h1, h5⟩, h1, decide_eq_true h5]; rfl
    · rw [if_neg (fun h => h5 h.2.2), decide_eq_false h5, Bool.and_false]; rfl
  · rw [if_neg (fun h => h1 h.2.1), Bool.eq_false_iff.2 h1]; rfl
set_option maxRecDepth 100000 in
set_option maxHeartbeats 2000000 in
theorem pjoin_long (dir : Bool) (v : Value) (l : List ByteArray) (hL : longP l = true) (w0 : World) (hv : GAt KS w0 v l) (hE : Env w0) : Calls Tryd.prog 4 #[.bool dir, v] w0 (fun e w' => e = .returned (.bool true) ∧ Below w0.heap.size w0 w') := by
  have HE := hideL hE
  have HB : HidL (Below w0.heap.size w0 w0) := ⟨Below.refl _ _⟩
  have HV := hideL hv
  have LW := hideL (fun (W : World) (h : Env W) => awake_any W h)
  have LL := hideL (fun (W : World) (h : GAt KS W v l) => long_any v l W h)
  rw [hL] at LL
  clear hE
  obtain ⟨ao, cap, rfl⟩ := hv.len
  clear hv
  clear hL
  go_enter Tryd.func4, Tryd.ntmps4
  go_wp2_with (first
    | (go_at_call 16; with_reducible refine (LL.out _ HV.out).mono ?_; rintro e wx ⟨rfl, hB⟩; replace HE := hideL (HE.out.next hB); (try replace HG := hideL (HG.out.below hB)); (try replace HT := hideL (HT.out.below hB)); (try replace HU := hideL (HU.out.below hB)); (try replace HV := hideL (HV.out.below hB)); replace HB := hideL (HB.out.trans (hB.mono HB.out.size)); clear hB)
    | (go_at_call 7; with_reducible refine (LW.out _ HE.out).mono ?_; rintro e wx ⟨rfl, hB⟩; replace HE := hideL (HE.out.next hB); (try replace HG := hideL (HG.out.below hB)); (try replace HT := hideL (HT.out.below hB)); (try replace HU := hideL (HU.out.below hB)); (try replace HV := hideL (HV.out.below hB)); replace HB := hideL (HB.out.trans (hB.mono HB.out.size)); clear hB)
    | go_region)
  all_goals go_ret
  all_goals exact ⟨rfl, HB.out⟩
set_option maxRecDepth 100000 in
set_option maxHeartbeats 2000000 in
theorem pjoin_ff (dir : Bool) (v : Value) (l : List ByteArray) (hL : longP l = false) (hC : ∀ r, joiP dir (l.map (·.data.toList)) = 47 :: r → canP (47 :: r) = false) (hGL : ∀ r, joiP dir (l.map (·.data.toList)) = 47 :: r → decide ((lefP [] (splP r)).getD [] = l.map (·.data.toList)) = false) (w0 : World) (hv : GAt KS w0 v l) (hE : Env w0) : Calls Tryd.prog 4 #[.bool dir, v] w0 (fun e w' => e = .returned (.bool true) ∧ Below w0.heap.size w0 w') := by
  have HE := hideL hE
  have HB : HidL (Below w0.heap.size w0 w0) := ⟨Below.refl _ _⟩
  have HV := hideL hv
  have LW := hideL (fun (W : World) (h : Env W) => awake_any W h)
  have LL := hideL (fun (W : World) (h : GAt KS W v l) => long_any v l W h)
  rw [hL] at LL
  obtain ⟨h60, h1000⟩ := longP_no hL
  have htot := totP_le l h1000
  have htl : totP l ≤ 60 * 1001 := Nat.le_trans htot (Nat.mul_le_mul_right _ h60)
  obtain ⟨r, hr⟩ := joi_head dir (l.map (·.data.toList))
  have hjr := joR_good dir l r hr
  replace hC := hC r hr
  replace hGL := hGL r hr
  have hfl : (flaP (l.map (·.data.toList))).length = totP l := joi_total dir l
  have hjl := (joi_fla dir (l.map (·.data.toList))).2
  rw [hr, List.length_cons] at hjl
  have LP := hideL (fun (v : Value) (W : World) (h1 : Env W) (h2 : GAt KS W v l) => pjoin_any dir v l W h1 h2 h1000 h60)
  rw [hjr] at LP
  have LJ := hideL (fun (v : Value) (W : World) (h : GAt KS W v l) => joinR_any dir v (l.map (·.data.toList)) W (by rw [bo_map]; exact h) (by rw [List.length_map]; omega) (by omega))
  rw [hr] at LJ
  have LT := hideL (fun (W : World) => splitR_any (bo (47 :: r)) (by rw [bo_size]; simp) (by rw [bo_size, List.length_cons]; omega) W)
  rw [bo_list, List.drop_succ_cons, List.drop_zero] at LT
  have LK := hideL (fun (v : Value) (W : World) (h : GAt KS W v ((splP r).map bo)) => kept_any v (splP r) W h (by have := splP_length r; omega))
  have LD := hideL (fun (W : World) => canonR_any (bo (47 :: r)) (by rw [bo_size, List.length_cons]; omega) W)
  rw [bo_list] at LD
  have hkl := segP_len r
  obtain ⟨G, hG⟩ : ∃ G, (lefP [] (splP r)).getD [] = G := ⟨_, rfl⟩
  rw [hG] at LK hjr hkl hGL
  rw [hG] at LP
  have LE := hideL (fun (u v : Value) (W : World) (h1 : GAt KS W u (G.map bo)) (h2 : GAt KS W v l) => sameR_any u v (G.map bo) l W h1 h2 (by rw [List.length_map]; omega) (by omega))
  have LF := hideL (fun (u v : Value) (W : World) (h1 : GAt KS W u l) (h2 : GAt KS W v l) => sameR_any u v l l W h1 h2 (by omega) (by omega))
  have hLF : decide (l = l) = true := decide_eq_true rfl
  rw [hLF] at LF
  have hmb : decide (G.map bo = l) = decide (G = l.map (·.data.toList)) := by
    apply decide_eq_decide.2
    constructor
    · intro h; rw [← h, map_bo]
    · intro h; rw [h, bo_map]
  rw [hmb, hGL] at LE
  rw [hC] at LD
  rw [hC, hGL] at LP
  have LP : HidL (∀ (v : Value) (W : World), Env W → GAt KS W v l → Calls Tryd.prog 17 #[.bool dir, v] W fun e w' => e = .returned (.tuple #[.string ⟨#[]⟩, .int .i64 2]) ∧ Below W.heap.size W w') := ⟨fun v W h1 h2 => LP.out v W h1 h2⟩
  obtain ⟨n, hn⟩ : ∃ n, l.length = n := ⟨_, rfl⟩
  have hn60 : n ≤ 60 := by omega
  have HN := hideL hn
  have H60 := hideL h60
  obtain ⟨ao, cap, rfl⟩ := hv.len
  rw [hn] at LL HV ⊢
  clear hE hv hL h1000 htot htl hr hjr hfl hjl hkl hG hmb hGL hC hLF hn h60
  go_enter Tryd.func4, Tryd.ntmps4
  go_wp2_with (first
    | (go_at_call 16; with_reducible refine (LL.out _ HV.out).mono ?_; rintro e wx ⟨rfl, hB⟩; replace HE := hideL (HE.out.next hB); (try replace HG := hideL (HG.out.below hB)); (try replace HT := hideL (HT.out.below hB)); (try replace HU := hideL (HU.out.below hB)); (try replace HV := hideL (HV.out.below hB)); replace HB := hideL (HB.out.trans (hB.mono HB.out.size)); clear hB; obtain ⟨v2, w2, hrun, hR2, hB2⟩ := copy_s wx _ _ HV.out (by have := H60.out; omega); have HRUN := hideL hrun; have HR2 := hideL hR2.gAt; have HB2 := hideL hB2; clear hrun hR2 hB2; obtain ⟨ao2, cap2, hv2⟩ := HR2.out.len; rw [HN.out] at hv2; subst hv2)
    | (at_builtin; refine wpList_append_runP rfl (.tmp 15) (.tmp 16) 29 29 29 rfl rfl _ _ _ w2 rfl rfl HRUN.out ?_; replace HE := hideL (HE.out.next HB2.out); replace HV := hideL (HV.out.below HB2.out); replace HB := hideL (HB.out.trans (HB2.out.mono HB.out.size)); have HG := HR2)
    | (go_at_call 17; with_reducible refine (LP.out _ _ HE.out HV.out).mono ?_; rintro e wx ⟨rfl, hB⟩; replace HE := hideL (HE.out.next hB); (try replace HG := hideL (HG.out.below hB)); (try replace HT := hideL (HT.out.below hB)); (try replace HU := hideL (HU.out.below hB)); (try replace HV := hideL (HV.out.below hB)); replace HB := hideL (HB.out.trans (hB.mono HB.out.size)); clear hB)
    | (go_at_call 18; with_reducible refine (LJ.out _ _ HG.out).mono ?_; rintro e wx ⟨rfl, hB⟩; replace HE := hideL (HE.out.next hB); (try replace HG := hideL (HG.out.below hB)); (try replace HT := hideL (HT.out.below hB)); (try replace HU := hideL (HU.out.below hB)); (try replace HV := hideL (HV.out.below hB)); replace HB := hideL (HB.out.trans (hB.mono HB.out.size)); clear hB)
    | (go_at_call 14; with_reducible refine (LT.out _).mono ?_; rintro e wx ⟨t, rfl, hg, hB⟩; have HT := hideL hg.gAt; replace HV := hideL (HV.out.below hB); replace HG := hideL (HG.out.below hB); replace HE := hideL (HE.out.next hB); replace HB := hideL (HB.out.trans (hB.mono HB.out.size)); clear hB hg)
    | (go_at_call 13; with_reducible refine (LK.out _ _ HT.out).mono ?_; rintro e wx ⟨u, b, rfl, hg, hB⟩; have HU := hideL hg; replace HV := hideL (HV.out.below hB); replace HG := hideL (HG.out.below hB); replace HE := hideL (HE.out.next hB); replace HB := hideL (HB.out.trans (hB.mono HB.out.size)); clear hB hg)
    | (go_at_call 11; with_reducible refine (LD.out _).mono ?_; rintro e wx ⟨rfl, hB⟩; replace HE := hideL (HE.out.next hB); (try replace HG := hideL (HG.out.below hB)); (try replace HT := hideL (HT.out.below hB)); (try replace HU := hideL (HU.out.below hB)); (try replace HV := hideL (HV.out.below hB)); replace HB := hideL (HB.out.trans (hB.mono HB.out.size)); clear hB)
    | (go_at_call 15; first
      | (with_reducible refine (LE.out _ _ _ HU.out HG.out).mono ?_; rintro e wx ⟨rfl, hB⟩; replace HE := hideL (HE.out.next hB); (try replace HG := hideL (HG.out.below hB)); (try replace HT := hideL (HT.out.below hB)); (try replace HU := hideL (HU.out.below hB)); (try replace HV := hideL (HV.out.below hB)); replace HB := hideL (HB.out.trans (hB.mono HB.out.size)); clear hB; clear LE)
      | (with_reducible refine (LF.out _ _ _ HG.out HV.out).mono ?_; rintro e wx ⟨rfl, hB⟩; replace HE := hideL (HE.out.next hB); (try replace HG := hideL (HG.out.below hB)); (try replace HT := hideL (HT.out.below hB)); (try replace HU := hideL (HU.out.below hB)); (try replace HV := hideL (HV.out.below hB)); replace HB := hideL (HB.out.trans (hB.mono HB.out.size)); clear hB))
    | (go_at_call 7; with_reducible refine (LW.out _ HE.out).mono ?_; rintro e wx ⟨rfl, hB⟩; replace HE := hideL (HE.out.next hB); (try replace HG := hideL (HG.out.below hB)); (try replace HT := hideL (HT.out.below hB)); (try replace HU := hideL (HU.out.below hB)); (try replace HV := hideL (HV.out.below hB)); replace HB := hideL (HB.out.trans (hB.mono HB.out.size)); clear hB)
    | go_region)
  all_goals go_ret
  all_goals exact ⟨rfl, HB.out⟩
set_option maxRecDepth 100000 in
set_option maxHeartbeats 2000000 in
theorem pjoin_ft (dir : Bool) (v : Value) (l : List ByteArray) (hL : longP l = false) (hC : ∀ r, joiP dir (l.map (·.data.toList)) = 47 :: r → canP (47 :: r) = false) (hGL : ∀ r, joiP dir (l.map (·.data.toList)) = 47 :: r → decide ((lefP [] (splP r)).getD [] = l.map (·.data.toList)) = true) (w0 : World) (hv : GAt KS w0 v l) (hE : Env w0) : Calls Tryd.prog 4 #[.bool dir, v] w0 (fun e w' => e = .returned (.bool true) ∧ Below w0.heap.size w0 w') := by
  have HE := hideL hE
  have HB : HidL (Below w0.heap.size w0 w0) := ⟨Below.refl _ _⟩
  have HV := hideL hv
  have LW := hideL (fun (W : World) (h : Env W) => awake_any W h)
  have LL := hideL (fun (W : World) (h : GAt KS W v l) => long_any v l W h)
  rw [hL] at LL
  obtain ⟨h60, h1000⟩ := longP_no hL
  have htot := totP_le l h1000
  have htl : totP l ≤ 60 * 1001 := Nat.le_trans htot (Nat.mul_le_mul_right _ h60)
  obtain ⟨r, hr⟩ := joi_head dir (l.map (·.data.toList))
  have hjr := joR_good dir l r hr
  replace hC := hC r hr
  replace hGL := hGL r hr
  have hfl : (flaP (l.map (·.data.toList))).length = totP l := joi_total dir l
  have hjl := (joi_fla dir (l.map (·.data.toList))).2
  rw [hr, List.length_cons] at hjl
  have LP := hideL (fun (v : Value) (W : World) (h1 : Env W) (h2 : GAt KS W v l) => pjoin_any dir v l W h1 h2 h1000 h60)
  rw [hjr] at LP
  have LJ := hideL (fun (v : Value) (W : World) (h : GAt KS W v l) => joinR_any dir v (l.map (·.data.toList)) W (by rw [bo_map]; exact h) (by rw [List.length_map]; omega) (by omega))
  rw [hr] at LJ
  have LT := hideL (fun (W : World) => splitR_any (bo (47 :: r)) (by rw [bo_size]; simp) (by rw [bo_size, List.length_cons]; omega) W)
  rw [bo_list, List.drop_succ_cons, List.drop_zero] at LT
  have LK := hideL (fun (v : Value) (W : World) (h : GAt KS W v ((splP r).map bo)) => kept_any v (splP r) W h (by have := splP_length r; omega))
  have LD := hideL (fun (W : World) => canonR_any (bo (47 :: r)) (by rw [bo_size, List.length_cons]; omega) W)
  rw [bo_list] at LD
  have hkl := segP_len r
  obtain ⟨G, hG⟩ : ∃ G, (lefP [] (splP r)).getD [] = G := ⟨_, rfl⟩
  rw [hG] at LK hjr hkl hGL
  rw [hG] at LP
  have LE := hideL (fun (u v : Value) (W : World) (h1 : GAt KS W u (G.map bo)) (h2 : GAt KS W v l) => sameR_any u v (G.map bo) l W h1 h2 (by rw [List.length_map]; omega) (by omega))
  have LF := hideL (fun (u v : Value) (W : World) (h1 : GAt KS W u l) (h2 : GAt KS W v l) => sameR_any u v l l W h1 h2 (by omega) (by omega))
  have hLF : decide (l = l) = true := decide_eq_true rfl
  rw [hLF] at LF
  have hmb : decide (G.map bo = l) = decide (G = l.map (·.data.toList)) := by
    apply decide_eq_decide.2
    constructor
    · intro h; rw [← h, map_bo]
    · intro h; rw [h, bo_map]
  rw [hmb, hGL] at LE
  rw [hC] at LD
  rw [hC, hGL] at LP
  have LP : HidL (∀ (v : Value) (W : World), Env W → GAt KS W v l → Calls Tryd.prog 17 #[.bool dir, v] W fun e w' => e = .returned (.tuple #[.string ⟨#[]⟩, .int .i64 2]) ∧ Below W.heap.size W w') := ⟨fun v W h1 h2 => LP.out v W h1 h2⟩
  obtain ⟨n, hn⟩ : ∃ n, l.length = n := ⟨_, rfl⟩
  have hn60 : n ≤ 60 := by omega
  have HN := hideL hn
  have H60 := hideL h60
  obtain ⟨ao, cap, rfl⟩ := hv.len
  rw [hn] at LL HV ⊢
  clear hE hv hL h1000 htot htl hr hjr hfl hjl hkl hG hmb hGL hC hLF hn h60
  go_enter Tryd.func4, Tryd.ntmps4
  go_wp2_with (first
    | (go_at_call 16; with_reducible refine (LL.out _ HV.out).mono ?_; rintro e wx ⟨rfl, hB⟩; replace HE := hideL (HE.out.next hB); (try replace HG := hideL (HG.out.below hB)); (try replace HT := hideL (HT.out.below hB)); (try replace HU := hideL (HU.out.below hB)); (try replace HV := hideL (HV.out.below hB)); replace HB := hideL (HB.out.trans (hB.mono HB.out.size)); clear hB; obtain ⟨v2, w2, hrun, hR2, hB2⟩ := copy_s wx _ _ HV.out (by have := H60.out; omega); have HRUN := hideL hrun; have HR2 := hideL hR2.gAt; have HB2 := hideL hB2; clear hrun hR2 hB2; obtain ⟨ao2, cap2, hv2⟩ := HR2.out.len; rw [HN.out] at hv2; subst hv2)
    | (at_builtin; refine wpList_append_runP rfl (.tmp 15) (.tmp 16) 29 29 29 rfl rfl _ _ _ w2 rfl rfl HRUN.out ?_; replace HE := hideL (HE.out.next HB2.out); replace HV := hideL (HV.out.below HB2.out); replace HB := hideL (HB.out.trans (HB2.out.mono HB.out.size)); have HG := HR2)
    | (go_at_call 17; with_reducible refine (LP.out _ _ HE.out HV.out).mono ?_; rintro e wx ⟨rfl, hB⟩; replace HE := hideL (HE.out.next hB); (try replace HG := hideL (HG.out.below hB)); (try replace HT := hideL (HT.out.below hB)); (try replace HU := hideL (HU.out.below hB)); (try replace HV := hideL (HV.out.below hB)); replace HB := hideL (HB.out.trans (hB.mono HB.out.size)); clear hB)
    | (go_at_call 18; with_reducible refine (LJ.out _ _ HG.out).mono ?_; rintro e wx ⟨rfl, hB⟩; replace HE := hideL (HE.out.next hB); (try replace HG := hideL (HG.out.below hB)); (try replace HT := hideL (HT.out.below hB)); (try replace HU := hideL (HU.out.below hB)); (try replace HV := hideL (HV.out.below hB)); replace HB := hideL (HB.out.trans (hB.mono HB.out.size)); clear hB)
    | (go_at_call 14; with_reducible refine (LT.out _).mono ?_; rintro e wx ⟨t, rfl, hg, hB⟩; have HT := hideL hg.gAt; replace HV := hideL (HV.out.below hB); replace HG := hideL (HG.out.below hB); replace HE := hideL (HE.out.next hB); replace HB := hideL (HB.out.trans (hB.mono HB.out.size)); clear hB hg)
    | (go_at_call 13; with_reducible refine (LK.out _ _ HT.out).mono ?_; rintro e wx ⟨u, b, rfl, hg, hB⟩; have HU := hideL hg; replace HV := hideL (HV.out.below hB); replace HG := hideL (HG.out.below hB); replace HE := hideL (HE.out.next hB); replace HB := hideL (HB.out.trans (hB.mono HB.out.size)); clear hB hg)
    | (go_at_call 11; with_reducible refine (LD.out _).mono ?_; rintro e wx ⟨rfl, hB⟩; replace HE := hideL (HE.out.next hB); (try replace HG := hideL (HG.out.below hB)); (try replace HT := hideL (HT.out.below hB)); (try replace HU := hideL (HU.out.below hB)); (try replace HV := hideL (HV.out.below hB)); replace HB := hideL (HB.out.trans (hB.mono HB.out.size)); clear hB)
    | (go_at_call 15; first
      | (with_reducible refine (LE.out _ _ _ HU.out HG.out).mono ?_; rintro e wx ⟨rfl, hB⟩; replace HE := hideL (HE.out.next hB); (try replace HG := hideL (HG.out.below hB)); (try replace HT := hideL (HT.out.below hB)); (try replace HU := hideL (HU.out.below hB)); (try replace HV := hideL (HV.out.below hB)); replace HB := hideL (HB.out.trans (hB.mono HB.out.size)); clear hB; clear LE)
      | (with_reducible refine (LF.out _ _ _ HG.out HV.out).mono ?_; rintro e wx ⟨rfl, hB⟩; replace HE := hideL (HE.out.next hB); (try replace HG := hideL (HG.out.below hB)); (try replace HT := hideL (HT.out.below hB)); (try replace HU := hideL (HU.out.below hB)); (try replace HV := hideL (HV.out.below hB)); replace HB := hideL (HB.out.trans (hB.mono HB.out.size)); clear hB))
    | (go_at_call 7; with_reducible refine (LW.out _ HE.out).mono ?_; rintro e wx ⟨rfl, hB⟩; replace HE := hideL (HE.out.next hB); (try replace HG := hideL (HG.out.below hB)); (try replace HT := hideL (HT.out.below hB)); (try replace HU := hideL (HU.out.below hB)); (try replace HV := hideL (HV.out.below hB)); replace HB := hideL (HB.out.trans (hB.mono HB.out.size)); clear hB)
    | go_region)
  all_goals go_ret
  all_goals exact ⟨rfl, HB.out⟩
set_option maxRecDepth 100000 in
set_option maxHeartbeats 2000000 in
theorem pjoin_tf (dir : Bool) (v : Value) (l : List ByteArray) (hL : longP l = false) (hC : ∀ r, joiP dir (l.map (·.data.toList)) = 47 :: r → canP (47 :: r) = true) (hGL : ∀ r, joiP dir (l.map (·.data.toList)) = 47 :: r → decide ((lefP [] (splP r)).getD [] = l.map (·.data.toList)) = false) (w0 : World) (hv : GAt KS w0 v l) (hE : Env w0) : Calls Tryd.prog 4 #[.bool dir, v] w0 (fun e w' => e = .returned (.bool true) ∧ Below w0.heap.size w0 w') := by
  have HE := hideL hE
  have HB : HidL (Below w0.heap.size w0 w0) := ⟨Below.refl _ _⟩
  have HV := hideL hv
  have LW := hideL (fun (W : World) (h : Env W) => awake_any W h)
  have LL := hideL (fun (W : World) (h : GAt KS W v l) => long_any v l W h)
  rw [hL] at LL
  obtain ⟨h60, h1000⟩ := longP_no hL
  have htot := totP_le l h1000
  have htl : totP l ≤ 60 * 1001 := Nat.le_trans htot (Nat.mul_le_mul_right _ h60)
  obtain ⟨r, hr⟩ := joi_head dir (l.map (·.data.toList))
  have hjr := joR_good dir l r hr
  replace hC := hC r hr
  replace hGL := hGL r hr
  have hfl : (flaP (l.map (·.data.toList))).length = totP l := joi_total dir l
  have hjl := (joi_fla dir (l.map (·.data.toList))).2
  rw [hr, List.length_cons] at hjl
  have LP := hideL (fun (v : Value) (W : World) (h1 : Env W) (h2 : GAt KS W v l) => pjoin_any dir v l W h1 h2 h1000 h60)
  rw [hjr] at LP
  have LJ := hideL (fun (v : Value) (W : World) (h : GAt KS W v l) => joinR_any dir v (l.map (·.data.toList)) W (by rw [bo_map]; exact h) (by rw [List.length_map]; omega) (by omega))
  rw [hr] at LJ
  have LT := hideL (fun (W : World) => splitR_any (bo (47 :: r)) (by rw [bo_size]; simp) (by rw [bo_size, List.length_cons]; omega) W)
  rw [bo_list, List.drop_succ_cons, List.drop_zero] at LT
  have LK := hideL (fun (v : Value) (W : World) (h : GAt KS W v ((splP r).map bo)) => kept_any v (splP r) W h (by have := splP_length r; omega))
  have LD := hideL (fun (W : World) => canonR_any (bo (47 :: r)) (by rw [bo_size, List.length_cons]; omega) W)
  rw [bo_list] at LD
  have hkl := segP_len r
  obtain ⟨G, hG⟩ : ∃ G, (lefP [] (splP r)).getD [] = G := ⟨_, rfl⟩
  rw [hG] at LK hjr hkl hGL
  rw [hG] at LP
  have LE := hideL (fun (u v : Value) (W : World) (h1 : GAt KS W u (G.map bo)) (h2 : GAt KS W v l) => sameR_any u v (G.map bo) l W h1 h2 (by rw [List.length_map]; omega) (by omega))
  have LF := hideL (fun (u v : Value) (W : World) (h1 : GAt KS W u l) (h2 : GAt KS W v l) => sameR_any u v l l W h1 h2 (by omega) (by omega))
  have hLF : decide (l = l) = true := decide_eq_true rfl
  rw [hLF] at LF
  have hmb : decide (G.map bo = l) = decide (G = l.map (·.data.toList)) := by
    apply decide_eq_decide.2
    constructor
    · intro h; rw [← h, map_bo]
    · intro h; rw [h, bo_map]
  rw [hmb, hGL] at LE
  rw [hC] at LD
  rw [hC, hGL] at LP
  have LP : HidL (∀ (v : Value) (W : World), Env W → GAt KS W v l → Calls Tryd.prog 17 #[.bool dir, v] W fun e w' => e = .returned (.tuple #[.string ⟨#[]⟩, .int .i64 2]) ∧ Below W.heap.size W w') := ⟨fun v W h1 h2 => LP.out v W h1 h2⟩
  obtain ⟨n, hn⟩ : ∃ n, l.length = n := ⟨_, rfl⟩
  have hn60 : n ≤ 60 := by omega
  have HN := hideL hn
  have H60 := hideL h60
  obtain ⟨ao, cap, rfl⟩ := hv.len
  rw [hn] at LL HV ⊢
  clear hE hv hL h1000 htot htl hr hjr hfl hjl hkl hG hmb hGL hC hLF hn h60
  go_enter Tryd.func4, Tryd.ntmps4
  go_wp2_with (first
    | (go_at_call 16; with_reducible refine (LL.out _ HV.out).mono ?_; rintro e wx ⟨rfl, hB⟩; replace HE := hideL (HE.out.next hB); (try replace HG := hideL (HG.out.below hB)); (try replace HT := hideL (HT.out.below hB)); (try replace HU := hideL (HU.out.below hB)); (try replace HV := hideL (HV.out.below hB)); replace HB := hideL (HB.out.trans (hB.mono HB.out.size)); clear hB; obtain ⟨v2, w2, hrun, hR2, hB2⟩ := copy_s wx _ _ HV.out (by have := H60.out; omega); have HRUN := hideL hrun; have HR2 := hideL hR2.gAt; have HB2 := hideL hB2; clear hrun hR2 hB2; obtain ⟨ao2, cap2, hv2⟩ := HR2.out.len; rw [HN.out] at hv2; subst hv2)
    | (at_builtin; refine wpList_append_runP rfl (.tmp 15) (.tmp 16) 29 29 29 rfl rfl _ _ _ w2 rfl rfl HRUN.out ?_; replace HE := hideL (HE.out.next HB2.out); replace HV := hideL (HV.out.below HB2.out); replace HB := hideL (HB.out.trans (HB2.out.mono HB.out.size)); have HG := HR2)
    | (go_at_call 17; with_reducible refine (LP.out _ _ HE.out HV.out).mono ?_; rintro e wx ⟨rfl, hB⟩; replace HE := hideL (HE.out.next hB); (try replace HG := hideL (HG.out.below hB)); (try replace HT := hideL (HT.out.below hB)); (try replace HU := hideL (HU.out.below hB)); (try replace HV := hideL (HV.out.below hB)); replace HB := hideL (HB.out.trans (hB.mono HB.out.size)); clear hB)
    | (go_at_call 18; with_reducible refine (LJ.out _ _ HG.out).mono ?_; rintro e wx ⟨rfl, hB⟩; replace HE := hideL (HE.out.next hB); (try replace HG := hideL (HG.out.below hB)); (try replace HT := hideL (HT.out.below hB)); (try replace HU := hideL (HU.out.below hB)); (try replace HV := hideL (HV.out.below hB)); replace HB := hideL (HB.out.trans (hB.mono HB.out.size)); clear hB)
    | (go_at_call 14; with_reducible refine (LT.out _).mono ?_; rintro e wx ⟨t, rfl, hg, hB⟩; have HT := hideL hg.gAt; replace HV := hideL (HV.out.below hB); replace HG := hideL (HG.out.below hB); replace HE := hideL (HE.out.next hB); replace HB := hideL (HB.out.trans (hB.mono HB.out.size)); clear hB hg)
    | (go_at_call 13; with_reducible refine (LK.out _ _ HT.out).mono ?_; rintro e wx ⟨u, b, rfl, hg, hB⟩; have HU := hideL hg; replace HV := hideL (HV.out.below hB); replace HG := hideL (HG.out.below hB); replace HE := hideL (HE.out.next hB); replace HB := hideL (HB.out.trans (hB.mono HB.out.size)); clear hB hg)
    | (go_at_call 11; with_reducible refine (LD.out _).mono ?_; rintro e wx ⟨rfl, hB⟩; replace HE := hideL (HE.out.next hB); (try replace HG := hideL (HG.out.below hB)); (try replace HT := hideL (HT.out.below hB)); (try replace HU := hideL (HU.out.below hB)); (try replace HV := hideL (HV.out.below hB)); replace HB := hideL (HB.out.trans (hB.mono HB.out.size)); clear hB)
    | (go_at_call 15; first
      | (with_reducible refine (LE.out _ _ _ HU.out HG.out).mono ?_; rintro e wx ⟨rfl, hB⟩; replace HE := hideL (HE.out.next hB); (try replace HG := hideL (HG.out.below hB)); (try replace HT := hideL (HT.out.below hB)); (try replace HU := hideL (HU.out.below hB)); (try replace HV := hideL (HV.out.below hB)); replace HB := hideL (HB.out.trans (hB.mono HB.out.size)); clear hB; clear LE)
      | (with_reducible refine (LF.out _ _ _ HG.out HV.out).mono ?_; rintro e wx ⟨rfl, hB⟩; replace HE := hideL (HE.out.next hB); (try replace HG := hideL (HG.out.below hB)); (try replace HT := hideL (HT.out.below hB)); (try replace HU := hideL (HU.out.below hB)); (try replace HV := hideL (HV.out.below hB)); replace HB := hideL (HB.out.trans (hB.mono HB.out.size)); clear hB))
    | (go_at_call 7; with_reducible refine (LW.out _ HE.out).mono ?_; rintro e wx ⟨rfl, hB⟩; replace HE := hideL (HE.out.next hB); (try replace HG := hideL (HG.out.below hB)); (try replace HT := hideL (HT.out.below hB)); (try replace HU := hideL (HU.out.below hB)); (try replace HV := hideL (HV.out.below hB)); replace HB := hideL (HB.out.trans (hB.mono HB.out.size)); clear hB)
    | go_region)
  all_goals go_ret
  all_goals exact ⟨rfl, HB.out⟩
set_option maxRecDepth 100000 in
set_option maxHeartbeats 2000000 in
theorem pjoin_tt (dir : Bool) (v : Value) (l : List ByteArray) (hL : longP l = false) (hC : ∀ r, joiP dir (l.map (·.data.toList)) = 47 :: r → canP (47 :: r) = true) (hGL : ∀ r, joiP dir (l.map (·.data.toList)) = 47 :: r → decide ((lefP [] (splP r)).getD [] = l.map (·.data.toList)) = true) (w0 : World) (hv : GAt KS w0 v l) (hE : Env w0) : Calls Tryd.prog 4 #[.bool dir, v] w0 (fun e w' => e = .returned (.bool true) ∧ Below w0.heap.size w0 w') := by
  have HE := hideL hE
  have HB : HidL (Below w0.heap.size w0 w0) := ⟨Below.refl _ _⟩
  have HV := hideL hv
  have LW := hideL (fun (W : World) (h : Env W) => awake_any W h)
  have LL := hideL (fun (W : World) (h : GAt KS W v l) => long_any v l W h)
  rw [hL] at LL
  obtain ⟨h60, h1000⟩ := longP_no hL
  have htot := totP_le l h1000
  have htl : totP l ≤ 60 * 1001 := Nat.le_trans htot (Nat.mul_le_mul_right _ h60)
  obtain ⟨r, hr⟩ := joi_head dir (l.map (·.data.toList))
  have hjr := joR_good dir l r hr
  replace hC := hC r hr
  replace hGL := hGL r hr
  have hfl : (flaP (l.map (·.data.toList))).length = totP l := joi_total dir l
  have hjl := (joi_fla dir (l.map (·.data.toList))).2
  rw [hr, List.length_cons] at hjl
  have LP := hideL (fun (v : Value) (W : World) (h1 : Env W) (h2 : GAt KS W v l) => pjoin_any dir v l W h1 h2 h1000 h60)
  rw [hjr] at LP
  have LJ := hideL (fun (v : Value) (W : World) (h : GAt KS W v l) => joinR_any dir v (l.map (·.data.toList)) W (by rw [bo_map]; exact h) (by rw [List.length_map]; omega) (by omega))
  rw [hr] at LJ
  have LT := hideL (fun (W : World) => splitR_any (bo (47 :: r)) (by rw [bo_size]; simp) (by rw [bo_size, List.length_cons]; omega) W)
  rw [bo_list, List.drop_succ_cons, List.drop_zero] at LT
  have LK := hideL (fun (v : Value) (W : World) (h : GAt KS W v ((splP r).map bo)) => kept_any v (splP r) W h (by have := splP_length r; omega))
  have LD := hideL (fun (W : World) => canonR_any (bo (47 :: r)) (by rw [bo_size, List.length_cons]; omega) W)
  rw [bo_list] at LD
  have hkl := segP_len r
  obtain ⟨G, hG⟩ : ∃ G, (lefP [] (splP r)).getD [] = G := ⟨_, rfl⟩
  rw [hG] at LK hjr hkl hGL
  rw [hG] at LP
  have LE := hideL (fun (u v : Value) (W : World) (h1 : GAt KS W u (G.map bo)) (h2 : GAt KS W v l) => sameR_any u v (G.map bo) l W h1 h2 (by rw [List.length_map]; omega) (by omega))
  have LF := hideL (fun (u v : Value) (W : World) (h1 : GAt KS W u l) (h2 : GAt KS W v l) => sameR_any u v l l W h1 h2 (by omega) (by omega))
  have hLF : decide (l = l) = true := decide_eq_true rfl
  rw [hLF] at LF
  have hmb : decide (G.map bo = l) = decide (G = l.map (·.data.toList)) := by
    apply decide_eq_decide.2
    constructor
    · intro h; rw [← h, map_bo]
    · intro h; rw [h, bo_map]
  rw [hmb, hGL] at LE
  rw [hC] at LD
  rw [hC, hGL] at LP
  have LP : HidL (∀ (v : Value) (W : World), Env W → GAt KS W v l → Calls Tryd.prog 17 #[.bool dir, v] W fun e w' => e = .returned (.tuple #[.string (bo (47 :: r)), .int .i64 0]) ∧ Below W.heap.size W w') := ⟨fun v W h1 h2 => LP.out v W h1 h2⟩
  obtain ⟨n, hn⟩ : ∃ n, l.length = n := ⟨_, rfl⟩
  have hn60 : n ≤ 60 := by omega
  have HN := hideL hn
  have H60 := hideL h60
  obtain ⟨ao, cap, rfl⟩ := hv.len
  rw [hn] at LL HV ⊢
  clear hE hv hL h1000 htot htl hr hjr hfl hjl hkl hG hmb hGL hC hLF hn h60
  go_enter Tryd.func4, Tryd.ntmps4
  go_wp2_with (first
    | (go_at_call 16; with_reducible refine (LL.out _ HV.out).mono ?_; rintro e wx ⟨rfl, hB⟩; replace HE := hideL (HE.out.next hB); (try replace HG := hideL (HG.out.below hB)); (try replace HT := hideL (HT.out.below hB)); (try replace HU := hideL (HU.out.below hB)); (try replace HV := hideL (HV.out.below hB)); replace HB := hideL (HB.out.trans (hB.mono HB.out.size)); clear hB; obtain ⟨v2, w2, hrun, hR2, hB2⟩ := copy_s wx _ _ HV.out (by have := H60.out; omega); have HRUN := hideL hrun; have HR2 := hideL hR2.gAt; have HB2 := hideL hB2; clear hrun hR2 hB2; obtain ⟨ao2, cap2, hv2⟩ := HR2.out.len; rw [HN.out] at hv2; subst hv2)
    | (at_builtin; refine wpList_append_runP rfl (.tmp 15) (.tmp 16) 29 29 29 rfl rfl _ _ _ w2 rfl rfl HRUN.out ?_; replace HE := hideL (HE.out.next HB2.out); replace HV := hideL (HV.out.below HB2.out); replace HB := hideL (HB.out.trans (HB2.out.mono HB.out.size)); have HG := HR2)
    | (go_at_call 17; with_reducible refine (LP.out _ _ HE.out HV.out).mono ?_; rintro e wx ⟨rfl, hB⟩; replace HE := hideL (HE.out.next hB); (try replace HG := hideL (HG.out.below hB)); (try replace HT := hideL (HT.out.below hB)); (try replace HU := hideL (HU.out.below hB)); (try replace HV := hideL (HV.out.below hB)); replace HB := hideL (HB.out.trans (hB.mono HB.out.size)); clear hB)
    | (go_at_call 18; with_reducible refine (LJ.out _ _ HG.out).mono ?_; rintro e wx ⟨rfl, hB⟩; replace HE := hideL (HE.out.next hB); (try replace HG := hideL (HG.out.below hB)); (try replace HT := hideL (HT.out.below hB)); (try replace HU := hideL (HU.out.below hB)); (try replace HV := hideL (HV.out.below hB)); replace HB := hideL (HB.out.trans (hB.mono HB.out.size)); clear hB)
    | (go_at_call 14; with_reducible refine (LT.out _).mono ?_; rintro e wx ⟨t, rfl, hg, hB⟩; have HT := hideL hg.gAt; replace HV := hideL (HV.out.below hB); replace HG := hideL (HG.out.below hB); replace HE := hideL (HE.out.next hB); replace HB := hideL (HB.out.trans (hB.mono HB.out.size)); clear hB hg)
    | (go_at_call 13; with_reducible refine (LK.out _ _ HT.out).mono ?_; rintro e wx ⟨u, b, rfl, hg, hB⟩; have HU := hideL hg; replace HV := hideL (HV.out.below hB); replace HG := hideL (HG.out.below hB); replace HE := hideL (HE.out.next hB); replace HB := hideL (HB.out.trans (hB.mono HB.out.size)); clear hB hg)
    | (go_at_call 11; with_reducible refine (LD.out _).mono ?_; rintro e wx ⟨rfl, hB⟩; replace HE := hideL (HE.out.next hB); (try replace HG := hideL (HG.out.below hB)); (try replace HT := hideL (HT.out.below hB)); (try replace HU := hideL (HU.out.below hB)); (try replace HV := hideL (HV.out.below hB)); replace HB := hideL (HB.out.trans (hB.mono HB.out.size)); clear hB)
    | (go_at_call 15; first
      | (with_reducible refine (LE.out _ _ _ HU.out HG.out).mono ?_; rintro e wx ⟨rfl, hB⟩; replace HE := hideL (HE.out.next hB); (try replace HG := hideL (HG.out.below hB)); (try replace HT := hideL (HT.out.below hB)); (try replace HU := hideL (HU.out.below hB)); (try replace HV := hideL (HV.out.below hB)); replace HB := hideL (HB.out.trans (hB.mono HB.out.size)); clear hB; clear LE)
      | (with_reducible refine (LF.out _ _ _ HG.out HV.out).mono ?_; rintro e wx ⟨rfl, hB⟩; replace HE := hideL (HE.out.next hB); (try replace HG := hideL (HG.out.below hB)); (try replace HT := hideL (HT.out.below hB)); (try replace HU := hideL (HU.out.below hB)); (try replace HV := hideL (HV.out.below hB)); replace HB := hideL (HB.out.trans (hB.mono HB.out.size)); clear hB))
    | (go_at_call 7; with_reducible refine (LW.out _ HE.out).mono ?_; rintro e wx ⟨rfl, hB⟩; replace HE := hideL (HE.out.next hB); (try replace HG := hideL (HG.out.below hB)); (try replace HT := hideL (HT.out.below hB)); (try replace HU := hideL (HU.out.below hB)); (try replace HV := hideL (HV.out.below hB)); replace HB := hideL (HB.out.trans (hB.mono HB.out.size)); clear hB)
    | go_region)
  all_goals go_ret
  all_goals exact ⟨rfl, HB.out⟩
theorem pjoin_law (dir : Bool) (v : Value) (l : List ByteArray) (w0 : World) (hv : GAt KS w0 v l) (hE : Env w0) : Calls Tryd.prog 4 #[.bool dir, v] w0 (fun e w' => e = .returned (.bool true) ∧ Below w0.heap.size w0 w') := by
  cases hL : longP l
  · obtain ⟨r, hr⟩ := joi_head dir (l.map (·.data.toList))
    have e : ∀ r', joiP dir (l.map (·.data.toList)) = 47 :: r' → r' = r := fun r' h => by rw [hr] at h; injection h with _ h; exact h.symm
    cases hC : canP (47 :: r) <;> cases hG : decide ((lefP [] (splP r)).getD [] = l.map (·.data.toList))
    · exact pjoin_ff dir v l hL (fun r' h => by rw [e r' h]; exact hC) (fun r' h => by rw [e r' h]; exact hG) w0 hv hE
    · exact pjoin_ft dir v l hL (fun r' h => by rw [e r' h]; exact hC) (fun r' h => by rw [e r' h]; exact hG) w0 hv hE
    · exact pjoin_tf dir v l hL (fun r' h => by rw [e r' h]; exact hC) (fun r' h => by rw [e r' h]; exact hG) w0 hv hE
    · exact pjoin_tt dir v l hL (fun r' h => by rw [e r' h]; exact hC) (fun r' h => by rw [e r' h]; exact hG) w0 hv hE
  · exact pjoin_long dir v l hL w0 hv hE
end Go.Proofs.YthbgnkkjchaaeaaDoor
