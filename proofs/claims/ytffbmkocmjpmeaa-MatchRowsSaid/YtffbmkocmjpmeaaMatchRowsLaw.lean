/- The law MatchRows (P7.2). -/
import Derived.Test.YtffbmkocmjpmeaaMtLaw
import Derived.Test.YtffbmkocmjpmeaaMtCopy
import Derived.Deep.RegionWith
import Derived.Deep.RegionHeld3
import Derived.Deep.CutBlock
import Derived.Deep.DeepCutAuto
namespace Go.Proofs.Ytffbmkocmjpmeaa
open Go.RowKit

/-- A term's box; the row that came in. -/
structure SR (w : World) (v : Value) (l : List Tm) (t : Tm) (W : World) : Prop where
  bt : TBox W w.heap.size t.k t.t
  row : GAt KT W v l
  be : Below w.heap.size w W
theorem SR.next {w : World} {v : Value} {l : List Tm} {t : Tm} {W W' : World} (h : SR w v l t W) (hb : Below W.heap.size W W') : SR w v l t W' := ⟨h.bt.next hb, h.row.below hb, h.be.trans (hb.mono h.be.size)⟩
theorem SR.new {w : World} {v : Value} {l : List Tm} (t : Tm) (hv : GAt KT w v l) : SR w v l t (w.alloc (.cells #[.int .i64 t.k, .string t.t] 23)) := by
  have hb := (Below.refl w.heap.size w).alloc (Nat.le_refl _) (.cells #[.int .i64 t.k, .string t.t] 23)
  exact ⟨TBox.new w t.k t.t, hv.below hb, hb⟩
/-- What an append to a row above B leaves. -/
theorem SR.over {w : World} {v : Value} {l : List Tm} {t : Tm} {B : Nat} {W W' : World} (h : SR w v l t W) (hB : w.heap.size < B) (hv : GAt KT w v l) (hb : Below B W W') : SR w v l t W' :=
  ⟨(hb.block _ hB).trans h.bt, hv.below (h.be.trans (hb.mono (Nat.le_of_lt hB))), h.be.trans (hb.mono (Nat.le_of_lt hB))⟩
theorem any_app (s : List UInt8) (l m : List Tm) : anyM s (l ++ m) = (anyM s l || anyM s m) := by simp [anyM]
theorem any_one (s : List UInt8) (t : Tm) : anyM s [t] = matM t s := by simp [anyM]
set_option maxRecDepth 100000 in
set_option maxHeartbeats 2000000 in
theorem rows_long1 (v : Value) (l : List Tm) (t : Tm) (s : ByteArray) (w0 : World) (hv : GAt KT w0 v l) (hm : l.length ≤ maxLen) (ht : t.t.size ≤ maxLen) (_ : s.size ≤ maxLen) (hL1 : longM s l = true) : Calls Try.prog 6 #[v, .agg #[.int .i64 t.k, .string t.t], .string s] w0 (LawPost w0) := by
  unfold maxLen at *
  have LW := hideL awake_any
  have HS := hideL (SR.new t hv)
  have HV0 := hideL hv
  have L1 := hideL (fun W hv => long_any s v l W hv (by omega))
  rw [hL1] at L1
  clear hL1
  obtain ⟨kt, tt⟩ := t
  obtain ⟨ao, cap, rfl⟩ := hv.len
  clear hv
  dsimp only at *
  go_enter Try.func6, Try.ntmps6
  go_wp2_with (first
    | (go_at_call 8; with_reducible refine (L1.out _ HS.out.row).mono ?_; rintro e wx ⟨rfl, hB⟩; replace HS := hideL (HS.out.next hB); (try clear c0 c1); have c0 := HS.out.bt.c0; have c1 := HS.out.bt.c1; clear hB)
    | (go_at_call 9; with_reducible refine (LW.out _).mono ?_; rintro e wx ⟨rfl, hB⟩; replace HS := hideL (HS.out.next hB); (try clear c0 c1); have c0 := HS.out.bt.c0; have c1 := HS.out.bt.c1; clear hB))
  go_ret
  exact ⟨rfl, HS.out.be⟩
set_option maxRecDepth 100000 in
set_option maxHeartbeats 2000000 in
theorem rows_long2 (v : Value) (l : List Tm) (t : Tm) (s : ByteArray) (w0 : World) (hv : GAt KT w0 v l) (hm : l.length ≤ maxLen) (ht : t.t.size ≤ maxLen) (_ : s.size ≤ maxLen) (hL1 : longM s l = false) (hL2 : longM s [t] = true) : Calls Try.prog 6 #[v, .agg #[.int .i64 t.k, .string t.t], .string s] w0 (LawPost w0) := by
  unfold maxLen at *
  have LW := hideL awake_any
  have HS := hideL (SR.new t hv)
  have HV0 := hideL hv
  have L1 := hideL (fun W hv => long_any s v l W hv (by omega))
  rw [hL1] at L1
  have L2 : HidL (∀ W : World, Calls Try.prog 8 #[.string s, .slice (some ⟨W.heap.size, 0, none⟩) 1 1] (W.alloc (.cells #[.int .i64 t.k, .string t.t] 23)) (fun e w' => e = .returned (.bool (longM s [t])) ∧ Below W.heap.size W w')) := hideL fun W => long_row s [t] W (show 1 ≤ maxLen by decide)
  rw [hL2] at L2
  clear hL1 hL2
  obtain ⟨kt, tt⟩ := t
  obtain ⟨ao, cap, rfl⟩ := hv.len
  clear hv
  dsimp only at *
  go_enter Try.func6, Try.ntmps6
  go_wp2_with (first
    | (go_at_call 8; first
      | (with_reducible refine (L1.out _ HS.out.row).mono ?_; rintro e w1 ⟨rfl, hB⟩; replace HS := hideL (HS.out.next hB); (try clear c0 c1); have c0 := HS.out.bt.c0; have c1 := HS.out.bt.c1; have LL := hideL (L2.out w1); clear hB)
      | (with_reducible refine LL.out.mono ?_; rintro e wx ⟨rfl, hB⟩; replace HS := hideL (HS.out.next hB); (try clear c0 c1); have c0 := HS.out.bt.c0; have c1 := HS.out.bt.c1; clear hB))
    | (go_at_call 9; with_reducible refine (LW.out _).mono ?_; rintro e wx ⟨rfl, hB⟩; replace HS := hideL (HS.out.next hB); (try clear c0 c1); have c0 := HS.out.bt.c0; have c1 := HS.out.bt.c1; clear hB))
  go_ret
  exact ⟨rfl, HS.out.be⟩
set_option maxRecDepth 100000 in
set_option maxHeartbeats 2000000 in
theorem rows_main (v : Value) (l : List Tm) (t : Tm) (s : ByteArray) (w0 : World) (hv : GAt KT w0 v l) (hm : l.length ≤ maxLen) (ht : t.t.size ≤ maxLen) (hs : s.size ≤ maxLen) (hL1 : longM s l = false) (hL2 : longM s [t] = false) : Calls Try.prog 6 #[v, .agg #[.int .i64 t.k, .string t.t], .string s] w0 (LawPost w0) := by
  unfold maxLen at *
  have LW := hideL awake_any
  have HS := hideL (SR.new t hv)
  have HV0 := hideL hv
  have L1 := hideL (fun W hv => long_any s v l W hv (by omega))
  rw [hL1] at L1
  have L2 : HidL (∀ W : World, Calls Try.prog 8 #[.string s, .slice (some ⟨W.heap.size, 0, none⟩) 1 1] (W.alloc (.cells #[.int .i64 t.k, .string t.t] 23)) (fun e w' => e = .returned (.bool (longM s [t])) ∧ Below W.heap.size W w')) := hideL fun W => long_row s [t] W (show 1 ≤ maxLen by decide)
  rw [hL2] at L2
  obtain ⟨hs1, hl1, hf1⟩ := longM_no hL1
  have ht1 : t.t.size ≤ 1000 := (longM_no hL2).2.2 t (by simp)
  have hfl : Fits l := fun a ha => by have := hf1 a ha; omega
  have hfm : Fits (l ++ [t]) := fun a ha => by
    rcases List.mem_append.1 ha with h | h
    · exact hfl a h
    · rw [List.mem_singleton.1 h]; omega
  have hft : Fits (t :: l) := fun a ha => by
    rcases List.mem_cons.1 ha with h | h
    · rw [h]; omega
    · exact hfl a h
  have LAM := hideL (fun v W hv => any_any s (by omega) v (l ++ [t]) W hv hfm (by simp; omega))
  have LAT := hideL (fun v W hv => any_any s (by omega) v (t :: l) W hv hft (by simp; omega))
  have LAL := hideL (fun v W hv => any_any s (by omega) v l W hv hfl (by omega))
  have LAN := hideL (fun W => any_any s (by omega) (.slice none 0 0) [] W (GAt.nil W) (fun a h => by cases h) (by simp))
  have LEM := hideL (fun v W hv => lets_any s (by omega) v (l ++ [t]) W hv hfm (by simp; omega))
  have LEL := hideL (fun v W hv => lets_any s (by omega) v l W hv hfl (by omega))
  have LEN := hideL (fun W => lets_any s (by omega) (.slice none 0 0) [] W (GAt.nil W) (fun a h => by cases h) (by simp))
  have LM := hideL (matches_any t s (by omega) (by omega))
  rw [any_app, any_one] at LAM
  rw [show anyM s.data.toList (t :: l) = (matM t s.data.toList || anyM s.data.toList l) from rfl] at LAT
  rw [show anyM s.data.toList [] = false from rfl] at LAN
  rw [show letM s.data.toList [] = true from rfl] at LEN
  rw [show letM s.data.toList (l ++ [t]) = (anyM s.data.toList l || matM t s.data.toList) from by unfold letM; rw [any_app, any_one]; cases l <;> rfl] at LEM
  obtain ⟨x, hx⟩ : ∃ x, anyM s.data.toList l = x := ⟨_, rfl⟩
  obtain ⟨y, hy⟩ : ∃ x, matM t s.data.toList = x := ⟨_, rfl⟩
  have hle : letM s.data.toList l = (l.isEmpty || x) := by unfold letM; rw [hx]
  rw [hle] at LEL
  rw [hx] at LAM LAT LAL LEM
  rw [hy] at LAM LAT LM LEM
  obtain ⟨n, hn⟩ : ∃ n, l.length = n := ⟨_, rfl⟩
  have hemp : l.isEmpty = decide (n = 0) := by rw [← hn]; cases l <;> simp
  have hx0 : n = 0 → x = false := fun h => by rw [← hx, List.length_eq_zero_iff.1 (hn.trans h)]; rfl
  rw [hemp] at LEL
  have HN := hideL hn
  have HL60 := hideL (show l.length ≤ 60 from hl1)
  have hn60 : n ≤ 60 := by omega
  have hvL := hv
  obtain ⟨ao, cap, hao⟩ := hv.len
  rw [hn] at hao
  subst hao
  have HVL := hideL hvL
  clear hvL hv hL1 hL2 hle hemp hx hy hfl hfm hft hf1 hn hl1 hm HV0
  obtain ⟨kt, tt⟩ := t
  dsimp only at *
  go_enter Try.func6, Try.ntmps6
  go_upto_region 3 with (go_at_call 8; first | (with_reducible refine (L1.out _ HS.out.row).mono ?_; rintro e w1 ⟨rfl, hB⟩; replace HS := hideL (HS.out.next hB); (try clear c0 c1); have c0 := HS.out.bt.c0; have c1 := HS.out.bt.c1; have LL := hideL (L2.out w1); clear hB) | (with_reducible refine LL.out.mono ?_; rintro e wx ⟨rfl, hB⟩; replace HS := hideL (HS.out.next hB); (try clear c0 c1); have c0 := HS.out.bt.c0; have c1 := HS.out.bt.c1; clear hB))
  go_cut [7] (fun s7 W' => SR w0 (.slice ao n cap) l ⟨kt, tt⟩ W' ∧ GAt KT W' s7 (l ++ [⟨kt, tt⟩]))
  case first =>
    have HGE := hideL (show (w0.heap.size + 1) ≤ wx.heap.size from HS.out.bt.lt)
    have HB0 := hideL ((Below.refl (w0.heap.size + 1) wx).drew)
    refine wp_region_held_drew (S := fun w' => Below (w0.heap.size + 1) wx w') (by kernel_rfl) ((Below.refl _ _).drew) (fun hHeld => ?_)
    generalize wx.drew = V0 at hHeld HB0 ⊢
    refine wpAnyH_take (i := 1) (oi := { dst := some 20, op := Op.move (Operand.tmp 0), type := 24, pos := "law.go:95", after := #[], guard := none }) (v := ?_) rfl (by kernel_rfl) (by kernel_rfl) (by kernel_rfl) (fun _ _ _ h => h) (Or.inl ⟨by rfl, ?_⟩) hHeld ?_
    rotate_left
    · intro w hSw; (try dsimp only at hSw); go_simp; first | done | with_reducible rfl
    try simp only [Act.put, List.setIfInBounds_toArray, List.set_cons_zero, List.set_cons_succ]
    refine wpAnyH_take (i := 3) (oi := { dst := some 22, op := Op.load 23 (Operand.tmp 4), type := 23, pos := "law.go:95", after := #[], guard := none }) (v := ?_) rfl (by kernel_rfl) (by kernel_rfl) (by kernel_rfl) (fun _ _ _ h => h) (Or.inl ⟨by rfl, ?_⟩) hHeld ?_
    rotate_left
    · intro w hSw; (try dsimp only at hSw); have e0 := (hSw.cell (p := ⟨w0.heap.size, 0, none⟩) (Nat.lt_succ_self _)).trans HS.out.bt.c0; have e1 := (hSw.cell (p := ⟨w0.heap.size, 1, none⟩) (Nat.lt_succ_self _)).trans HS.out.bt.c1; go_simp; first | done | with_reducible rfl
    try simp only [Act.put, List.setIfInBounds_toArray, List.set_cons_zero, List.set_cons_succ]
    refine wpAnyH_ready (rs := [0, 4]) (by kernel_rfl) (by simp) ?_
    refine AllReadyH.cons (o := { dst := some 19, op := Op.buildSlice 24 0 #[], type := 24, pos := "law.go:95", after := #[], guard := none }) rfl (fun K hK => ?_) (AllReadyH.cons (o := { dst := some 23, op := Op.buildSlice 24 1 #[(0, Operand.tmp 22)], type := 24, pos := "law.go:95", after := #[{ on := 3, ground := Ground.data }], guard := none }) rfl (fun K hK => ?_) AllReadyH.nil)
    · clear hHeld
      go_simp
      have HA1 : HidL (GRow KT (V0.alloc (.cells #[] 23)) (w0.heap.size + 1) (.slice (some ⟨V0.heap.size, 0, none⟩) 0 0) []) := hideL (GRow.lit (K := KT) V0 (w0.heap.size + 1) [] (Nat.le_trans HGE.out HB0.out.size) (by simp))
      have HB1 := hideL (HB0.out.alloc (Nat.le_trans HGE.out HB0.out.size) (.cells #[] 23))
      obtain ⟨gA, hgA⟩ : ∃ gA, gA = V0.heap.size := ⟨_, rfl⟩
      rw [← hgA] at HA1 ⊢
      clear hgA
      obtain ⟨V1, hVn⟩ : ∃ x, x = V0.alloc (.cells #[] 23) := ⟨_, rfl⟩
      rw [← hVn] at HA1 HB1 ⊢
      clear hVn
      refine hK.out _ _ (HB1.out) (fun hHeld => ?_)
      clear hK K
      try simp only [Act.put, List.setIfInBounds_toArray, List.set_cons_zero, List.set_cons_succ]
      refine wpAnyH_ready (rs := [2, 4]) (by kernel_rfl) (by simp) ?_
      refine AllReadyH.cons (o := { dst := some 21, op := Op.call { callee := Callee.builtin Builtin.append, args := #[Operand.tmp 19, Operand.tmp 20], argTypes := #[24, 24] }, type := 24, pos := "law.go:95", after := #[{ on := 0, ground := Ground.data }, { on := 1, ground := Ground.data }], guard := none }) rfl (fun K hK => ?_) (AllReadyH.cons (o := { dst := some 23, op := Op.buildSlice 24 1 #[(0, Operand.tmp 22)], type := 24, pos := "law.go:95", after := #[{ on := 3, ground := Ground.data }], guard := none }) rfl (fun K hK => ?_) AllReadyH.nil)
      · clear hHeld
        rw [if_pos (by rfl)]
        obtain ⟨vR, V2, hrun, hr, hk⟩ := grow_keep V1 (w0.heap.size + 1) _ [] HA1.out (.slice ao n cap) l (HVL.out.below (HS.out.be.trans (HB1.out.mono (Nat.le_succ _)))) (by have := HL60.out; simp; omega) (Nat.le_trans HGE.out HB1.out.size)
        have hbb : Below (w0.heap.size + 1) V1 V2 := hk.below (fun q hq => HA1.out.ge hq) (Nat.le_trans HGE.out HB1.out.size)
        refine wp_append_runM _ _ _ _ _ rfl rfl _ _ vR V2 rfl rfl hrun ?_
        have HR2 : HidL (GRow KT V2 (w0.heap.size + 1) vR l) := hideL hr
        have HB2 := hideL (HB1.out.trans hbb)
        clear hrun hr hk hbb
        refine hK.out _ _ (HB2.out) (fun hHeld => ?_)
        clear hK K
        try simp only [Act.put, List.setIfInBounds_toArray, List.set_cons_zero, List.set_cons_succ]
        refine wpAnyH_ready (rs := [4]) (by kernel_rfl) (by simp) ?_
        refine AllReadyH.cons (o := { dst := some 23, op := Op.buildSlice 24 1 #[(0, Operand.tmp 22)], type := 24, pos := "law.go:95", after := #[{ on := 3, ground := Ground.data }], guard := none }) rfl (fun K hK => ?_) AllReadyH.nil
        clear hHeld
        go_simp
        have HT3 : HidL (GRow KT (V2.alloc (.cells #[.int .i64 kt, .string tt] 23)) (w0.heap.size + 1) (.slice (some ⟨V2.heap.size, 0, none⟩) 1 1) [⟨kt, tt⟩]) := hideL (GRow.lit (K := KT) V2 (w0.heap.size + 1) [⟨kt, tt⟩] (Nat.le_trans HGE.out HB2.out.size) (show 1 ≤ maxLen by decide))
        have HB3 := hideL (HB2.out.alloc (Nat.le_trans HGE.out HB2.out.size) (.cells #[.int .i64 kt, .string tt] 23))
        have HR3 := hideL (HR2.out.alloc (.cells #[.int .i64 kt, .string tt] 23))
        obtain ⟨gT, hgT⟩ : ∃ gT, gT = V2.heap.size := ⟨_, rfl⟩
        rw [← hgT] at HT3 ⊢
        clear hgT
        obtain ⟨V3, hVn⟩ : ∃ x, x = V2.alloc (.cells #[.int .i64 kt, .string tt] 23) := ⟨_, rfl⟩
        rw [← hVn] at HT3 HB3 HR3 ⊢
        clear hVn
        refine hK.out _ _ (HB3.out) (fun hHeld => ?_)
        clear hK K
        try simp only [Act.put, List.setIfInBounds_toArray, List.set_cons_zero, List.set_cons_succ]
        refine wpAnyH_ready (rs := [5]) (by kernel_rfl) (by simp) ?_
        refine AllReadyH.cons (o := { dst := some 24, op := Op.call { callee := Callee.builtin Builtin.append, args := #[Operand.tmp 21, Operand.tmp 23], argTypes := #[24, 24] }, type := 24, pos := "law.go:95", after := #[{ on := 2, ground := Ground.data }, { on := 4, ground := Ground.data }, { on := 2, ground := Ground.chain }], guard := none }) rfl (fun K hK => ?_) AllReadyH.nil
        clear hHeld
        rw [if_pos (by rfl)]
        obtain ⟨vF, V4, hrun, hr, hbb⟩ := grow_tm V3 (w0.heap.size + 1) _ l HR3.out _ [⟨kt, tt⟩] HT3.out.gAt (by have := HL60.out; simp; omega) (Nat.le_trans HGE.out HB3.out.size)
        refine wp_append_runM _ _ _ _ _ rfl rfl _ _ vF V4 rfl rfl hrun ?_
        have HF := hideL hr.gAt
        have HB4 := hideL (HB3.out.trans hbb)
        clear hrun hr hbb
        refine hK.out _ _ (HB4.out) (fun hHeld => ?_)
        clear hK K
        try simp only [Act.put, List.setIfInBounds_toArray, List.set_cons_zero, List.set_cons_succ]
        refine wpAnyH_take (i := 6) (oi := { dst := some 7, op := Op.assign (Operand.tmp 24), type := 24, pos := "law.go:95", after := #[{ on := 5, ground := Ground.data }, { on := 5, ground := Ground.chain }, { on := 0, ground := Ground.phase }, { on := 1, ground := Ground.phase }, { on := 2, ground := Ground.phase }, { on := 3, ground := Ground.phase }, { on := 4, ground := Ground.phase }, { on := 5, ground := Ground.phase }], guard := none }) (v := ?_) rfl (by kernel_rfl) (by kernel_rfl) (by kernel_rfl) (fun _ _ _ h => h) (Or.inl ⟨by rfl, ?_⟩) hHeld ?_
        rotate_left
        · intro w hSw; (try dsimp only at hSw); go_simp; first | done | with_reducible rfl
        try simp only [Act.put, List.setIfInBounds_toArray, List.set_cons_zero, List.set_cons_succ]
        refine wpAnyH_done (by kernel_rfl) ?_ _
        clear hHeld
        go_wp2_with fail
        go_meet
        case rel => exact ⟨HS.out.over (Nat.lt_succ_self _) HVL.out HB4.out, HF.out⟩
      · clear hHeld
        go_simp
        have HT2 : HidL (GRow KT (V1.alloc (.cells #[.int .i64 kt, .string tt] 23)) (w0.heap.size + 1) (.slice (some ⟨V1.heap.size, 0, none⟩) 1 1) [⟨kt, tt⟩]) := hideL (GRow.lit (K := KT) V1 (w0.heap.size + 1) [⟨kt, tt⟩] (Nat.le_trans HGE.out HB1.out.size) (show 1 ≤ maxLen by decide))
        have HB2 := hideL (HB1.out.alloc (Nat.le_trans HGE.out HB1.out.size) (.cells #[.int .i64 kt, .string tt] 23))
        have HA2 := hideL (HA1.out.alloc (.cells #[.int .i64 kt, .string tt] 23))
        have HNE := hideL (show V1.heap.size ≠ gA from (Nat.ne_of_lt (HA1.out.lt rfl)).symm)
        obtain ⟨gT, hgT⟩ : ∃ gT, gT = V1.heap.size := ⟨_, rfl⟩
        rw [← hgT] at HT2 HNE ⊢
        clear hgT
        obtain ⟨V2, hVn⟩ : ∃ x, x = V1.alloc (.cells #[.int .i64 kt, .string tt] 23) := ⟨_, rfl⟩
        rw [← hVn] at HT2 HB2 HA2 ⊢
        clear hVn
        refine hK.out _ _ (HB2.out) (fun hHeld => ?_)
        clear hK K
        try simp only [Act.put, List.setIfInBounds_toArray, List.set_cons_zero, List.set_cons_succ]
        refine wpAnyH_ready (rs := [2]) (by kernel_rfl) (by simp) ?_
        refine AllReadyH.cons (o := { dst := some 21, op := Op.call { callee := Callee.builtin Builtin.append, args := #[Operand.tmp 19, Operand.tmp 20], argTypes := #[24, 24] }, type := 24, pos := "law.go:95", after := #[{ on := 0, ground := Ground.data }, { on := 1, ground := Ground.data }], guard := none }) rfl (fun K hK => ?_) AllReadyH.nil
        clear hHeld
        rw [if_pos (by rfl)]
        obtain ⟨vR, V3, hrun, hr, hk⟩ := grow_keep V2 (w0.heap.size + 1) _ [] HA2.out (.slice ao n cap) l (HVL.out.below (HS.out.be.trans (HB2.out.mono (Nat.le_succ _)))) (by have := HL60.out; simp; omega) (Nat.le_trans HGE.out HB2.out.size)
        have hbb : Below (w0.heap.size + 1) V2 V3 := hk.below (fun q hq => HA2.out.ge hq) (Nat.le_trans HGE.out HB2.out.size)
        refine wp_append_runM _ _ _ _ _ rfl rfl _ _ vR V3 rfl rfl hrun ?_
        have HR3 : HidL (GRow KT V3 (w0.heap.size + 1) vR l) := hideL hr
        have HB3 := hideL (HB2.out.trans hbb)
        have HT3 := hideL (HT2.out.keep hk (fun q hq he => HNE.out (by injection hq with hq; injection he with he; exact hq.trans he.symm)))
        clear hrun hr hk hbb
        refine hK.out _ _ (HB3.out) (fun hHeld => ?_)
        clear hK K
        try simp only [Act.put, List.setIfInBounds_toArray, List.set_cons_zero, List.set_cons_succ]
        refine wpAnyH_ready (rs := [5]) (by kernel_rfl) (by simp) ?_
        refine AllReadyH.cons (o := { dst := some 24, op := Op.call { callee := Callee.builtin Builtin.append, args := #[Operand.tmp 21, Operand.tmp 23], argTypes := #[24, 24] }, type := 24, pos := "law.go:95", after := #[{ on := 2, ground := Ground.data }, { on := 4, ground := Ground.data }, { on := 2, ground := Ground.chain }], guard := none }) rfl (fun K hK => ?_) AllReadyH.nil
        clear hHeld
        rw [if_pos (by rfl)]
        obtain ⟨vF, V4, hrun, hr, hbb⟩ := grow_tm V3 (w0.heap.size + 1) _ l HR3.out _ [⟨kt, tt⟩] HT3.out.gAt (by have := HL60.out; simp; omega) (Nat.le_trans HGE.out HB3.out.size)
        refine wp_append_runM _ _ _ _ _ rfl rfl _ _ vF V4 rfl rfl hrun ?_
        have HF := hideL hr.gAt
        have HB4 := hideL (HB3.out.trans hbb)
        clear hrun hr hbb
        refine hK.out _ _ (HB4.out) (fun hHeld => ?_)
        clear hK K
        try simp only [Act.put, List.setIfInBounds_toArray, List.set_cons_zero, List.set_cons_succ]
        refine wpAnyH_take (i := 6) (oi := { dst := some 7, op := Op.assign (Operand.tmp 24), type := 24, pos := "law.go:95", after := #[{ on := 5, ground := Ground.data }, { on := 5, ground := Ground.chain }, { on := 0, ground := Ground.phase }, { on := 1, ground := Ground.phase }, { on := 2, ground := Ground.phase }, { on := 3, ground := Ground.phase }, { on := 4, ground := Ground.phase }, { on := 5, ground := Ground.phase }], guard := none }) (v := ?_) rfl (by kernel_rfl) (by kernel_rfl) (by kernel_rfl) (fun _ _ _ h => h) (Or.inl ⟨by rfl, ?_⟩) hHeld ?_
        rotate_left
        · intro w hSw; (try dsimp only at hSw); go_simp; first | done | with_reducible rfl
        try simp only [Act.put, List.setIfInBounds_toArray, List.set_cons_zero, List.set_cons_succ]
        refine wpAnyH_done (by kernel_rfl) ?_ _
        clear hHeld
        go_wp2_with fail
        go_meet
        case rel => exact ⟨HS.out.over (Nat.lt_succ_self _) HVL.out HB4.out, HF.out⟩
    · clear hHeld
      go_simp
      have HT1 : HidL (GRow KT (V0.alloc (.cells #[.int .i64 kt, .string tt] 23)) (w0.heap.size + 1) (.slice (some ⟨V0.heap.size, 0, none⟩) 1 1) [⟨kt, tt⟩]) := hideL (GRow.lit (K := KT) V0 (w0.heap.size + 1) [⟨kt, tt⟩] (Nat.le_trans HGE.out HB0.out.size) (show 1 ≤ maxLen by decide))
      have HB1 := hideL (HB0.out.alloc (Nat.le_trans HGE.out HB0.out.size) (.cells #[.int .i64 kt, .string tt] 23))
      obtain ⟨gT, hgT⟩ : ∃ gT, gT = V0.heap.size := ⟨_, rfl⟩
      rw [← hgT] at HT1 ⊢
      clear hgT
      obtain ⟨V1, hVn⟩ : ∃ x, x = V0.alloc (.cells #[.int .i64 kt, .string tt] 23) := ⟨_, rfl⟩
      rw [← hVn] at HT1 HB1 ⊢
      clear hVn
      refine hK.out _ _ (HB1.out) (fun hHeld => ?_)
      clear hK K
      try simp only [Act.put, List.setIfInBounds_toArray, List.set_cons_zero, List.set_cons_succ]
      refine wpAnyH_ready (rs := [0]) (by kernel_rfl) (by simp) ?_
      refine AllReadyH.cons (o := { dst := some 19, op := Op.buildSlice 24 0 #[], type := 24, pos := "law.go:95", after := #[], guard := none }) rfl (fun K hK => ?_) AllReadyH.nil
      clear hHeld
      go_simp
      have HA2 : HidL (GRow KT (V1.alloc (.cells #[] 23)) (w0.heap.size + 1) (.slice (some ⟨V1.heap.size, 0, none⟩) 0 0) []) := hideL (GRow.lit (K := KT) V1 (w0.heap.size + 1) [] (Nat.le_trans HGE.out HB1.out.size) (by simp))
      have HB2 := hideL (HB1.out.alloc (Nat.le_trans HGE.out HB1.out.size) (.cells #[] 23))
      have HT2 := hideL (HT1.out.alloc (.cells #[] 23))
      have HNE := hideL (show gT ≠ V1.heap.size from Nat.ne_of_lt (HT1.out.lt rfl))
      obtain ⟨gA, hgA⟩ : ∃ gA, gA = V1.heap.size := ⟨_, rfl⟩
      rw [← hgA] at HA2 HNE ⊢
      clear hgA
      obtain ⟨V2, hVn⟩ : ∃ x, x = V1.alloc (.cells #[] 23) := ⟨_, rfl⟩
      rw [← hVn] at HA2 HB2 HT2 ⊢
      clear hVn
      refine hK.out _ _ (HB2.out) (fun hHeld => ?_)
      clear hK K
      try simp only [Act.put, List.setIfInBounds_toArray, List.set_cons_zero, List.set_cons_succ]
      refine wpAnyH_ready (rs := [2]) (by kernel_rfl) (by simp) ?_
      refine AllReadyH.cons (o := { dst := some 21, op := Op.call { callee := Callee.builtin Builtin.append, args := #[Operand.tmp 19, Operand.tmp 20], argTypes := #[24, 24] }, type := 24, pos := "law.go:95", after := #[{ on := 0, ground := Ground.data }, { on := 1, ground := Ground.data }], guard := none }) rfl (fun K hK => ?_) AllReadyH.nil
      clear hHeld
      rw [if_pos (by rfl)]
      obtain ⟨vR, V3, hrun, hr, hk⟩ := grow_keep V2 (w0.heap.size + 1) _ [] HA2.out (.slice ao n cap) l (HVL.out.below (HS.out.be.trans (HB2.out.mono (Nat.le_succ _)))) (by have := HL60.out; simp; omega) (Nat.le_trans HGE.out HB2.out.size)
      have hbb : Below (w0.heap.size + 1) V2 V3 := hk.below (fun q hq => HA2.out.ge hq) (Nat.le_trans HGE.out HB2.out.size)
      refine wp_append_runM _ _ _ _ _ rfl rfl _ _ vR V3 rfl rfl hrun ?_
      have HR3 : HidL (GRow KT V3 (w0.heap.size + 1) vR l) := hideL hr
      have HB3 := hideL (HB2.out.trans hbb)
      have HT3 := hideL (HT2.out.keep hk (fun q hq he => HNE.out (by injection hq with hq; injection he with he; exact hq.trans he.symm)))
      clear hrun hr hk hbb
      refine hK.out _ _ (HB3.out) (fun hHeld => ?_)
      clear hK K
      try simp only [Act.put, List.setIfInBounds_toArray, List.set_cons_zero, List.set_cons_succ]
      refine wpAnyH_ready (rs := [5]) (by kernel_rfl) (by simp) ?_
      refine AllReadyH.cons (o := { dst := some 24, op := Op.call { callee := Callee.builtin Builtin.append, args := #[Operand.tmp 21, Operand.tmp 23], argTypes := #[24, 24] }, type := 24, pos := "law.go:95", after := #[{ on := 2, ground := Ground.data }, { on := 4, ground := Ground.data }, { on := 2, ground := Ground.chain }], guard := none }) rfl (fun K hK => ?_) AllReadyH.nil
      clear hHeld
      rw [if_pos (by rfl)]
      obtain ⟨vF, V4, hrun, hr, hbb⟩ := grow_tm V3 (w0.heap.size + 1) _ l HR3.out _ [⟨kt, tt⟩] HT3.out.gAt (by have := HL60.out; simp; omega) (Nat.le_trans HGE.out HB3.out.size)
      refine wp_append_runM _ _ _ _ _ rfl rfl _ _ vF V4 rfl rfl hrun ?_
      have HF := hideL hr.gAt
      have HB4 := hideL (HB3.out.trans hbb)
      clear hrun hr hbb
      refine hK.out _ _ (HB4.out) (fun hHeld => ?_)
      clear hK K
      try simp only [Act.put, List.setIfInBounds_toArray, List.set_cons_zero, List.set_cons_succ]
      refine wpAnyH_take (i := 6) (oi := { dst := some 7, op := Op.assign (Operand.tmp 24), type := 24, pos := "law.go:95", after := #[{ on := 5, ground := Ground.data }, { on := 5, ground := Ground.chain }, { on := 0, ground := Ground.phase }, { on := 1, ground := Ground.phase }, { on := 2, ground := Ground.phase }, { on := 3, ground := Ground.phase }, { on := 4, ground := Ground.phase }, { on := 5, ground := Ground.phase }], guard := none }) (v := ?_) rfl (by kernel_rfl) (by kernel_rfl) (by kernel_rfl) (fun _ _ _ h => h) (Or.inl ⟨by rfl, ?_⟩) hHeld ?_
      rotate_left
      · intro w hSw; (try dsimp only at hSw); go_simp; first | done | with_reducible rfl
      try simp only [Act.put, List.setIfInBounds_toArray, List.set_cons_zero, List.set_cons_succ]
      refine wpAnyH_done (by kernel_rfl) ?_ _
      clear hHeld
      go_wp2_with fail
      go_meet
      case rel => exact ⟨HS.out.over (Nat.lt_succ_self _) HVL.out HB4.out, HF.out⟩
  case rest =>
    obtain ⟨hsr, hg7⟩ := hcut
    have h4 := GRow.lit (K := KT) wc wc.heap.size [⟨kt, tt⟩] (Nat.le_refl _) (show 1 ≤ maxLen by decide)
    have h4b := (Below.refl wc.heap.size wc).alloc (Nat.le_refl _) (.cells #[.int .i64 kt, .string tt] 23)
    obtain ⟨v8, w8, hrun, hr8, hb8⟩ := grow_tm _ wc.heap.size _ _ h4 (.slice ao n cap) l (hsr.row.below h4b) (by have := HL60.out; simp; omega) (by simp)
    have HRUN := hideL hrun
    have hb9 := h4b.trans hb8
    have HS := hideL (hsr.next hb9)
    have HG7 := hideL (hg7.below hb9)
    have HG8 := hideL (show GAt KT w8 v8 (⟨kt, tt⟩ :: l) from hr8.gAt)
    have q0 := hsr.bt.c0
    have q1 := hsr.bt.c1
    have c0 := HS.out.bt.c0
    have c1 := HS.out.bt.c1
    clear hsr hg7 h4 h4b hrun hr8 hb8 hb9 HVL L1 L2
    by_cases hn : n = 0
    · have hx : x = false := hx0 hn
      subst hx
      subst hn
      rw [decide_eq_true rfl, Bool.true_or] at LEL
      clear hx0
      cases y
      · go_wp2_with (first
          | (at_builtin; refine wpList_append_runM rfl _ _ _ _ _ rfl rfl _ _ v8 w8 rfl rfl HRUN.out ?_)
          | (go_at_call 16; first
      | (with_reducible refine (LAM.out _ _ HG7.out).mono ?_; rintro e wx ⟨rfl, hB⟩; replace HS := hideL (HS.out.next hB); replace HG7 := hideL (HG7.out.below hB); replace HG8 := hideL (HG8.out.below hB); (try clear c0 c1); have c0 := HS.out.bt.c0; have c1 := HS.out.bt.c1; clear hB)
      | (with_reducible refine (LAT.out _ _ HG8.out).mono ?_; rintro e wx ⟨rfl, hB⟩; replace HS := hideL (HS.out.next hB); replace HG7 := hideL (HG7.out.below hB); replace HG8 := hideL (HG8.out.below hB); (try clear c0 c1); have c0 := HS.out.bt.c0; have c1 := HS.out.bt.c1; clear hB)
      | (with_reducible refine (LAL.out _ _ HS.out.row).mono ?_; rintro e wx ⟨rfl, hB⟩; replace HS := hideL (HS.out.next hB); replace HG7 := hideL (HG7.out.below hB); replace HG8 := hideL (HG8.out.below hB); (try clear c0 c1); have c0 := HS.out.bt.c0; have c1 := HS.out.bt.c1; clear hB)
      | (with_reducible refine (LAN.out _).mono ?_; rintro e wx ⟨rfl, hB⟩; replace HS := hideL (HS.out.next hB); replace HG7 := hideL (HG7.out.below hB); replace HG8 := hideL (HG8.out.below hB); (try clear c0 c1); have c0 := HS.out.bt.c0; have c1 := HS.out.bt.c1; clear hB))
          | (go_at_call 18; first
      | (with_reducible refine (LEM.out _ _ HG7.out).mono ?_; rintro e wx ⟨rfl, hB⟩; replace HS := hideL (HS.out.next hB); replace HG7 := hideL (HG7.out.below hB); replace HG8 := hideL (HG8.out.below hB); (try clear c0 c1); have c0 := HS.out.bt.c0; have c1 := HS.out.bt.c1; clear hB)
      | (with_reducible refine (LEL.out _ _ HS.out.row).mono ?_; rintro e wx ⟨rfl, hB⟩; replace HS := hideL (HS.out.next hB); replace HG7 := hideL (HG7.out.below hB); replace HG8 := hideL (HG8.out.below hB); (try clear c0 c1); have c0 := HS.out.bt.c0; have c1 := HS.out.bt.c1; clear hB)
      | (with_reducible refine (LEN.out _).mono ?_; rintro e wx ⟨rfl, hB⟩; replace HS := hideL (HS.out.next hB); replace HG7 := hideL (HG7.out.below hB); replace HG8 := hideL (HG8.out.below hB); (try clear c0 c1); have c0 := HS.out.bt.c0; have c1 := HS.out.bt.c1; clear hB))
          | (go_at_call 14; with_reducible refine (LM.out _).mono ?_; rintro e wx ⟨rfl, hB⟩; replace HS := hideL (HS.out.next hB); replace HG7 := hideL (HG7.out.below hB); replace HG8 := hideL (HG8.out.below hB); (try clear c0 c1); have c0 := HS.out.bt.c0; have c1 := HS.out.bt.c1; clear hB)
          | (go_at_call 9; with_reducible refine (LW.out _).mono ?_; rintro e wx ⟨rfl, hB⟩; replace HS := hideL (HS.out.next hB); replace HG7 := hideL (HG7.out.below hB); replace HG8 := hideL (HG8.out.below hB); (try clear c0 c1); have c0 := HS.out.bt.c0; have c1 := HS.out.bt.c1; clear hB))
        go_ret
        exact ⟨rfl, HS.out.be⟩
      · go_wp2_with (first
          | (at_builtin; refine wpList_append_runM rfl _ _ _ _ _ rfl rfl _ _ v8 w8 rfl rfl HRUN.out ?_)
          | (go_at_call 16; first
      | (with_reducible refine (LAM.out _ _ HG7.out).mono ?_; rintro e wx ⟨rfl, hB⟩; replace HS := hideL (HS.out.next hB); replace HG7 := hideL (HG7.out.below hB); replace HG8 := hideL (HG8.out.below hB); (try clear c0 c1); have c0 := HS.out.bt.c0; have c1 := HS.out.bt.c1; clear hB)
      | (with_reducible refine (LAT.out _ _ HG8.out).mono ?_; rintro e wx ⟨rfl, hB⟩; replace HS := hideL (HS.out.next hB); replace HG7 := hideL (HG7.out.below hB); replace HG8 := hideL (HG8.out.below hB); (try clear c0 c1); have c0 := HS.out.bt.c0; have c1 := HS.out.bt.c1; clear hB)
      | (with_reducible refine (LAL.out _ _ HS.out.row).mono ?_; rintro e wx ⟨rfl, hB⟩; replace HS := hideL (HS.out.next hB); replace HG7 := hideL (HG7.out.below hB); replace HG8 := hideL (HG8.out.below hB); (try clear c0 c1); have c0 := HS.out.bt.c0; have c1 := HS.out.bt.c1; clear hB)
      | (with_reducible refine (LAN.out _).mono ?_; rintro e wx ⟨rfl, hB⟩; replace HS := hideL (HS.out.next hB); replace HG7 := hideL (HG7.out.below hB); replace HG8 := hideL (HG8.out.below hB); (try clear c0 c1); have c0 := HS.out.bt.c0; have c1 := HS.out.bt.c1; clear hB))
          | (go_at_call 18; first
      | (with_reducible refine (LEM.out _ _ HG7.out).mono ?_; rintro e wx ⟨rfl, hB⟩; replace HS := hideL (HS.out.next hB); replace HG7 := hideL (HG7.out.below hB); replace HG8 := hideL (HG8.out.below hB); (try clear c0 c1); have c0 := HS.out.bt.c0; have c1 := HS.out.bt.c1; clear hB)
      | (with_reducible refine (LEL.out _ _ HS.out.row).mono ?_; rintro e wx ⟨rfl, hB⟩; replace HS := hideL (HS.out.next hB); replace HG7 := hideL (HG7.out.below hB); replace HG8 := hideL (HG8.out.below hB); (try clear c0 c1); have c0 := HS.out.bt.c0; have c1 := HS.out.bt.c1; clear hB)
      | (with_reducible refine (LEN.out _).mono ?_; rintro e wx ⟨rfl, hB⟩; replace HS := hideL (HS.out.next hB); replace HG7 := hideL (HG7.out.below hB); replace HG8 := hideL (HG8.out.below hB); (try clear c0 c1); have c0 := HS.out.bt.c0; have c1 := HS.out.bt.c1; clear hB))
          | (go_at_call 14; with_reducible refine (LM.out _).mono ?_; rintro e wx ⟨rfl, hB⟩; replace HS := hideL (HS.out.next hB); replace HG7 := hideL (HG7.out.below hB); replace HG8 := hideL (HG8.out.below hB); (try clear c0 c1); have c0 := HS.out.bt.c0; have c1 := HS.out.bt.c1; clear hB)
          | (go_at_call 9; with_reducible refine (LW.out _).mono ?_; rintro e wx ⟨rfl, hB⟩; replace HS := hideL (HS.out.next hB); replace HG7 := hideL (HG7.out.below hB); replace HG8 := hideL (HG8.out.below hB); (try clear c0 c1); have c0 := HS.out.bt.c0; have c1 := HS.out.bt.c1; clear hB))
        go_ret
        exact ⟨rfl, HS.out.be⟩
    · have hn' : ((n : Int) == 0) = false := beq_eq_false_iff_ne.2 (by omega)
      rw [decide_eq_false hn, Bool.false_or] at LEL
      clear hx0
      cases x
      · cases y
        · go_wp2_with (first
            | (at_builtin; refine wpList_append_runM rfl _ _ _ _ _ rfl rfl _ _ v8 w8 rfl rfl HRUN.out ?_)
            | (go_at_call 16; first
      | (with_reducible refine (LAM.out _ _ HG7.out).mono ?_; rintro e wx ⟨rfl, hB⟩; replace HS := hideL (HS.out.next hB); replace HG7 := hideL (HG7.out.below hB); replace HG8 := hideL (HG8.out.below hB); (try clear c0 c1); have c0 := HS.out.bt.c0; have c1 := HS.out.bt.c1; clear hB)
      | (with_reducible refine (LAT.out _ _ HG8.out).mono ?_; rintro e wx ⟨rfl, hB⟩; replace HS := hideL (HS.out.next hB); replace HG7 := hideL (HG7.out.below hB); replace HG8 := hideL (HG8.out.below hB); (try clear c0 c1); have c0 := HS.out.bt.c0; have c1 := HS.out.bt.c1; clear hB)
      | (with_reducible refine (LAL.out _ _ HS.out.row).mono ?_; rintro e wx ⟨rfl, hB⟩; replace HS := hideL (HS.out.next hB); replace HG7 := hideL (HG7.out.below hB); replace HG8 := hideL (HG8.out.below hB); (try clear c0 c1); have c0 := HS.out.bt.c0; have c1 := HS.out.bt.c1; clear hB)
      | (with_reducible refine (LAN.out _).mono ?_; rintro e wx ⟨rfl, hB⟩; replace HS := hideL (HS.out.next hB); replace HG7 := hideL (HG7.out.below hB); replace HG8 := hideL (HG8.out.below hB); (try clear c0 c1); have c0 := HS.out.bt.c0; have c1 := HS.out.bt.c1; clear hB))
            | (go_at_call 18; first
      | (with_reducible refine (LEM.out _ _ HG7.out).mono ?_; rintro e wx ⟨rfl, hB⟩; replace HS := hideL (HS.out.next hB); replace HG7 := hideL (HG7.out.below hB); replace HG8 := hideL (HG8.out.below hB); (try clear c0 c1); have c0 := HS.out.bt.c0; have c1 := HS.out.bt.c1; clear hB)
      | (with_reducible refine (LEL.out _ _ HS.out.row).mono ?_; rintro e wx ⟨rfl, hB⟩; replace HS := hideL (HS.out.next hB); replace HG7 := hideL (HG7.out.below hB); replace HG8 := hideL (HG8.out.below hB); (try clear c0 c1); have c0 := HS.out.bt.c0; have c1 := HS.out.bt.c1; clear hB)
      | (with_reducible refine (LEN.out _).mono ?_; rintro e wx ⟨rfl, hB⟩; replace HS := hideL (HS.out.next hB); replace HG7 := hideL (HG7.out.below hB); replace HG8 := hideL (HG8.out.below hB); (try clear c0 c1); have c0 := HS.out.bt.c0; have c1 := HS.out.bt.c1; clear hB))
            | (go_at_call 14; with_reducible refine (LM.out _).mono ?_; rintro e wx ⟨rfl, hB⟩; replace HS := hideL (HS.out.next hB); replace HG7 := hideL (HG7.out.below hB); replace HG8 := hideL (HG8.out.below hB); (try clear c0 c1); have c0 := HS.out.bt.c0; have c1 := HS.out.bt.c1; clear hB)
            | (go_at_call 9; with_reducible refine (LW.out _).mono ?_; rintro e wx ⟨rfl, hB⟩; replace HS := hideL (HS.out.next hB); replace HG7 := hideL (HG7.out.below hB); replace HG8 := hideL (HG8.out.below hB); (try clear c0 c1); have c0 := HS.out.bt.c0; have c1 := HS.out.bt.c1; clear hB))
          go_ret
          exact ⟨rfl, HS.out.be⟩
        · go_wp2_with (first
            | (at_builtin; refine wpList_append_runM rfl _ _ _ _ _ rfl rfl _ _ v8 w8 rfl rfl HRUN.out ?_)
            | (go_at_call 16; first
      | (with_reducible refine (LAM.out _ _ HG7.out).mono ?_; rintro e wx ⟨rfl, hB⟩; replace HS := hideL (HS.out.next hB); replace HG7 := hideL (HG7.out.below hB); replace HG8 := hideL (HG8.out.below hB); (try clear c0 c1); have c0 := HS.out.bt.c0; have c1 := HS.out.bt.c1; clear hB)
      | (with_reducible refine (LAT.out _ _ HG8.out).mono ?_; rintro e wx ⟨rfl, hB⟩; replace HS := hideL (HS.out.next hB); replace HG7 := hideL (HG7.out.below hB); replace HG8 := hideL (HG8.out.below hB); (try clear c0 c1); have c0 := HS.out.bt.c0; have c1 := HS.out.bt.c1; clear hB)
      | (with_reducible refine (LAL.out _ _ HS.out.row).mono ?_; rintro e wx ⟨rfl, hB⟩; replace HS := hideL (HS.out.next hB); replace HG7 := hideL (HG7.out.below hB); replace HG8 := hideL (HG8.out.below hB); (try clear c0 c1); have c0 := HS.out.bt.c0; have c1 := HS.out.bt.c1; clear hB)
      | (with_reducible refine (LAN.out _).mono ?_; rintro e wx ⟨rfl, hB⟩; replace HS := hideL (HS.out.next hB); replace HG7 := hideL (HG7.out.below hB); replace HG8 := hideL (HG8.out.below hB); (try clear c0 c1); have c0 := HS.out.bt.c0; have c1 := HS.out.bt.c1; clear hB))
            | (go_at_call 18; first
      | (with_reducible refine (LEM.out _ _ HG7.out).mono ?_; rintro e wx ⟨rfl, hB⟩; replace HS := hideL (HS.out.next hB); replace HG7 := hideL (HG7.out.below hB); replace HG8 := hideL (HG8.out.below hB); (try clear c0 c1); have c0 := HS.out.bt.c0; have c1 := HS.out.bt.c1; clear hB)
      | (with_reducible refine (LEL.out _ _ HS.out.row).mono ?_; rintro e wx ⟨rfl, hB⟩; replace HS := hideL (HS.out.next hB); replace HG7 := hideL (HG7.out.below hB); replace HG8 := hideL (HG8.out.below hB); (try clear c0 c1); have c0 := HS.out.bt.c0; have c1 := HS.out.bt.c1; clear hB)
      | (with_reducible refine (LEN.out _).mono ?_; rintro e wx ⟨rfl, hB⟩; replace HS := hideL (HS.out.next hB); replace HG7 := hideL (HG7.out.below hB); replace HG8 := hideL (HG8.out.below hB); (try clear c0 c1); have c0 := HS.out.bt.c0; have c1 := HS.out.bt.c1; clear hB))
            | (go_at_call 14; with_reducible refine (LM.out _).mono ?_; rintro e wx ⟨rfl, hB⟩; replace HS := hideL (HS.out.next hB); replace HG7 := hideL (HG7.out.below hB); replace HG8 := hideL (HG8.out.below hB); (try clear c0 c1); have c0 := HS.out.bt.c0; have c1 := HS.out.bt.c1; clear hB)
            | (go_at_call 9; with_reducible refine (LW.out _).mono ?_; rintro e wx ⟨rfl, hB⟩; replace HS := hideL (HS.out.next hB); replace HG7 := hideL (HG7.out.below hB); replace HG8 := hideL (HG8.out.below hB); (try clear c0 c1); have c0 := HS.out.bt.c0; have c1 := HS.out.bt.c1; clear hB))
          go_ret
          exact ⟨rfl, HS.out.be⟩
      · cases y
        · go_wp2_with (first
            | (at_builtin; refine wpList_append_runM rfl _ _ _ _ _ rfl rfl _ _ v8 w8 rfl rfl HRUN.out ?_)
            | (go_at_call 16; first
      | (with_reducible refine (LAM.out _ _ HG7.out).mono ?_; rintro e wx ⟨rfl, hB⟩; replace HS := hideL (HS.out.next hB); replace HG7 := hideL (HG7.out.below hB); replace HG8 := hideL (HG8.out.below hB); (try clear c0 c1); have c0 := HS.out.bt.c0; have c1 := HS.out.bt.c1; clear hB)
      | (with_reducible refine (LAT.out _ _ HG8.out).mono ?_; rintro e wx ⟨rfl, hB⟩; replace HS := hideL (HS.out.next hB); replace HG7 := hideL (HG7.out.below hB); replace HG8 := hideL (HG8.out.below hB); (try clear c0 c1); have c0 := HS.out.bt.c0; have c1 := HS.out.bt.c1; clear hB)
      | (with_reducible refine (LAL.out _ _ HS.out.row).mono ?_; rintro e wx ⟨rfl, hB⟩; replace HS := hideL (HS.out.next hB); replace HG7 := hideL (HG7.out.below hB); replace HG8 := hideL (HG8.out.below hB); (try clear c0 c1); have c0 := HS.out.bt.c0; have c1 := HS.out.bt.c1; clear hB)
      | (with_reducible refine (LAN.out _).mono ?_; rintro e wx ⟨rfl, hB⟩; replace HS := hideL (HS.out.next hB); replace HG7 := hideL (HG7.out.below hB); replace HG8 := hideL (HG8.out.below hB); (try clear c0 c1); have c0 := HS.out.bt.c0; have c1 := HS.out.bt.c1; clear hB))
            | (go_at_call 18; first
      | (with_reducible refine (LEM.out _ _ HG7.out).mono ?_; rintro e wx ⟨rfl, hB⟩; replace HS := hideL (HS.out.next hB); replace HG7 := hideL (HG7.out.below hB); replace HG8 := hideL (HG8.out.below hB); (try clear c0 c1); have c0 := HS.out.bt.c0; have c1 := HS.out.bt.c1; clear hB)
      | (with_reducible refine (LEL.out _ _ HS.out.row).mono ?_; rintro e wx ⟨rfl, hB⟩; replace HS := hideL (HS.out.next hB); replace HG7 := hideL (HG7.out.below hB); replace HG8 := hideL (HG8.out.below hB); (try clear c0 c1); have c0 := HS.out.bt.c0; have c1 := HS.out.bt.c1; clear hB)
      | (with_reducible refine (LEN.out _).mono ?_; rintro e wx ⟨rfl, hB⟩; replace HS := hideL (HS.out.next hB); replace HG7 := hideL (HG7.out.below hB); replace HG8 := hideL (HG8.out.below hB); (try clear c0 c1); have c0 := HS.out.bt.c0; have c1 := HS.out.bt.c1; clear hB))
            | (go_at_call 14; with_reducible refine (LM.out _).mono ?_; rintro e wx ⟨rfl, hB⟩; replace HS := hideL (HS.out.next hB); replace HG7 := hideL (HG7.out.below hB); replace HG8 := hideL (HG8.out.below hB); (try clear c0 c1); have c0 := HS.out.bt.c0; have c1 := HS.out.bt.c1; clear hB)
            | (go_at_call 9; with_reducible refine (LW.out _).mono ?_; rintro e wx ⟨rfl, hB⟩; replace HS := hideL (HS.out.next hB); replace HG7 := hideL (HG7.out.below hB); replace HG8 := hideL (HG8.out.below hB); (try clear c0 c1); have c0 := HS.out.bt.c0; have c1 := HS.out.bt.c1; clear hB))
          go_ret
          exact ⟨rfl, HS.out.be⟩
        · go_wp2_with (first
            | (at_builtin; refine wpList_append_runM rfl _ _ _ _ _ rfl rfl _ _ v8 w8 rfl rfl HRUN.out ?_)
            | (go_at_call 16; first
      | (with_reducible refine (LAM.out _ _ HG7.out).mono ?_; rintro e wx ⟨rfl, hB⟩; replace HS := hideL (HS.out.next hB); replace HG7 := hideL (HG7.out.below hB); replace HG8 := hideL (HG8.out.below hB); (try clear c0 c1); have c0 := HS.out.bt.c0; have c1 := HS.out.bt.c1; clear hB)
      | (with_reducible refine (LAT.out _ _ HG8.out).mono ?_; rintro e wx ⟨rfl, hB⟩; replace HS := hideL (HS.out.next hB); replace HG7 := hideL (HG7.out.below hB); replace HG8 := hideL (HG8.out.below hB); (try clear c0 c1); have c0 := HS.out.bt.c0; have c1 := HS.out.bt.c1; clear hB)
      | (with_reducible refine (LAL.out _ _ HS.out.row).mono ?_; rintro e wx ⟨rfl, hB⟩; replace HS := hideL (HS.out.next hB); replace HG7 := hideL (HG7.out.below hB); replace HG8 := hideL (HG8.out.below hB); (try clear c0 c1); have c0 := HS.out.bt.c0; have c1 := HS.out.bt.c1; clear hB)
      | (with_reducible refine (LAN.out _).mono ?_; rintro e wx ⟨rfl, hB⟩; replace HS := hideL (HS.out.next hB); replace HG7 := hideL (HG7.out.below hB); replace HG8 := hideL (HG8.out.below hB); (try clear c0 c1); have c0 := HS.out.bt.c0; have c1 := HS.out.bt.c1; clear hB))
            | (go_at_call 18; first
      | (with_reducible refine (LEM.out _ _ HG7.out).mono ?_; rintro e wx ⟨rfl, hB⟩; replace HS := hideL (HS.out.next hB); replace HG7 := hideL (HG7.out.below hB); replace HG8 := hideL (HG8.out.below hB); (try clear c0 c1); have c0 := HS.out.bt.c0; have c1 := HS.out.bt.c1; clear hB)
      | (with_reducible refine (LEL.out _ _ HS.out.row).mono ?_; rintro e wx ⟨rfl, hB⟩; replace HS := hideL (HS.out.next hB); replace HG7 := hideL (HG7.out.below hB); replace HG8 := hideL (HG8.out.below hB); (try clear c0 c1); have c0 := HS.out.bt.c0; have c1 := HS.out.bt.c1; clear hB)
      | (with_reducible refine (LEN.out _).mono ?_; rintro e wx ⟨rfl, hB⟩; replace HS := hideL (HS.out.next hB); replace HG7 := hideL (HG7.out.below hB); replace HG8 := hideL (HG8.out.below hB); (try clear c0 c1); have c0 := HS.out.bt.c0; have c1 := HS.out.bt.c1; clear hB))
            | (go_at_call 14; with_reducible refine (LM.out _).mono ?_; rintro e wx ⟨rfl, hB⟩; replace HS := hideL (HS.out.next hB); replace HG7 := hideL (HG7.out.below hB); replace HG8 := hideL (HG8.out.below hB); (try clear c0 c1); have c0 := HS.out.bt.c0; have c1 := HS.out.bt.c1; clear hB)
            | (go_at_call 9; with_reducible refine (LW.out _).mono ?_; rintro e wx ⟨rfl, hB⟩; replace HS := hideL (HS.out.next hB); replace HG7 := hideL (HG7.out.below hB); replace HG8 := hideL (HG8.out.below hB); (try clear c0 c1); have c0 := HS.out.bt.c0; have c1 := HS.out.bt.c1; clear hB))
          go_ret
          exact ⟨rfl, HS.out.be⟩
theorem matchRows_walk (v : Value) (l : List Tm) (t : Tm) (s : ByteArray) (w0 : World) (hv : GAt KT w0 v l) (_hok : ∀ c ∈ l, c.t.size ≤ maxLen) (hm : l.length ≤ maxLen) (ht : t.t.size ≤ maxLen) (hs : s.size ≤ maxLen) : Calls Try.prog 6 #[v, .agg #[.int .i64 t.k, .string t.t], .string s] w0 (LawPost w0) := by
  cases hL1 : longM s l with
  | true => exact rows_long1 v l t s w0 hv hm ht hs hL1
  | false =>
    cases hL2 : longM s [t] with
    | true => exact rows_long2 v l t s w0 hv hm ht hs hL1 hL2
    | false => exact rows_main v l t s w0 hv hm ht hs hL1 hL2
end Go.Proofs.Ytffbmkocmjpmeaa
