/- The law MatchTerms (P7.1, P7.2, P7.4, P7.5). -/
import Derived.Test.YtffbmkocmjpmeaaMatchRowsLaw
import Derived.Test.YtffbmkocmjpmeaaMtRPar
namespace Go.Proofs.Ytffbmkocmjpmeaa
open Go.RowKit

set_option maxRecDepth 100000 in
set_option maxHeartbeats 2000000 in
theorem terms_long1 (t : Tm) (v : Value) (l : List Tm) (s : ByteArray) (w0 : World) (hv : GAt KT w0 v l) (hm : l.length ≤ maxLen) (ht : t.t.size ≤ maxLen) (_ : s.size ≤ maxLen) (hL1 : longM s l = true) : Calls Try.prog 3 #[.agg #[.int .i64 t.k, .string t.t], v, .string s] w0 (LawPost w0) := by
  unfold maxLen at *
  have LW := hideL awake_any
  have HS := hideL (SR.new t hv)
  have HV0 := hideL hv
  have L1 := hideL (fun W hv => long_any s v l W hv (by omega))
  rw [hL1] at L1
  clear hL1
  obtain ⟨kt, tt⟩ := t
  obtain ⟨ao, cap, rfl⟩ := hv.len
  clear hv
  dsimp only at *
  go_enter Try.func3, Try.ntmps3
  go_wp2_with (first
    | (go_at_call 8; with_reducible refine (L1.out _ HS.out.row).mono ?_; rintro e wx ⟨rfl, hB⟩; replace HS := hideL (HS.out.next hB); (try clear c0 c1); have c0 := HS.out.bt.c0; have c1 := HS.out.bt.c1; clear hB)
    | (go_at_call 9; with_reducible refine (LW.out _).mono ?_; rintro e wx ⟨rfl, hB⟩; replace HS := hideL (HS.out.next hB); (try clear c0 c1); have c0 := HS.out.bt.c0; have c1 := HS.out.bt.c1; clear hB))
  go_ret
  exact ⟨rfl, HS.out.be⟩
set_option maxRecDepth 100000 in
set_option maxHeartbeats 2000000 in
theorem terms_long2 (t : Tm) (v : Value) (l : List Tm) (s : ByteArray) (w0 : World) (hv : GAt KT w0 v l) (hm : l.length ≤ maxLen) (ht : t.t.size ≤ maxLen) (_ : s.size ≤ maxLen) (hL1 : longM s l = false) (hL2 : longM s [t] = true) : Calls Try.prog 3 #[.agg #[.int .i64 t.k, .string t.t], v, .string s] w0 (LawPost w0) := by
  unfold maxLen at *
  have LW := hideL awake_any
  have HS := hideL (SR.new t hv)
  have HV0 := hideL hv
  have L1 := hideL (fun W hv => long_any s v l W hv (by omega))
  rw [hL1] at L1
  have L2 : HidL (∀ W : World, Calls Try.prog 8 #[.string s, .slice (some ⟨W.heap.size, 0, none⟩) 1 1] (W.alloc (.cells #[.int .i64 t.k, .string t.t] 23)) (fun e w' => e = .returned (.bool (longM s [t])) ∧ Below W.heap.size W w')) := hideL fun W => long_row s [t] W (show 1 ≤ maxLen by decide)
  rw [hL2] at L2
  clear hL1 hL2
  obtain ⟨kt, tt⟩ := t
  obtain ⟨ao, cap, rfl⟩ := hv.len
  clear hv
  dsimp only at *
  go_enter Try.func3, Try.ntmps3
  go_wp2_with (first
    | (go_at_call 8; first
      | (with_reducible refine (L1.out _ HS.out.row).mono ?_; rintro e w1 ⟨rfl, hB⟩; replace HS := hideL (HS.out.next hB); (try clear c0 c1); have c0 := HS.out.bt.c0; have c1 := HS.out.bt.c1; have LL := hideL (L2.out w1); clear hB)
      | (with_reducible refine LL.out.mono ?_; rintro e wx ⟨rfl, hB⟩; replace HS := hideL (HS.out.next hB); (try clear c0 c1); have c0 := HS.out.bt.c0; have c1 := HS.out.bt.c1; clear hB))
    | (go_at_call 9; with_reducible refine (LW.out _).mono ?_; rintro e wx ⟨rfl, hB⟩; replace HS := hideL (HS.out.next hB); (try clear c0 c1); have c0 := HS.out.bt.c0; have c1 := HS.out.bt.c1; clear hB))
  go_ret
  exact ⟨rfl, HS.out.be⟩
set_option maxRecDepth 100000 in
set_option maxHeartbeats 2000000 in
theorem terms_main (t : Tm) (v : Value) (l : List Tm) (s : ByteArray) (w0 : World) (hv : GAt KT w0 v l) (hm : l.length ≤ maxLen) (ht : t.t.size ≤ maxLen) (hs : s.size ≤ maxLen) (hL1 : longM s l = false) (hL2 : longM s [t] = false) : Calls Try.prog 3 #[.agg #[.int .i64 t.k, .string t.t], v, .string s] w0 (LawPost w0) := by
  unfold maxLen at *
  have LW := hideL awake_any
  have HS := hideL (SR.new t hv)
  have HV0 := hideL hv
  have L1 := hideL (fun W hv => long_any s v l W hv (by omega))
  rw [hL1] at L1
  have L2 : HidL (∀ W : World, Calls Try.prog 8 #[.string s, .slice (some ⟨W.heap.size, 0, none⟩) 1 1] (W.alloc (.cells #[.int .i64 t.k, .string t.t] 23)) (fun e w' => e = .returned (.bool (longM s [t])) ∧ Below W.heap.size W w')) := hideL fun W => long_row s [t] W (show 1 ≤ maxLen by decide)
  rw [hL2] at L2
  obtain ⟨hs1, hl1, hf1⟩ := longM_no hL1
  have ht1 : t.t.size ≤ 1000 := (longM_no hL2).2.2 t (by simp)
  have hfl : Fits l := fun a ha => by have := hf1 a ha; omega
  have YP := hideL (may_any t (by omega))
  have YR := hideL (mayR_any t (by omega))
  have AP := hideL (fun v W hv => mayAll_any v l W hv hfl (by omega))
  have AR := hideL (fun v W hv => mayAllR_any v l W hv hfl (by omega))
  have MP := hideL (matches_any t s (by omega) (by omega))
  have MR := hideL (matchesR_any t s (by omega) (by omega))
  have NP := hideL (fun v W hv => any_any s (by omega) v l W hv hfl (by omega))
  have NR := hideL (fun v W hv => anyR_any v l s (by omega) W hv hfl (by omega))
  have EP := hideL (fun v W hv => lets_any s (by omega) v l W hv hfl (by omega))
  have PP := hideL (print_any t (by omega))
  have PR := hideL (printR_any t (by omega))
  have QP := hideL (parse_any s (by omega))
  have QR := hideL (parseR_any s (by omega))
  unfold prV at PP
  unfold paV at QP
  unfold paRV at QR
  obtain ⟨ma, hma⟩ : ∃ x, mayM t = x := ⟨_, rfl⟩
  obtain ⟨al, hal⟩ : ∃ x, mayAllM l = x := ⟨_, rfl⟩
  obtain ⟨mt, hmt⟩ : ∃ x, matM t s.data.toList = x := ⟨_, rfl⟩
  have hle : letM s.data.toList l = (l.isEmpty || anyM s.data.toList l) := rfl
  obtain ⟨an, han⟩ : ∃ x, anyM s.data.toList l = x := ⟨_, rfl⟩
  obtain ⟨pr, hpr⟩ : ∃ x, prM t = x := ⟨_, rfl⟩
  obtain ⟨pa, hpa⟩ : ∃ x, parM s.data.toList = x := ⟨_, rfl⟩
  rw [hle, han] at EP
  rw [hma] at YP YR PP
  rw [hal] at AP AR
  rw [hmt] at MP MR
  rw [han] at NP NR
  rw [hpr] at PP PR
  rw [hpa] at QP QR
  obtain ⟨n, hn⟩ : ∃ n, l.length = n := ⟨_, rfl⟩
  have hemp : l.isEmpty = decide (n = 0) := by rw [← hn]; cases l <;> simp
  rw [hemp] at EP
  have HN := hideL hn
  have HL60 := hideL (show l.length ≤ 60 from hl1)
  have hn60 : n ≤ 60 := by omega
  have hvL := hv
  obtain ⟨ao, cap, hao⟩ := hv.len
  rw [hn] at hao
  subst hao
  have HVL := hideL hvL
  clear hvL hv hL1 hL2 hle hemp hfl hf1 hn hl1 hm HV0 hma hal hmt han hpr hpa
  obtain ⟨kt, tt⟩ := t
  dsimp only at *
  go_enter Try.func3, Try.ntmps3
  go_upto_region 3 with (go_at_call 8; first | (with_reducible refine (L1.out _ HS.out.row).mono ?_; rintro e w1 ⟨rfl, hB⟩; replace HS := hideL (HS.out.next hB); (try clear c0 c1); have c0 := HS.out.bt.c0; have c1 := HS.out.bt.c1; have LL := hideL (L2.out w1); clear hB) | (with_reducible refine LL.out.mono ?_; rintro e wx ⟨rfl, hB⟩; replace HS := hideL (HS.out.next hB); (try clear c0 c1); have c0 := HS.out.bt.c0; have c1 := HS.out.bt.c1; clear hB))
  obtain ⟨v7, w7, hrun, hr7, hb7⟩ := copy_tm wx (.slice ao n cap) l HS.out.row (by have := HL60.out; omega)
  have HRUN := hideL hrun
  replace HS := hideL (HS.out.next hb7)
  have HG := hideL hr7.gAt
  clear hrun hr7 hb7 c0 c1 L1 L2 LL HVL
  go_upto_region 4 with (at_builtin; refine wpList_append_runM rfl _ _ _ _ _ rfl rfl _ _ v7 w7 rfl rfl HRUN.out ?_)
  clear HRUN
  go_cut [70] (fun s70 W' => s70 = .bool false ∧ SR w0 (.slice ao n cap) l ⟨kt, tt⟩ W')
  case first =>
    have HD := hideL HS.out.bt.drew
    have HS0 := hideL (show SR w0 (.slice ao n cap) l ⟨kt, tt⟩ w7.drew from HS.out.next (Below.refl _ _).drew)
    have HG0 := hideL (HG.out.below (Below.refl _ _).drew)
    clear HS HG
    by_cases hn : n = 0
    · subst hn
      rw [decide_eq_true rfl, Bool.true_or] at EP
      refine wp_region_held_drew (S := fun w' => TBox w' w0.heap.size kt tt) (by kernel_rfl) HD.out (fun hHeld => ?_)
      generalize w7.drew = V0 at hHeld HD HS0 HG0 ⊢
      refine wpAnyH_take (i := 0) (oi := { dst := some 27, op := Op.load 23 (Operand.tmp 3), type := 23, pos := "law.go:40", after := #[], guard := none }) (v := ?_) rfl (by kernel_rfl) (by kernel_rfl) (by kernel_rfl) (fun _ _ _ h => h) (Or.inl ⟨by rfl, ?_⟩) hHeld ?_
      rotate_left
      · intro w hSw; (try dsimp only at hSw); have e0 := hSw.c0; have e1 := hSw.c1; go_simp; first | done | with_reducible rfl
      try simp only [Act.put, List.setIfInBounds_toArray, List.set_cons_zero, List.set_cons_succ]
      refine wpAnyH_take (i := 2) (oi := { dst := some 29, op := Op.load 23 (Operand.tmp 3), type := 23, pos := "law.go:40", after := #[], guard := none }) (v := ?_) rfl (by kernel_rfl) (by kernel_rfl) (by kernel_rfl) (fun _ _ _ h => h) (Or.inl ⟨by rfl, ?_⟩) hHeld ?_
      rotate_left
      · intro w hSw; (try dsimp only at hSw); have e0 := hSw.c0; have e1 := hSw.c1; go_simp; first | done | with_reducible rfl
      try simp only [Act.put, List.setIfInBounds_toArray, List.set_cons_zero, List.set_cons_succ]
      refine wpAnyH_ready (rs := [1]) (by kernel_rfl) (by simp) ?_
      refine AllReadyH.cons (o := { dst := some 28, op := Op.call { callee := Callee.value (Operand.func 10), args := #[Operand.tmp 27], argTypes := #[23] }, type := 4, pos := "law.go:40", after := #[{ on := 0, ground := Ground.data }], guard := none }) rfl (fun K hK => ?_) AllReadyH.nil
      clear hHeld
      go_simp
      refine (YP.out _).mono ?_
      rintro e V1 ⟨rfl, hB⟩
      have HS1 := hideL (HS0.out.next hB)
      have HG1 := hideL (HG0.out.below hB)
      clear hB HS0 HG0
      refine hK.out _ _ (HS1.out.bt) (fun hHeld => ?_)
      clear hK K
      try simp only [Act.put, List.setIfInBounds_toArray, List.set_cons_zero, List.set_cons_succ]
      refine wpAnyH_ready (rs := [3]) (by kernel_rfl) (by simp) ?_
      refine AllReadyH.cons (o := { dst := some 30, op := Op.call { callee := Callee.value (Operand.func 11), args := #[Operand.tmp 29], argTypes := #[23] }, type := 4, pos := "law.go:40", after := #[{ on := 2, ground := Ground.data }, { on := 1, ground := Ground.chain }], guard := none }) rfl (fun K hK => ?_) AllReadyH.nil
      clear hHeld
      go_simp
      refine (YR.out _).mono ?_
      rintro e V2 ⟨rfl, hB⟩
      have HS2 := hideL (HS1.out.next hB)
      have HG2 := hideL (HG1.out.below hB)
      clear hB HS1 HG1
      refine hK.out _ _ (HS2.out.bt) (fun hHeld => ?_)
      clear hK K
      try simp only [Act.put, List.setIfInBounds_toArray, List.set_cons_zero, List.set_cons_succ]
      refine wpAnyH_take (i := 4) (oi := { dst := some 31, op := Op.binOp BinOp.neq 4 (Operand.tmp 28) (Operand.tmp 30) 4, type := 4, pos := "law.go:40", after := #[{ on := 1, ground := Ground.data }, { on := 3, ground := Ground.data }], guard := none }) (v := ?_) rfl (by kernel_rfl) (by kernel_rfl) (by kernel_rfl) (fun _ _ _ h => h) (Or.inl ⟨by rfl, ?_⟩) hHeld ?_
      rotate_left
      · intro w hSw; (try dsimp only at hSw); go_simp; first | done | with_reducible rfl
      try simp only [Act.put, List.setIfInBounds_toArray, List.set_cons_zero, List.set_cons_succ]
      refine wpAnyH_take (i := 5) (oi := { dst := some 32, op := Op.move (Operand.tmp 31), type := 4, pos := "law.go:40", after := #[{ on := 4, ground := Ground.data }, { on := 3, ground := Ground.chain }], guard := none }) (v := ?_) rfl (by kernel_rfl) (by kernel_rfl) (by kernel_rfl) (fun _ _ _ h => h) (Or.inl ⟨by rfl, ?_⟩) hHeld ?_
      rotate_left
      · intro w hSw; (try dsimp only at hSw); go_simp; first | done | with_reducible rfl
      try simp only [Act.put, List.setIfInBounds_toArray, List.set_cons_zero, List.set_cons_succ]
      refine wpAnyH_take (i := 6) (oi := { dst := some 33, op := Op.move (Operand.tmp 7), type := 24, pos := "law.go:40", after := #[{ on := 5, ground := Ground.guard }], guard := some (5, false) }) (v := ?_) rfl (by kernel_rfl) (by kernel_rfl) (by kernel_rfl) (fun _ _ _ h => h) (Or.inl ⟨by rfl, ?_⟩) hHeld ?_
      rotate_left
      · intro w hSw; (try dsimp only at hSw); go_simp; first | done | with_reducible rfl
      try simp only [Act.put, List.setIfInBounds_toArray, List.set_cons_zero, List.set_cons_succ]
      refine wpAnyH_take (i := 8) (oi := { dst := some 35, op := Op.move (Operand.tmp 1), type := 24, pos := "law.go:40", after := #[{ on := 5, ground := Ground.guard }], guard := some (5, false) }) (v := ?_) rfl (by kernel_rfl) (by kernel_rfl) (by kernel_rfl) (fun _ _ _ h => h) (Or.inl ⟨by rfl, ?_⟩) hHeld ?_
      rotate_left
      · intro w hSw; (try dsimp only at hSw); go_simp; first | done | with_reducible rfl
      try simp only [Act.put, List.setIfInBounds_toArray, List.set_cons_zero, List.set_cons_succ]
      refine wpAnyH_ready (rs := [7]) (by kernel_rfl) (by simp) ?_
      refine AllReadyH.cons (o := { dst := some 34, op := Op.call { callee := Callee.value (Operand.func 12), args := #[Operand.tmp 33], argTypes := #[24] }, type := 4, pos := "law.go:40", after := #[{ on := 6, ground := Ground.data }, { on := 5, ground := Ground.chain }, { on := 5, ground := Ground.guard }], guard := some (5, false) }) rfl (fun K hK => ?_) AllReadyH.nil
      clear hHeld
      go_simp
      refine (AP.out _ _ HG2.out).mono ?_
      rintro e V3 ⟨rfl, hB⟩
      have HS3 := hideL (HS2.out.next hB)
      have HG3 := hideL (HG2.out.below hB)
      clear hB HS2 HG2
      refine hK.out _ _ (HS3.out.bt) (fun hHeld => ?_)
      clear hK K
      try simp only [Act.put, List.setIfInBounds_toArray, List.set_cons_zero, List.set_cons_succ]
      refine wpAnyH_ready (rs := [9]) (by kernel_rfl) (by simp) ?_
      refine AllReadyH.cons (o := { dst := some 36, op := Op.call { callee := Callee.value (Operand.func 13), args := #[Operand.tmp 35], argTypes := #[24] }, type := 4, pos := "law.go:40", after := #[{ on := 8, ground := Ground.data }, { on := 7, ground := Ground.chain }, { on := 5, ground := Ground.guard }], guard := some (5, false) }) rfl (fun K hK => ?_) AllReadyH.nil
      clear hHeld
      go_simp
      refine (AR.out _ _ HS3.out.row).mono ?_
      rintro e V4 ⟨rfl, hB⟩
      have HS4 := hideL (HS3.out.next hB)
      have HG4 := hideL (HG3.out.below hB)
      clear hB HS3 HG3
      refine hK.out _ _ (HS4.out.bt) (fun hHeld => ?_)
      clear hK K
      try simp only [Act.put, List.setIfInBounds_toArray, List.set_cons_zero, List.set_cons_succ]
      refine wpAnyH_take (i := 10) (oi := { dst := some 37, op := Op.binOp BinOp.neq 4 (Operand.tmp 34) (Operand.tmp 36) 4, type := 4, pos := "law.go:40", after := #[{ on := 7, ground := Ground.data }, { on := 9, ground := Ground.data }, { on := 5, ground := Ground.guard }], guard := some (5, false) }) (v := ?_) rfl (by kernel_rfl) (by kernel_rfl) (by kernel_rfl) (fun _ _ _ h => h) (Or.inl ⟨by rfl, ?_⟩) hHeld ?_
      rotate_left
      · intro w hSw; (try dsimp only at hSw); go_simp; first | done | with_reducible rfl
      try simp only [Act.put, List.setIfInBounds_toArray, List.set_cons_zero, List.set_cons_succ]
      refine wpAnyH_take (i := 11) (oi := { dst := some 38, op := Op.pick (Operand.tmp 32) (Operand.const (Value.bool true)) (Operand.tmp 37), type := 4, pos := "law.go:40", after := #[{ on := 5, ground := Ground.data }, { on := 10, ground := Ground.data }], guard := none }) (v := ?_) rfl (by kernel_rfl) (by kernel_rfl) (by kernel_rfl) (fun _ _ _ h => h) (Or.inl ⟨by rfl, ?_⟩) hHeld ?_
      rotate_left
      · intro w hSw; (try dsimp only at hSw); go_simp; first | done | with_reducible rfl
      try simp only [Act.put, List.setIfInBounds_toArray, List.set_cons_zero, List.set_cons_succ]
      refine wpAnyH_take (i := 12) (oi := { dst := some 39, op := Op.move (Operand.tmp 38), type := 4, pos := "law.go:40", after := #[{ on := 11, ground := Ground.data }, { on := 9, ground := Ground.chain }], guard := none }) (v := ?_) rfl (by kernel_rfl) (by kernel_rfl) (by kernel_rfl) (fun _ _ _ h => h) (Or.inl ⟨by rfl, ?_⟩) hHeld ?_
      rotate_left
      · intro w hSw; (try dsimp only at hSw); go_simp; first | done | with_reducible rfl
      try simp only [Act.put, List.setIfInBounds_toArray, List.set_cons_zero, List.set_cons_succ]
      refine wpAnyH_take (i := 13) (oi := { dst := some 40, op := Op.load 23 (Operand.tmp 3), type := 23, pos := "law.go:40", after := #[{ on := 12, ground := Ground.guard }], guard := some (12, false) }) (v := ?_) rfl (by kernel_rfl) (by kernel_rfl) (by kernel_rfl) (fun _ _ _ h => h) (Or.inl ⟨by rfl, ?_⟩) hHeld ?_
      rotate_left
      · intro w hSw; (try dsimp only at hSw); have e0 := hSw.c0; have e1 := hSw.c1; go_simp; first | done | with_reducible rfl
      try simp only [Act.put, List.setIfInBounds_toArray, List.set_cons_zero, List.set_cons_succ]
      refine wpAnyH_take (i := 14) (oi := { dst := some 41, op := Op.move (Operand.tmp 2), type := 9, pos := "law.go:40", after := #[{ on := 12, ground := Ground.guard }], guard := some (12, false) }) (v := ?_) rfl (by kernel_rfl) (by kernel_rfl) (by kernel_rfl) (fun _ _ _ h => h) (Or.inl ⟨by rfl, ?_⟩) hHeld ?_
      rotate_left
      · intro w hSw; (try dsimp only at hSw); go_simp; first | done | with_reducible rfl
      try simp only [Act.put, List.setIfInBounds_toArray, List.set_cons_zero, List.set_cons_succ]
      refine wpAnyH_take (i := 16) (oi := { dst := some 43, op := Op.load 23 (Operand.tmp 3), type := 23, pos := "law.go:40", after := #[{ on := 12, ground := Ground.guard }], guard := some (12, false) }) (v := ?_) rfl (by kernel_rfl) (by kernel_rfl) (by kernel_rfl) (fun _ _ _ h => h) (Or.inl ⟨by rfl, ?_⟩) hHeld ?_
      rotate_left
      · intro w hSw; (try dsimp only at hSw); have e0 := hSw.c0; have e1 := hSw.c1; go_simp; first | done | with_reducible rfl
      try simp only [Act.put, List.setIfInBounds_toArray, List.set_cons_zero, List.set_cons_succ]
      refine wpAnyH_take (i := 17) (oi := { dst := some 44, op := Op.move (Operand.tmp 2), type := 9, pos := "law.go:40", after := #[{ on := 12, ground := Ground.guard }], guard := some (12, false) }) (v := ?_) rfl (by kernel_rfl) (by kernel_rfl) (by kernel_rfl) (fun _ _ _ h => h) (Or.inl ⟨by rfl, ?_⟩) hHeld ?_
      rotate_left
      · intro w hSw; (try dsimp only at hSw); go_simp; first | done | with_reducible rfl
      try simp only [Act.put, List.setIfInBounds_toArray, List.set_cons_zero, List.set_cons_succ]
      refine wpAnyH_ready (rs := [15]) (by kernel_rfl) (by simp) ?_
      refine AllReadyH.cons (o := { dst := some 42, op := Op.call { callee := Callee.value (Operand.func 14), args := #[Operand.tmp 40, Operand.tmp 41], argTypes := #[23, 9] }, type := 4, pos := "law.go:40", after := #[{ on := 13, ground := Ground.data }, { on := 14, ground := Ground.data }, { on := 12, ground := Ground.chain }, { on := 12, ground := Ground.guard }], guard := some (12, false) }) rfl (fun K hK => ?_) AllReadyH.nil
      clear hHeld
      go_simp
      refine (MP.out _).mono ?_
      rintro e V5 ⟨rfl, hB⟩
      have HS5 := hideL (HS4.out.next hB)
      have HG5 := hideL (HG4.out.below hB)
      clear hB HS4 HG4
      refine hK.out _ _ (HS5.out.bt) (fun hHeld => ?_)
      clear hK K
      try simp only [Act.put, List.setIfInBounds_toArray, List.set_cons_zero, List.set_cons_succ]
      refine wpAnyH_ready (rs := [18]) (by kernel_rfl) (by simp) ?_
      refine AllReadyH.cons (o := { dst := some 45, op := Op.call { callee := Callee.value (Operand.func 15), args := #[Operand.tmp 43, Operand.tmp 44], argTypes := #[23, 9] }, type := 4, pos := "law.go:40", after := #[{ on := 16, ground := Ground.data }, { on := 17, ground := Ground.data }, { on := 15, ground := Ground.chain }, { on := 12, ground := Ground.guard }], guard := some (12, false) }) rfl (fun K hK => ?_) AllReadyH.nil
      clear hHeld
      go_simp
      refine (MR.out _).mono ?_
      rintro e V6 ⟨rfl, hB⟩
      have HS6 := hideL (HS5.out.next hB)
      have HG6 := hideL (HG5.out.below hB)
      clear hB HS5 HG5
      refine hK.out _ _ (HS6.out.bt) (fun hHeld => ?_)
      clear hK K
      try simp only [Act.put, List.setIfInBounds_toArray, List.set_cons_zero, List.set_cons_succ]
      refine wpAnyH_take (i := 19) (oi := { dst := some 46, op := Op.binOp BinOp.neq 4 (Operand.tmp 42) (Operand.tmp 45) 4, type := 4, pos := "law.go:40", after := #[{ on := 15, ground := Ground.data }, { on := 18, ground := Ground.data }, { on := 12, ground := Ground.guard }], guard := some (12, false) }) (v := ?_) rfl (by kernel_rfl) (by kernel_rfl) (by kernel_rfl) (fun _ _ _ h => h) (Or.inl ⟨by rfl, ?_⟩) hHeld ?_
      rotate_left
      · intro w hSw; (try dsimp only at hSw); go_simp; first | done | with_reducible rfl
      try simp only [Act.put, List.setIfInBounds_toArray, List.set_cons_zero, List.set_cons_succ]
      refine wpAnyH_take (i := 20) (oi := { dst := some 47, op := Op.pick (Operand.tmp 39) (Operand.const (Value.bool true)) (Operand.tmp 46), type := 4, pos := "law.go:40", after := #[{ on := 12, ground := Ground.data }, { on := 19, ground := Ground.data }], guard := none }) (v := ?_) rfl (by kernel_rfl) (by kernel_rfl) (by kernel_rfl) (fun _ _ _ h => h) (Or.inl ⟨by rfl, ?_⟩) hHeld ?_
      rotate_left
      · intro w hSw; (try dsimp only at hSw); go_simp; first | done | with_reducible rfl
      try simp only [Act.put, List.setIfInBounds_toArray, List.set_cons_zero, List.set_cons_succ]
      refine wpAnyH_take (i := 21) (oi := { dst := some 48, op := Op.move (Operand.tmp 47), type := 4, pos := "law.go:40", after := #[{ on := 20, ground := Ground.data }, { on := 18, ground := Ground.chain }], guard := none }) (v := ?_) rfl (by kernel_rfl) (by kernel_rfl) (by kernel_rfl) (fun _ _ _ h => h) (Or.inl ⟨by rfl, ?_⟩) hHeld ?_
      rotate_left
      · intro w hSw; (try dsimp only at hSw); go_simp; first | done | with_reducible rfl
      try simp only [Act.put, List.setIfInBounds_toArray, List.set_cons_zero, List.set_cons_succ]
      refine wpAnyH_take (i := 22) (oi := { dst := some 49, op := Op.move (Operand.tmp 2), type := 9, pos := "law.go:40", after := #[{ on := 21, ground := Ground.guard }], guard := some (21, false) }) (v := ?_) rfl (by kernel_rfl) (by kernel_rfl) (by kernel_rfl) (fun _ _ _ h => h) (Or.inl ⟨by rfl, ?_⟩) hHeld ?_
      rotate_left
      · intro w hSw; (try dsimp only at hSw); go_simp; first | done | with_reducible rfl
      try simp only [Act.put, List.setIfInBounds_toArray, List.set_cons_zero, List.set_cons_succ]
      refine wpAnyH_take (i := 23) (oi := { dst := some 50, op := Op.move (Operand.tmp 7), type := 24, pos := "law.go:40", after := #[{ on := 21, ground := Ground.guard }], guard := some (21, false) }) (v := ?_) rfl (by kernel_rfl) (by kernel_rfl) (by kernel_rfl) (fun _ _ _ h => h) (Or.inl ⟨by rfl, ?_⟩) hHeld ?_
      rotate_left
      · intro w hSw; (try dsimp only at hSw); go_simp; first | done | with_reducible rfl
      try simp only [Act.put, List.setIfInBounds_toArray, List.set_cons_zero, List.set_cons_succ]
      refine wpAnyH_take (i := 25) (oi := { dst := some 52, op := Op.move (Operand.tmp 2), type := 9, pos := "law.go:40", after := #[{ on := 21, ground := Ground.guard }], guard := some (21, false) }) (v := ?_) rfl (by kernel_rfl) (by kernel_rfl) (by kernel_rfl) (fun _ _ _ h => h) (Or.inl ⟨by rfl, ?_⟩) hHeld ?_
      rotate_left
      · intro w hSw; (try dsimp only at hSw); go_simp; first | done | with_reducible rfl
      try simp only [Act.put, List.setIfInBounds_toArray, List.set_cons_zero, List.set_cons_succ]
      refine wpAnyH_take (i := 26) (oi := { dst := some 53, op := Op.move (Operand.tmp 1), type := 24, pos := "law.go:40", after := #[{ on := 21, ground := Ground.guard }], guard := some (21, false) }) (v := ?_) rfl (by kernel_rfl) (by kernel_rfl) (by kernel_rfl) (fun _ _ _ h => h) (Or.inl ⟨by rfl, ?_⟩) hHeld ?_
      rotate_left
      · intro w hSw; (try dsimp only at hSw); go_simp; first | done | with_reducible rfl
      try simp only [Act.put, List.setIfInBounds_toArray, List.set_cons_zero, List.set_cons_succ]
      refine wpAnyH_ready (rs := [24]) (by kernel_rfl) (by simp) ?_
      refine AllReadyH.cons (o := { dst := some 51, op := Op.call { callee := Callee.value (Operand.func 16), args := #[Operand.tmp 49, Operand.tmp 50], argTypes := #[9, 24] }, type := 4, pos := "law.go:40", after := #[{ on := 22, ground := Ground.data }, { on := 23, ground := Ground.data }, { on := 21, ground := Ground.chain }, { on := 21, ground := Ground.guard }], guard := some (21, false) }) rfl (fun K hK => ?_) AllReadyH.nil
      clear hHeld
      go_simp
      refine (NP.out _ _ HG6.out).mono ?_
      rintro e V7 ⟨rfl, hB⟩
      have HS7 := hideL (HS6.out.next hB)
      have HG7 := hideL (HG6.out.below hB)
      clear hB HS6 HG6
      refine hK.out _ _ (HS7.out.bt) (fun hHeld => ?_)
      clear hK K
      try simp only [Act.put, List.setIfInBounds_toArray, List.set_cons_zero, List.set_cons_succ]
      refine wpAnyH_ready (rs := [27]) (by kernel_rfl) (by simp) ?_
      refine AllReadyH.cons (o := { dst := some 54, op := Op.call { callee := Callee.value (Operand.func 17), args := #[Operand.tmp 52, Operand.tmp 53], argTypes := #[9, 24] }, type := 4, pos := "law.go:40", after := #[{ on := 25, ground := Ground.data }, { on := 26, ground := Ground.data }, { on := 24, ground := Ground.chain }, { on := 21, ground := Ground.guard }], guard := some (21, false) }) rfl (fun K hK => ?_) AllReadyH.nil
      clear hHeld
      go_simp
      refine (NR.out _ _ HS7.out.row).mono ?_
      rintro e V8 ⟨rfl, hB⟩
      have HS8 := hideL (HS7.out.next hB)
      have HG8 := hideL (HG7.out.below hB)
      clear hB HS7 HG7
      refine hK.out _ _ (HS8.out.bt) (fun hHeld => ?_)
      clear hK K
      try simp only [Act.put, List.setIfInBounds_toArray, List.set_cons_zero, List.set_cons_succ]
      refine wpAnyH_take (i := 28) (oi := { dst := some 55, op := Op.binOp BinOp.neq 4 (Operand.tmp 51) (Operand.tmp 54) 4, type := 4, pos := "law.go:40", after := #[{ on := 24, ground := Ground.data }, { on := 27, ground := Ground.data }, { on := 21, ground := Ground.guard }], guard := some (21, false) }) (v := ?_) rfl (by kernel_rfl) (by kernel_rfl) (by kernel_rfl) (fun _ _ _ h => h) (Or.inl ⟨by rfl, ?_⟩) hHeld ?_
      rotate_left
      · intro w hSw; (try dsimp only at hSw); go_simp; first | done | with_reducible rfl
      try simp only [Act.put, List.setIfInBounds_toArray, List.set_cons_zero, List.set_cons_succ]
      refine wpAnyH_take (i := 29) (oi := { dst := some 56, op := Op.pick (Operand.tmp 48) (Operand.const (Value.bool true)) (Operand.tmp 55), type := 4, pos := "law.go:40", after := #[{ on := 21, ground := Ground.data }, { on := 28, ground := Ground.data }], guard := none }) (v := ?_) rfl (by kernel_rfl) (by kernel_rfl) (by kernel_rfl) (fun _ _ _ h => h) (Or.inl ⟨by rfl, ?_⟩) hHeld ?_
      rotate_left
      · intro w hSw; (try dsimp only at hSw); go_simp; first | done | with_reducible rfl
      try simp only [Act.put, List.setIfInBounds_toArray, List.set_cons_zero, List.set_cons_succ]
      refine wpAnyH_take (i := 30) (oi := { dst := some 57, op := Op.move (Operand.tmp 56), type := 4, pos := "law.go:40", after := #[{ on := 29, ground := Ground.data }, { on := 27, ground := Ground.chain }], guard := none }) (v := ?_) rfl (by kernel_rfl) (by kernel_rfl) (by kernel_rfl) (fun _ _ _ h => h) (Or.inl ⟨by rfl, ?_⟩) hHeld ?_
      rotate_left
      · intro w hSw; (try dsimp only at hSw); go_simp; first | done | with_reducible rfl
      try simp only [Act.put, List.setIfInBounds_toArray, List.set_cons_zero, List.set_cons_succ]
      refine wpAnyH_take (i := 31) (oi := { dst := some 58, op := Op.move (Operand.tmp 2), type := 9, pos := "law.go:40", after := #[{ on := 30, ground := Ground.guard }], guard := some (30, false) }) (v := ?_) rfl (by kernel_rfl) (by kernel_rfl) (by kernel_rfl) (fun _ _ _ h => h) (Or.inl ⟨by rfl, ?_⟩) hHeld ?_
      rotate_left
      · intro w hSw; (try dsimp only at hSw); go_simp; first | done | with_reducible rfl
      try simp only [Act.put, List.setIfInBounds_toArray, List.set_cons_zero, List.set_cons_succ]
      refine wpAnyH_take (i := 32) (oi := { dst := some 59, op := Op.move (Operand.tmp 7), type := 24, pos := "law.go:40", after := #[{ on := 30, ground := Ground.guard }], guard := some (30, false) }) (v := ?_) rfl (by kernel_rfl) (by kernel_rfl) (by kernel_rfl) (fun _ _ _ h => h) (Or.inl ⟨by rfl, ?_⟩) hHeld ?_
      rotate_left
      · intro w hSw; (try dsimp only at hSw); go_simp; first | done | with_reducible rfl
      try simp only [Act.put, List.setIfInBounds_toArray, List.set_cons_zero, List.set_cons_succ]
      refine wpAnyH_take (i := 34) (oi := { dst := some 61, op := Op.move (Operand.tmp 1), type := 24, pos := "law.go:40", after := #[{ on := 30, ground := Ground.guard }], guard := some (30, false) }) (v := ?_) rfl (by kernel_rfl) (by kernel_rfl) (by kernel_rfl) (fun _ _ _ h => h) (Or.inl ⟨by rfl, ?_⟩) hHeld ?_
      rotate_left
      · intro w hSw; (try dsimp only at hSw); go_simp; first | done | with_reducible rfl
      try simp only [Act.put, List.setIfInBounds_toArray, List.set_cons_zero, List.set_cons_succ]
      refine wpAnyH_take (i := 35) (oi := { dst := some 62, op := Op.call { callee := Callee.builtin Builtin.len, args := #[Operand.tmp 61], argTypes := #[24] }, type := 3, pos := "law.go:40", after := #[{ on := 34, ground := Ground.data }, { on := 30, ground := Ground.guard }], guard := some (30, false) }) (v := ?_) rfl (by kernel_rfl) (by kernel_rfl) (by kernel_rfl) (fun _ _ _ h => h) (Or.inl ⟨by rfl, ?_⟩) hHeld ?_
      rotate_left
      · intro w hSw; (try dsimp only at hSw); go_simp; first | done | with_reducible rfl
      try simp only [Act.put, List.setIfInBounds_toArray, List.set_cons_zero, List.set_cons_succ]
      refine wpAnyH_take (i := 36) (oi := { dst := some 63, op := Op.binOp BinOp.eql 3 (Operand.tmp 62) (Operand.const (Value.int IntKind.i64 0)) 3, type := 4, pos := "law.go:40", after := #[{ on := 35, ground := Ground.data }, { on := 30, ground := Ground.guard }], guard := some (30, false) }) (v := ?_) rfl (by kernel_rfl) (by kernel_rfl) (by kernel_rfl) (fun _ _ _ h => h) (Or.inl ⟨by rfl, ?_⟩) hHeld ?_
      rotate_left
      · intro w hSw; (try dsimp only at hSw); go_simp; first | done | with_reducible rfl
      try simp only [Act.put, List.setIfInBounds_toArray, List.set_cons_zero, List.set_cons_succ]
      refine wpAnyH_ready (rs := [33]) (by kernel_rfl) (by simp) ?_
      refine AllReadyH.cons (o := { dst := some 60, op := Op.call { callee := Callee.value (Operand.func 18), args := #[Operand.tmp 58, Operand.tmp 59], argTypes := #[9, 24] }, type := 4, pos := "law.go:40", after := #[{ on := 31, ground := Ground.data }, { on := 32, ground := Ground.data }, { on := 30, ground := Ground.chain }, { on := 30, ground := Ground.guard }], guard := some (30, false) }) rfl (fun K hK => ?_) AllReadyH.nil
      clear hHeld
      go_simp
      refine (EP.out _ _ HG8.out).mono ?_
      rintro e V9 ⟨rfl, hB⟩
      have HS9 := hideL (HS8.out.next hB)
      have HG9 := hideL (HG8.out.below hB)
      clear hB HS8 HG8
      refine hK.out _ _ (HS9.out.bt) (fun hHeld => ?_)
      clear hK K
      try simp only [Act.put, List.setIfInBounds_toArray, List.set_cons_zero, List.set_cons_succ]
      refine wpAnyH_take (i := 37) (oi := { dst := some 64, op := Op.move (Operand.tmp 63), type := 4, pos := "law.go:40", after := #[{ on := 36, ground := Ground.data }, { on := 33, ground := Ground.chain }, { on := 30, ground := Ground.guard }], guard := some (30, false) }) (v := ?_) rfl (by kernel_rfl) (by kernel_rfl) (by kernel_rfl) (fun _ _ _ h => h) (Or.inl ⟨by rfl, ?_⟩) hHeld ?_
      rotate_left
      · intro w hSw; (try dsimp only at hSw); go_simp; first | done | with_reducible rfl
      try simp only [Act.put, List.setIfInBounds_toArray, List.set_cons_zero, List.set_cons_succ]
      refine wpAnyH_take (i := 38) (oi := { dst := some 65, op := Op.move (Operand.tmp 2), type := 9, pos := "law.go:40", after := #[{ on := 37, ground := Ground.guard }], guard := some (37, false) }) (v := undef) rfl (by kernel_rfl) (by kernel_rfl) (by kernel_rfl) (fun _ _ _ h => h) (Or.inr ⟨by rfl, rfl⟩) hHeld ?_
      try simp only [Act.put, List.setIfInBounds_toArray, List.set_cons_zero, List.set_cons_succ]
      refine wpAnyH_take (i := 39) (oi := { dst := some 66, op := Op.move (Operand.tmp 1), type := 24, pos := "law.go:40", after := #[{ on := 37, ground := Ground.guard }], guard := some (37, false) }) (v := undef) rfl (by kernel_rfl) (by kernel_rfl) (by kernel_rfl) (fun _ _ _ h => h) (Or.inr ⟨by rfl, rfl⟩) hHeld ?_
      try simp only [Act.put, List.setIfInBounds_toArray, List.set_cons_zero, List.set_cons_succ]
      refine wpAnyH_take (i := 40) (oi := { dst := some 67, op := Op.call { callee := Callee.value (Operand.func 17), args := #[Operand.tmp 65, Operand.tmp 66], argTypes := #[9, 24] }, type := 4, pos := "law.go:40", after := #[{ on := 38, ground := Ground.data }, { on := 39, ground := Ground.data }, { on := 37, ground := Ground.chain }, { on := 37, ground := Ground.guard }], guard := some (37, false) }) (v := undef) rfl (by kernel_rfl) (by kernel_rfl) (by kernel_rfl) (fun _ _ _ h => h) (Or.inr ⟨by rfl, rfl⟩) hHeld ?_
      try simp only [Act.put, List.setIfInBounds_toArray, List.set_cons_zero, List.set_cons_succ]
      refine wpAnyH_take (i := 41) (oi := { dst := some 68, op := Op.pick (Operand.tmp 64) (Operand.const (Value.bool true)) (Operand.tmp 67), type := 4, pos := "law.go:40", after := #[{ on := 37, ground := Ground.data }, { on := 40, ground := Ground.data }, { on := 30, ground := Ground.guard }], guard := some (30, false) }) (v := ?_) rfl (by kernel_rfl) (by kernel_rfl) (by kernel_rfl) (fun _ _ _ h => h) (Or.inl ⟨by rfl, ?_⟩) hHeld ?_
      rotate_left
      · intro w hSw; (try dsimp only at hSw); go_simp; first | done | with_reducible rfl
      try simp only [Act.put, List.setIfInBounds_toArray, List.set_cons_zero, List.set_cons_succ]
      refine wpAnyH_take (i := 42) (oi := { dst := some 69, op := Op.binOp BinOp.neq 4 (Operand.tmp 60) (Operand.tmp 68) 4, type := 4, pos := "law.go:40", after := #[{ on := 33, ground := Ground.data }, { on := 41, ground := Ground.data }, { on := 30, ground := Ground.guard }], guard := some (30, false) }) (v := ?_) rfl (by kernel_rfl) (by kernel_rfl) (by kernel_rfl) (fun _ _ _ h => h) (Or.inl ⟨by rfl, ?_⟩) hHeld ?_
      rotate_left
      · intro w hSw; (try dsimp only at hSw); go_simp; first | done | with_reducible rfl
      try simp only [Act.put, List.setIfInBounds_toArray, List.set_cons_zero, List.set_cons_succ]
      refine wpAnyH_take (i := 43) (oi := { dst := some 70, op := Op.pick (Operand.tmp 57) (Operand.const (Value.bool true)) (Operand.tmp 69), type := 4, pos := "law.go:40", after := #[{ on := 30, ground := Ground.data }, { on := 42, ground := Ground.data }], guard := none }) (v := ?_) rfl (by kernel_rfl) (by kernel_rfl) (by kernel_rfl) (fun _ _ _ h => h) (Or.inl ⟨by rfl, ?_⟩) hHeld ?_
      rotate_left
      · intro w hSw; (try dsimp only at hSw); go_simp; first | done | with_reducible rfl
      try simp only [Act.put, List.setIfInBounds_toArray, List.set_cons_zero, List.set_cons_succ]
      refine wpAnyH_done (by kernel_rfl) ?_ _
      clear hHeld
      go_wp2_with fail
      go_meet
      case rel => exact ⟨rfl, HS9.out⟩
    · have hn' : ((n : Int) == 0) = false := beq_eq_false_iff_ne.2 (by omega)
      rw [decide_eq_false hn, Bool.false_or] at EP
      refine wp_region_held_drew (S := fun w' => TBox w' w0.heap.size kt tt) (by kernel_rfl) HD.out (fun hHeld => ?_)
      generalize w7.drew = V0 at hHeld HD HS0 HG0 ⊢
      refine wpAnyH_take (i := 0) (oi := { dst := some 27, op := Op.load 23 (Operand.tmp 3), type := 23, pos := "law.go:40", after := #[], guard := none }) (v := ?_) rfl (by kernel_rfl) (by kernel_rfl) (by kernel_rfl) (fun _ _ _ h => h) (Or.inl ⟨by rfl, ?_⟩) hHeld ?_
      rotate_left
      · intro w hSw; (try dsimp only at hSw); have e0 := hSw.c0; have e1 := hSw.c1; go_simp; first | done | with_reducible rfl
      try simp only [Act.put, List.setIfInBounds_toArray, List.set_cons_zero, List.set_cons_succ]
      refine wpAnyH_take (i := 2) (oi := { dst := some 29, op := Op.load 23 (Operand.tmp 3), type := 23, pos := "law.go:40", after := #[], guard := none }) (v := ?_) rfl (by kernel_rfl) (by kernel_rfl) (by kernel_rfl) (fun _ _ _ h => h) (Or.inl ⟨by rfl, ?_⟩) hHeld ?_
      rotate_left
      · intro w hSw; (try dsimp only at hSw); have e0 := hSw.c0; have e1 := hSw.c1; go_simp; first | done | with_reducible rfl
      try simp only [Act.put, List.setIfInBounds_toArray, List.set_cons_zero, List.set_cons_succ]
      refine wpAnyH_ready (rs := [1]) (by kernel_rfl) (by simp) ?_
      refine AllReadyH.cons (o := { dst := some 28, op := Op.call { callee := Callee.value (Operand.func 10), args := #[Operand.tmp 27], argTypes := #[23] }, type := 4, pos := "law.go:40", after := #[{ on := 0, ground := Ground.data }], guard := none }) rfl (fun K hK => ?_) AllReadyH.nil
      clear hHeld
      go_simp
      refine (YP.out _).mono ?_
      rintro e V1 ⟨rfl, hB⟩
      have HS1 := hideL (HS0.out.next hB)
      have HG1 := hideL (HG0.out.below hB)
      clear hB HS0 HG0
      refine hK.out _ _ (HS1.out.bt) (fun hHeld => ?_)
      clear hK K
      try simp only [Act.put, List.setIfInBounds_toArray, List.set_cons_zero, List.set_cons_succ]
      refine wpAnyH_ready (rs := [3]) (by kernel_rfl) (by simp) ?_
      refine AllReadyH.cons (o := { dst := some 30, op := Op.call { callee := Callee.value (Operand.func 11), args := #[Operand.tmp 29], argTypes := #[23] }, type := 4, pos := "law.go:40", after := #[{ on := 2, ground := Ground.data }, { on := 1, ground := Ground.chain }], guard := none }) rfl (fun K hK => ?_) AllReadyH.nil
      clear hHeld
      go_simp
      refine (YR.out _).mono ?_
      rintro e V2 ⟨rfl, hB⟩
      have HS2 := hideL (HS1.out.next hB)
      have HG2 := hideL (HG1.out.below hB)
      clear hB HS1 HG1
      refine hK.out _ _ (HS2.out.bt) (fun hHeld => ?_)
      clear hK K
      try simp only [Act.put, List.setIfInBounds_toArray, List.set_cons_zero, List.set_cons_succ]
      refine wpAnyH_take (i := 4) (oi := { dst := some 31, op := Op.binOp BinOp.neq 4 (Operand.tmp 28) (Operand.tmp 30) 4, type := 4, pos := "law.go:40", after := #[{ on := 1, ground := Ground.data }, { on := 3, ground := Ground.data }], guard := none }) (v := ?_) rfl (by kernel_rfl) (by kernel_rfl) (by kernel_rfl) (fun _ _ _ h => h) (Or.inl ⟨by rfl, ?_⟩) hHeld ?_
      rotate_left
      · intro w hSw; (try dsimp only at hSw); go_simp; first | done | with_reducible rfl
      try simp only [Act.put, List.setIfInBounds_toArray, List.set_cons_zero, List.set_cons_succ]
      refine wpAnyH_take (i := 5) (oi := { dst := some 32, op := Op.move (Operand.tmp 31), type := 4, pos := "law.go:40", after := #[{ on := 4, ground := Ground.data }, { on := 3, ground := Ground.chain }], guard := none }) (v := ?_) rfl (by kernel_rfl) (by kernel_rfl) (by kernel_rfl) (fun _ _ _ h => h) (Or.inl ⟨by rfl, ?_⟩) hHeld ?_
      rotate_left
      · intro w hSw; (try dsimp only at hSw); go_simp; first | done | with_reducible rfl
      try simp only [Act.put, List.setIfInBounds_toArray, List.set_cons_zero, List.set_cons_succ]
      refine wpAnyH_take (i := 6) (oi := { dst := some 33, op := Op.move (Operand.tmp 7), type := 24, pos := "law.go:40", after := #[{ on := 5, ground := Ground.guard }], guard := some (5, false) }) (v := ?_) rfl (by kernel_rfl) (by kernel_rfl) (by kernel_rfl) (fun _ _ _ h => h) (Or.inl ⟨by rfl, ?_⟩) hHeld ?_
      rotate_left
      · intro w hSw; (try dsimp only at hSw); go_simp; first | done | with_reducible rfl
      try simp only [Act.put, List.setIfInBounds_toArray, List.set_cons_zero, List.set_cons_succ]
      refine wpAnyH_take (i := 8) (oi := { dst := some 35, op := Op.move (Operand.tmp 1), type := 24, pos := "law.go:40", after := #[{ on := 5, ground := Ground.guard }], guard := some (5, false) }) (v := ?_) rfl (by kernel_rfl) (by kernel_rfl) (by kernel_rfl) (fun _ _ _ h => h) (Or.inl ⟨by rfl, ?_⟩) hHeld ?_
      rotate_left
      · intro w hSw; (try dsimp only at hSw); go_simp; first | done | with_reducible rfl
      try simp only [Act.put, List.setIfInBounds_toArray, List.set_cons_zero, List.set_cons_succ]
      refine wpAnyH_ready (rs := [7]) (by kernel_rfl) (by simp) ?_
      refine AllReadyH.cons (o := { dst := some 34, op := Op.call { callee := Callee.value (Operand.func 12), args := #[Operand.tmp 33], argTypes := #[24] }, type := 4, pos := "law.go:40", after := #[{ on := 6, ground := Ground.data }, { on := 5, ground := Ground.chain }, { on := 5, ground := Ground.guard }], guard := some (5, false) }) rfl (fun K hK => ?_) AllReadyH.nil
      clear hHeld
      go_simp
      refine (AP.out _ _ HG2.out).mono ?_
      rintro e V3 ⟨rfl, hB⟩
      have HS3 := hideL (HS2.out.next hB)
      have HG3 := hideL (HG2.out.below hB)
      clear hB HS2 HG2
      refine hK.out _ _ (HS3.out.bt) (fun hHeld => ?_)
      clear hK K
      try simp only [Act.put, List.setIfInBounds_toArray, List.set_cons_zero, List.set_cons_succ]
      refine wpAnyH_ready (rs := [9]) (by kernel_rfl) (by simp) ?_
      refine AllReadyH.cons (o := { dst := some 36, op := Op.call { callee := Callee.value (Operand.func 13), args := #[Operand.tmp 35], argTypes := #[24] }, type := 4, pos := "law.go:40", after := #[{ on := 8, ground := Ground.data }, { on := 7, ground := Ground.chain }, { on := 5, ground := Ground.guard }], guard := some (5, false) }) rfl (fun K hK => ?_) AllReadyH.nil
      clear hHeld
      go_simp
      refine (AR.out _ _ HS3.out.row).mono ?_
      rintro e V4 ⟨rfl, hB⟩
      have HS4 := hideL (HS3.out.next hB)
      have HG4 := hideL (HG3.out.below hB)
      clear hB HS3 HG3
      refine hK.out _ _ (HS4.out.bt) (fun hHeld => ?_)
      clear hK K
      try simp only [Act.put, List.setIfInBounds_toArray, List.set_cons_zero, List.set_cons_succ]
      refine wpAnyH_take (i := 10) (oi := { dst := some 37, op := Op.binOp BinOp.neq 4 (Operand.tmp 34) (Operand.tmp 36) 4, type := 4, pos := "law.go:40", after := #[{ on := 7, ground := Ground.data }, { on := 9, ground := Ground.data }, { on := 5, ground := Ground.guard }], guard := some (5, false) }) (v := ?_) rfl (by kernel_rfl) (by kernel_rfl) (by kernel_rfl) (fun _ _ _ h => h) (Or.inl ⟨by rfl, ?_⟩) hHeld ?_
      rotate_left
      · intro w hSw; (try dsimp only at hSw); go_simp; first | done | with_reducible rfl
      try simp only [Act.put, List.setIfInBounds_toArray, List.set_cons_zero, List.set_cons_succ]
      refine wpAnyH_take (i := 11) (oi := { dst := some 38, op := Op.pick (Operand.tmp 32) (Operand.const (Value.bool true)) (Operand.tmp 37), type := 4, pos := "law.go:40", after := #[{ on := 5, ground := Ground.data }, { on := 10, ground := Ground.data }], guard := none }) (v := ?_) rfl (by kernel_rfl) (by kernel_rfl) (by kernel_rfl) (fun _ _ _ h => h) (Or.inl ⟨by rfl, ?_⟩) hHeld ?_
      rotate_left
      · intro w hSw; (try dsimp only at hSw); go_simp; first | done | with_reducible rfl
      try simp only [Act.put, List.setIfInBounds_toArray, List.set_cons_zero, List.set_cons_succ]
      refine wpAnyH_take (i := 12) (oi := { dst := some 39, op := Op.move (Operand.tmp 38), type := 4, pos := "law.go:40", after := #[{ on := 11, ground := Ground.data }, { on := 9, ground := Ground.chain }], guard := none }) (v := ?_) rfl (by kernel_rfl) (by kernel_rfl) (by kernel_rfl) (fun _ _ _ h => h) (Or.inl ⟨by rfl, ?_⟩) hHeld ?_
      rotate_left
      · intro w hSw; (try dsimp only at hSw); go_simp; first | done | with_reducible rfl
      try simp only [Act.put, List.setIfInBounds_toArray, List.set_cons_zero, List.set_cons_succ]
      refine wpAnyH_take (i := 13) (oi := { dst := some 40, op := Op.load 23 (Operand.tmp 3), type := 23, pos := "law.go:40", after := #[{ on := 12, ground := Ground.guard }], guard := some (12, false) }) (v := ?_) rfl (by kernel_rfl) (by kernel_rfl) (by kernel_rfl) (fun _ _ _ h => h) (Or.inl ⟨by rfl, ?_⟩) hHeld ?_
      rotate_left
      · intro w hSw; (try dsimp only at hSw); have e0 := hSw.c0; have e1 := hSw.c1; go_simp; first | done | with_reducible rfl
      try simp only [Act.put, List.setIfInBounds_toArray, List.set_cons_zero, List.set_cons_succ]
      refine wpAnyH_take (i := 14) (oi := { dst := some 41, op := Op.move (Operand.tmp 2), type := 9, pos := "law.go:40", after := #[{ on := 12, ground := Ground.guard }], guard := some (12, false) }) (v := ?_) rfl (by kernel_rfl) (by kernel_rfl) (by kernel_rfl) (fun _ _ _ h => h) (Or.inl ⟨by rfl, ?_⟩) hHeld ?_
      rotate_left
      · intro w hSw; (try dsimp only at hSw); go_simp; first | done | with_reducible rfl
      try simp only [Act.put, List.setIfInBounds_toArray, List.set_cons_zero, List.set_cons_succ]
      refine wpAnyH_take (i := 16) (oi := { dst := some 43, op := Op.load 23 (Operand.tmp 3), type := 23, pos := "law.go:40", after := #[{ on := 12, ground := Ground.guard }], guard := some (12, false) }) (v := ?_) rfl (by kernel_rfl) (by kernel_rfl) (by kernel_rfl) (fun _ _ _ h => h) (Or.inl ⟨by rfl, ?_⟩) hHeld ?_
      rotate_left
      · intro w hSw; (try dsimp only at hSw); have e0 := hSw.c0; have e1 := hSw.c1; go_simp; first | done | with_reducible rfl
      try simp only [Act.put, List.setIfInBounds_toArray, List.set_cons_zero, List.set_cons_succ]
      refine wpAnyH_take (i := 17) (oi := { dst := some 44, op := Op.move (Operand.tmp 2), type := 9, pos := "law.go:40", after := #[{ on := 12, ground := Ground.guard }], guard := some (12, false) }) (v := ?_) rfl (by kernel_rfl) (by kernel_rfl) (by kernel_rfl) (fun _ _ _ h => h) (Or.inl ⟨by rfl, ?_⟩) hHeld ?_
      rotate_left
      · intro w hSw; (try dsimp only at hSw); go_simp; first | done | with_reducible rfl
      try simp only [Act.put, List.setIfInBounds_toArray, List.set_cons_zero, List.set_cons_succ]
      refine wpAnyH_ready (rs := [15]) (by kernel_rfl) (by simp) ?_
      refine AllReadyH.cons (o := { dst := some 42, op := Op.call { callee := Callee.value (Operand.func 14), args := #[Operand.tmp 40, Operand.tmp 41], argTypes := #[23, 9] }, type := 4, pos := "law.go:40", after := #[{ on := 13, ground := Ground.data }, { on := 14, ground := Ground.data }, { on := 12, ground := Ground.chain }, { on := 12, ground := Ground.guard }], guard := some (12, false) }) rfl (fun K hK => ?_) AllReadyH.nil
      clear hHeld
      go_simp
      refine (MP.out _).mono ?_
      rintro e V5 ⟨rfl, hB⟩
      have HS5 := hideL (HS4.out.next hB)
      have HG5 := hideL (HG4.out.below hB)
      clear hB HS4 HG4
      refine hK.out _ _ (HS5.out.bt) (fun hHeld => ?_)
      clear hK K
      try simp only [Act.put, List.setIfInBounds_toArray, List.set_cons_zero, List.set_cons_succ]
      refine wpAnyH_ready (rs := [18]) (by kernel_rfl) (by simp) ?_
      refine AllReadyH.cons (o := { dst := some 45, op := Op.call { callee := Callee.value (Operand.func 15), args := #[Operand.tmp 43, Operand.tmp 44], argTypes := #[23, 9] }, type := 4, pos := "law.go:40", after := #[{ on := 16, ground := Ground.data }, { on := 17, ground := Ground.data }, { on := 15, ground := Ground.chain }, { on := 12, ground := Ground.guard }], guard := some (12, false) }) rfl (fun K hK => ?_) AllReadyH.nil
      clear hHeld
      go_simp
      refine (MR.out _).mono ?_
      rintro e V6 ⟨rfl, hB⟩
      have HS6 := hideL (HS5.out.next hB)
      have HG6 := hideL (HG5.out.below hB)
      clear hB HS5 HG5
      refine hK.out _ _ (HS6.out.bt) (fun hHeld => ?_)
      clear hK K
      try simp only [Act.put, List.setIfInBounds_toArray, List.set_cons_zero, List.set_cons_succ]
      refine wpAnyH_take (i := 19) (oi := { dst := some 46, op := Op.binOp BinOp.neq 4 (Operand.tmp 42) (Operand.tmp 45) 4, type := 4, pos := "law.go:40", after := #[{ on := 15, ground := Ground.data }, { on := 18, ground := Ground.data }, { on := 12, ground := Ground.guard }], guard := some (12, false) }) (v := ?_) rfl (by kernel_rfl) (by kernel_rfl) (by kernel_rfl) (fun _ _ _ h => h) (Or.inl ⟨by rfl, ?_⟩) hHeld ?_
      rotate_left
      · intro w hSw; (try dsimp only at hSw); go_simp; first | done | with_reducible rfl
      try simp only [Act.put, List.setIfInBounds_toArray, List.set_cons_zero, List.set_cons_succ]
      refine wpAnyH_take (i := 20) (oi := { dst := some 47, op := Op.pick (Operand.tmp 39) (Operand.const (Value.bool true)) (Operand.tmp 46), type := 4, pos := "law.go:40", after := #[{ on := 12, ground := Ground.data }, { on := 19, ground := Ground.data }], guard := none }) (v := ?_) rfl (by kernel_rfl) (by kernel_rfl) (by kernel_rfl) (fun _ _ _ h => h) (Or.inl ⟨by rfl, ?_⟩) hHeld ?_
      rotate_left
      · intro w hSw; (try dsimp only at hSw); go_simp; first | done | with_reducible rfl
      try simp only [Act.put, List.setIfInBounds_toArray, List.set_cons_zero, List.set_cons_succ]
      refine wpAnyH_take (i := 21) (oi := { dst := some 48, op := Op.move (Operand.tmp 47), type := 4, pos := "law.go:40", after := #[{ on := 20, ground := Ground.data }, { on := 18, ground := Ground.chain }], guard := none }) (v := ?_) rfl (by kernel_rfl) (by kernel_rfl) (by kernel_rfl) (fun _ _ _ h => h) (Or.inl ⟨by rfl, ?_⟩) hHeld ?_
      rotate_left
      · intro w hSw; (try dsimp only at hSw); go_simp; first | done | with_reducible rfl
      try simp only [Act.put, List.setIfInBounds_toArray, List.set_cons_zero, List.set_cons_succ]
      refine wpAnyH_take (i := 22) (oi := { dst := some 49, op := Op.move (Operand.tmp 2), type := 9, pos := "law.go:40", after := #[{ on := 21, ground := Ground.guard }], guard := some (21, false) }) (v := ?_) rfl (by kernel_rfl) (by kernel_rfl) (by kernel_rfl) (fun _ _ _ h => h) (Or.inl ⟨by rfl, ?_⟩) hHeld ?_
      rotate_left
      · intro w hSw; (try dsimp only at hSw); go_simp; first | done | with_reducible rfl
      try simp only [Act.put, List.setIfInBounds_toArray, List.set_cons_zero, List.set_cons_succ]
      refine wpAnyH_take (i := 23) (oi := { dst := some 50, op := Op.move (Operand.tmp 7), type := 24, pos := "law.go:40", after := #[{ on := 21, ground := Ground.guard }], guard := some (21, false) }) (v := ?_) rfl (by kernel_rfl) (by kernel_rfl) (by kernel_rfl) (fun _ _ _ h => h) (Or.inl ⟨by rfl, ?_⟩) hHeld ?_
      rotate_left
      · intro w hSw; (try dsimp only at hSw); go_simp; first | done | with_reducible rfl
      try simp only [Act.put, List.setIfInBounds_toArray, List.set_cons_zero, List.set_cons_succ]
      refine wpAnyH_take (i := 25) (oi := { dst := some 52, op := Op.move (Operand.tmp 2), type := 9, pos := "law.go:40", after := #[{ on := 21, ground := Ground.guard }], guard := some (21, false) }) (v := ?_) rfl (by kernel_rfl) (by kernel_rfl) (by kernel_rfl) (fun _ _ _ h => h) (Or.inl ⟨by rfl, ?_⟩) hHeld ?_
      rotate_left
      · intro w hSw; (try dsimp only at hSw); go_simp; first | done | with_reducible rfl
      try simp only [Act.put, List.setIfInBounds_toArray, List.set_cons_zero, List.set_cons_succ]
      refine wpAnyH_take (i := 26) (oi := { dst := some 53, op := Op.move (Operand.tmp 1), type := 24, pos := "law.go:40", after := #[{ on := 21, ground := Ground.guard }], guard := some (21, false) }) (v := ?_) rfl (by kernel_rfl) (by kernel_rfl) (by kernel_rfl) (fun _ _ _ h => h) (Or.inl ⟨by rfl, ?_⟩) hHeld ?_
      rotate_left
      · intro w hSw; (try dsimp only at hSw); go_simp; first | done | with_reducible rfl
      try simp only [Act.put, List.setIfInBounds_toArray, List.set_cons_zero, List.set_cons_succ]
      refine wpAnyH_ready (rs := [24]) (by kernel_rfl) (by simp) ?_
      refine AllReadyH.cons (o := { dst := some 51, op := Op.call { callee := Callee.value (Operand.func 16), args := #[Operand.tmp 49, Operand.tmp 50], argTypes := #[9, 24] }, type := 4, pos := "law.go:40", after := #[{ on := 22, ground := Ground.data }, { on := 23, ground := Ground.data }, { on := 21, ground := Ground.chain }, { on := 21, ground := Ground.guard }], guard := some (21, false) }) rfl (fun K hK => ?_) AllReadyH.nil
      clear hHeld
      go_simp
      refine (NP.out _ _ HG6.out).mono ?_
      rintro e V7 ⟨rfl, hB⟩
      have HS7 := hideL (HS6.out.next hB)
      have HG7 := hideL (HG6.out.below hB)
      clear hB HS6 HG6
      refine hK.out _ _ (HS7.out.bt) (fun hHeld => ?_)
      clear hK K
      try simp only [Act.put, List.setIfInBounds_toArray, List.set_cons_zero, List.set_cons_succ]
      refine wpAnyH_ready (rs := [27]) (by kernel_rfl) (by simp) ?_
      refine AllReadyH.cons (o := { dst := some 54, op := Op.call { callee := Callee.value (Operand.func 17), args := #[Operand.tmp 52, Operand.tmp 53], argTypes := #[9, 24] }, type := 4, pos := "law.go:40", after := #[{ on := 25, ground := Ground.data }, { on := 26, ground := Ground.data }, { on := 24, ground := Ground.chain }, { on := 21, ground := Ground.guard }], guard := some (21, false) }) rfl (fun K hK => ?_) AllReadyH.nil
      clear hHeld
      go_simp
      refine (NR.out _ _ HS7.out.row).mono ?_
      rintro e V8 ⟨rfl, hB⟩
      have HS8 := hideL (HS7.out.next hB)
      have HG8 := hideL (HG7.out.below hB)
      clear hB HS7 HG7
      refine hK.out _ _ (HS8.out.bt) (fun hHeld => ?_)
      clear hK K
      try simp only [Act.put, List.setIfInBounds_toArray, List.set_cons_zero, List.set_cons_succ]
      refine wpAnyH_take (i := 28) (oi := { dst := some 55, op := Op.binOp BinOp.neq 4 (Operand.tmp 51) (Operand.tmp 54) 4, type := 4, pos := "law.go:40", after := #[{ on := 24, ground := Ground.data }, { on := 27, ground := Ground.data }, { on := 21, ground := Ground.guard }], guard := some (21, false) }) (v := ?_) rfl (by kernel_rfl) (by kernel_rfl) (by kernel_rfl) (fun _ _ _ h => h) (Or.inl ⟨by rfl, ?_⟩) hHeld ?_
      rotate_left
      · intro w hSw; (try dsimp only at hSw); go_simp; first | done | with_reducible rfl
      try simp only [Act.put, List.setIfInBounds_toArray, List.set_cons_zero, List.set_cons_succ]
      refine wpAnyH_take (i := 29) (oi := { dst := some 56, op := Op.pick (Operand.tmp 48) (Operand.const (Value.bool true)) (Operand.tmp 55), type := 4, pos := "law.go:40", after := #[{ on := 21, ground := Ground.data }, { on := 28, ground := Ground.data }], guard := none }) (v := ?_) rfl (by kernel_rfl) (by kernel_rfl) (by kernel_rfl) (fun _ _ _ h => h) (Or.inl ⟨by rfl, ?_⟩) hHeld ?_
      rotate_left
      · intro w hSw; (try dsimp only at hSw); go_simp; first | done | with_reducible rfl
      try simp only [Act.put, List.setIfInBounds_toArray, List.set_cons_zero, List.set_cons_succ]
      refine wpAnyH_take (i := 30) (oi := { dst := some 57, op := Op.move (Operand.tmp 56), type := 4, pos := "law.go:40", after := #[{ on := 29, ground := Ground.data }, { on := 27, ground := Ground.chain }], guard := none }) (v := ?_) rfl (by kernel_rfl) (by kernel_rfl) (by kernel_rfl) (fun _ _ _ h => h) (Or.inl ⟨by rfl, ?_⟩) hHeld ?_
      rotate_left
      · intro w hSw; (try dsimp only at hSw); go_simp; first | done | with_reducible rfl
      try simp only [Act.put, List.setIfInBounds_toArray, List.set_cons_zero, List.set_cons_succ]
      refine wpAnyH_take (i := 31) (oi := { dst := some 58, op := Op.move (Operand.tmp 2), type := 9, pos := "law.go:40", after := #[{ on := 30, ground := Ground.guard }], guard := some (30, false) }) (v := ?_) rfl (by kernel_rfl) (by kernel_rfl) (by kernel_rfl) (fun _ _ _ h => h) (Or.inl ⟨by rfl, ?_⟩) hHeld ?_
      rotate_left
      · intro w hSw; (try dsimp only at hSw); go_simp; first | done | with_reducible rfl
      try simp only [Act.put, List.setIfInBounds_toArray, List.set_cons_zero, List.set_cons_succ]
      refine wpAnyH_take (i := 32) (oi := { dst := some 59, op := Op.move (Operand.tmp 7), type := 24, pos := "law.go:40", after := #[{ on := 30, ground := Ground.guard }], guard := some (30, false) }) (v := ?_) rfl (by kernel_rfl) (by kernel_rfl) (by kernel_rfl) (fun _ _ _ h => h) (Or.inl ⟨by rfl, ?_⟩) hHeld ?_
      rotate_left
      · intro w hSw; (try dsimp only at hSw); go_simp; first | done | with_reducible rfl
      try simp only [Act.put, List.setIfInBounds_toArray, List.set_cons_zero, List.set_cons_succ]
      refine wpAnyH_take (i := 34) (oi := { dst := some 61, op := Op.move (Operand.tmp 1), type := 24, pos := "law.go:40", after := #[{ on := 30, ground := Ground.guard }], guard := some (30, false) }) (v := ?_) rfl (by kernel_rfl) (by kernel_rfl) (by kernel_rfl) (fun _ _ _ h => h) (Or.inl ⟨by rfl, ?_⟩) hHeld ?_
      rotate_left
      · intro w hSw; (try dsimp only at hSw); go_simp; first | done | with_reducible rfl
      try simp only [Act.put, List.setIfInBounds_toArray, List.set_cons_zero, List.set_cons_succ]
      refine wpAnyH_take (i := 35) (oi := { dst := some 62, op := Op.call { callee := Callee.builtin Builtin.len, args := #[Operand.tmp 61], argTypes := #[24] }, type := 3, pos := "law.go:40", after := #[{ on := 34, ground := Ground.data }, { on := 30, ground := Ground.guard }], guard := some (30, false) }) (v := ?_) rfl (by kernel_rfl) (by kernel_rfl) (by kernel_rfl) (fun _ _ _ h => h) (Or.inl ⟨by rfl, ?_⟩) hHeld ?_
      rotate_left
      · intro w hSw; (try dsimp only at hSw); go_simp; first | done | with_reducible rfl
      try simp only [Act.put, List.setIfInBounds_toArray, List.set_cons_zero, List.set_cons_succ]
      refine wpAnyH_take (i := 36) (oi := { dst := some 63, op := Op.binOp BinOp.eql 3 (Operand.tmp 62) (Operand.const (Value.int IntKind.i64 0)) 3, type := 4, pos := "law.go:40", after := #[{ on := 35, ground := Ground.data }, { on := 30, ground := Ground.guard }], guard := some (30, false) }) (v := ?_) rfl (by kernel_rfl) (by kernel_rfl) (by kernel_rfl) (fun _ _ _ h => h) (Or.inl ⟨by rfl, ?_⟩) hHeld ?_
      rotate_left
      · intro w hSw; (try dsimp only at hSw); go_simp; first | done | with_reducible rfl
      try simp only [Act.put, List.setIfInBounds_toArray, List.set_cons_zero, List.set_cons_succ]
      refine wpAnyH_ready (rs := [33]) (by kernel_rfl) (by simp) ?_
      refine AllReadyH.cons (o := { dst := some 60, op := Op.call { callee := Callee.value (Operand.func 18), args := #[Operand.tmp 58, Operand.tmp 59], argTypes := #[9, 24] }, type := 4, pos := "law.go:40", after := #[{ on := 31, ground := Ground.data }, { on := 32, ground := Ground.data }, { on := 30, ground := Ground.chain }, { on := 30, ground := Ground.guard }], guard := some (30, false) }) rfl (fun K hK => ?_) AllReadyH.nil
      clear hHeld
      go_simp
      refine (EP.out _ _ HG8.out).mono ?_
      rintro e V9 ⟨rfl, hB⟩
      have HS9 := hideL (HS8.out.next hB)
      have HG9 := hideL (HG8.out.below hB)
      clear hB HS8 HG8
      refine hK.out _ _ (HS9.out.bt) (fun hHeld => ?_)
      clear hK K
      try simp only [Act.put, List.setIfInBounds_toArray, List.set_cons_zero, List.set_cons_succ]
      refine wpAnyH_take (i := 37) (oi := { dst := some 64, op := Op.move (Operand.tmp 63), type := 4, pos := "law.go:40", after := #[{ on := 36, ground := Ground.data }, { on := 33, ground := Ground.chain }, { on := 30, ground := Ground.guard }], guard := some (30, false) }) (v := ?_) rfl (by kernel_rfl) (by kernel_rfl) (by kernel_rfl) (fun _ _ _ h => h) (Or.inl ⟨by rfl, ?_⟩) hHeld ?_
      rotate_left
      · intro w hSw; (try dsimp only at hSw); go_simp; first | done | with_reducible rfl
      try simp only [Act.put, List.setIfInBounds_toArray, List.set_cons_zero, List.set_cons_succ]
      refine wpAnyH_take (i := 38) (oi := { dst := some 65, op := Op.move (Operand.tmp 2), type := 9, pos := "law.go:40", after := #[{ on := 37, ground := Ground.guard }], guard := some (37, false) }) (v := ?_) rfl (by kernel_rfl) (by kernel_rfl) (by kernel_rfl) (fun _ _ _ h => h) (Or.inl ⟨by rfl, ?_⟩) hHeld ?_
      rotate_left
      · intro w hSw; (try dsimp only at hSw); go_simp; first | done | with_reducible rfl
      try simp only [Act.put, List.setIfInBounds_toArray, List.set_cons_zero, List.set_cons_succ]
      refine wpAnyH_take (i := 39) (oi := { dst := some 66, op := Op.move (Operand.tmp 1), type := 24, pos := "law.go:40", after := #[{ on := 37, ground := Ground.guard }], guard := some (37, false) }) (v := ?_) rfl (by kernel_rfl) (by kernel_rfl) (by kernel_rfl) (fun _ _ _ h => h) (Or.inl ⟨by rfl, ?_⟩) hHeld ?_
      rotate_left
      · intro w hSw; (try dsimp only at hSw); go_simp; first | done | with_reducible rfl
      try simp only [Act.put, List.setIfInBounds_toArray, List.set_cons_zero, List.set_cons_succ]
      refine wpAnyH_ready (rs := [40]) (by kernel_rfl) (by simp) ?_
      refine AllReadyH.cons (o := { dst := some 67, op := Op.call { callee := Callee.value (Operand.func 17), args := #[Operand.tmp 65, Operand.tmp 66], argTypes := #[9, 24] }, type := 4, pos := "law.go:40", after := #[{ on := 38, ground := Ground.data }, { on := 39, ground := Ground.data }, { on := 37, ground := Ground.chain }, { on := 37, ground := Ground.guard }], guard := some (37, false) }) rfl (fun K hK => ?_) AllReadyH.nil
      clear hHeld
      go_simp
      refine (NR.out _ _ HS9.out.row).mono ?_
      rintro e V10 ⟨rfl, hB⟩
      have HS10 := hideL (HS9.out.next hB)
      have HG10 := hideL (HG9.out.below hB)
      clear hB HS9 HG9
      refine hK.out _ _ (HS10.out.bt) (fun hHeld => ?_)
      clear hK K
      try simp only [Act.put, List.setIfInBounds_toArray, List.set_cons_zero, List.set_cons_succ]
      refine wpAnyH_take (i := 41) (oi := { dst := some 68, op := Op.pick (Operand.tmp 64) (Operand.const (Value.bool true)) (Operand.tmp 67), type := 4, pos := "law.go:40", after := #[{ on := 37, ground := Ground.data }, { on := 40, ground := Ground.data }, { on := 30, ground := Ground.guard }], guard := some (30, false) }) (v := ?_) rfl (by kernel_rfl) (by kernel_rfl) (by kernel_rfl) (fun _ _ _ h => h) (Or.inl ⟨by rfl, ?_⟩) hHeld ?_
      rotate_left
      · intro w hSw; (try dsimp only at hSw); go_simp; first | done | with_reducible rfl
      try simp only [Act.put, List.setIfInBounds_toArray, List.set_cons_zero, List.set_cons_succ]
      refine wpAnyH_take (i := 42) (oi := { dst := some 69, op := Op.binOp BinOp.neq 4 (Operand.tmp 60) (Operand.tmp 68) 4, type := 4, pos := "law.go:40", after := #[{ on := 33, ground := Ground.data }, { on := 41, ground := Ground.data }, { on := 30, ground := Ground.guard }], guard := some (30, false) }) (v := ?_) rfl (by kernel_rfl) (by kernel_rfl) (by kernel_rfl) (fun _ _ _ h => h) (Or.inl ⟨by rfl, ?_⟩) hHeld ?_
      rotate_left
      · intro w hSw; (try dsimp only at hSw); go_simp; first | done | with_reducible rfl
      try simp only [Act.put, List.setIfInBounds_toArray, List.set_cons_zero, List.set_cons_succ]
      refine wpAnyH_take (i := 43) (oi := { dst := some 70, op := Op.pick (Operand.tmp 57) (Operand.const (Value.bool true)) (Operand.tmp 69), type := 4, pos := "law.go:40", after := #[{ on := 30, ground := Ground.data }, { on := 42, ground := Ground.data }], guard := none }) (v := ?_) rfl (by kernel_rfl) (by kernel_rfl) (by kernel_rfl) (fun _ _ _ h => h) (Or.inl ⟨by rfl, ?_⟩) hHeld ?_
      rotate_left
      · intro w hSw; (try dsimp only at hSw); go_simp; first | done | with_reducible rfl
      try simp only [Act.put, List.setIfInBounds_toArray, List.set_cons_zero, List.set_cons_succ]
      refine wpAnyH_done (by kernel_rfl) ?_ _
      clear hHeld
      go_wp2_with fail
      go_meet
      case rel => exact ⟨rfl, HS10.out⟩
  case rest =>
    obtain ⟨rfl, hsr⟩ := hcut
    have HS := hideL hsr
    have c0 := HS.out.bt.c0
    have c1 := HS.out.bt.c1
    clear hsr AP AR MP MR NP NR EP HG
    have hz : ((⟨#[]⟩ : ByteArray)).toList = [] := by rw [ByteArray.toList_eq]
    cases ma with
    | false =>
      simp only [Bool.false_eq_true, if_false] at PP
      cases pa with
      | none =>
        simp only [Option.getD_none, Option.isSome_none, Bool.false_eq_true, if_false] at QP QR
        rw [show (default : Tm).k = 0 from rfl, show (default : Tm).t = ⟨#[]⟩ from rfl] at QP QR
        go_wp2_with (first
          | (go_at_call 19; with_reducible refine (PP.out _).mono ?_; rintro e wx ⟨rfl, hB⟩; replace HS := hideL (HS.out.next hB); (try clear c0 c1); have c0 := HS.out.bt.c0; have c1 := HS.out.bt.c1; clear hB)
          | (go_at_call 11; with_reducible refine (YR.out _).mono ?_; rintro e wx ⟨rfl, hB⟩; replace HS := hideL (HS.out.next hB); (try clear c0 c1); have c0 := HS.out.bt.c0; have c1 := HS.out.bt.c1; clear hB)
          | (go_at_call 20; with_reducible refine (PR.out _).mono ?_; rintro e wx ⟨rfl, hB⟩; replace HS := hideL (HS.out.next hB); (try clear c0 c1); have c0 := HS.out.bt.c0; have c1 := HS.out.bt.c1; clear hB)
          | (go_at_call 21; with_reducible refine (QP.out _).mono ?_; rintro e wp ⟨rfl, hB⟩; replace HS := hideL ((HS.out.next hB).next ((Below.refl _ _).alloc (Nat.le_refl _) (.cells #[.int .i64 0, .string ⟨#[]⟩] 23))); have HP := hideL (TBox.new wp 0 ⟨#[]⟩); (try clear c0 c1); have c0 := HS.out.bt.c0; have c1 := HS.out.bt.c1; clear hB)
          | (go_at_call 22; with_reducible refine (QR.out _).mono ?_; rintro e wq ⟨rfl, hB⟩; replace HS := hideL ((HS.out.next hB).next ((Below.refl _ _).alloc (Nat.le_refl _) (.cells #[.int .i64 0, .string ⟨#[]⟩] 23))); have HQ := hideL (TBox.new wq 0 ⟨#[]⟩); replace HP := hideL ((HP.out.next hB).next ((Below.refl _ _).alloc (Nat.le_refl _) (.cells #[.int .i64 0, .string ⟨#[]⟩] 23))); (try clear c0 c1); have c0 := HS.out.bt.c0; have c1 := HS.out.bt.c1; have p0 := HP.out.c0; have p1 := HP.out.c1; have q0 := HQ.out.c0; have q1 := HQ.out.c1; clear hB)
          | (go_at_call 9; with_reducible refine (LW.out _).mono ?_; rintro e wx ⟨rfl, hB⟩; replace HS := hideL (HS.out.next hB); (try clear c0 c1); have c0 := HS.out.bt.c0; have c1 := HS.out.bt.c1; clear hB))
        go_ret
        exact ⟨rfl, HS.out.be⟩
      | some q =>
        simp only [Option.getD_some, Option.isSome_some, if_true] at QP QR
        obtain ⟨kq, tq⟩ := q
        dsimp only at QP QR
        go_wp2_with (first
          | (go_at_call 19; with_reducible refine (PP.out _).mono ?_; rintro e wx ⟨rfl, hB⟩; replace HS := hideL (HS.out.next hB); (try clear c0 c1); have c0 := HS.out.bt.c0; have c1 := HS.out.bt.c1; clear hB)
          | (go_at_call 11; with_reducible refine (YR.out _).mono ?_; rintro e wx ⟨rfl, hB⟩; replace HS := hideL (HS.out.next hB); (try clear c0 c1); have c0 := HS.out.bt.c0; have c1 := HS.out.bt.c1; clear hB)
          | (go_at_call 20; with_reducible refine (PR.out _).mono ?_; rintro e wx ⟨rfl, hB⟩; replace HS := hideL (HS.out.next hB); (try clear c0 c1); have c0 := HS.out.bt.c0; have c1 := HS.out.bt.c1; clear hB)
          | (go_at_call 21; with_reducible refine (QP.out _).mono ?_; rintro e wp ⟨rfl, hB⟩; replace HS := hideL ((HS.out.next hB).next ((Below.refl _ _).alloc (Nat.le_refl _) (.cells #[.int .i64 kq, .string tq] 23))); have HP := hideL (TBox.new wp kq tq); (try clear c0 c1); have c0 := HS.out.bt.c0; have c1 := HS.out.bt.c1; clear hB)
          | (go_at_call 22; with_reducible refine (QR.out _).mono ?_; rintro e wq ⟨rfl, hB⟩; replace HS := hideL ((HS.out.next hB).next ((Below.refl _ _).alloc (Nat.le_refl _) (.cells #[.int .i64 kq, .string tq] 23))); have HQ := hideL (TBox.new wq kq tq); replace HP := hideL ((HP.out.next hB).next ((Below.refl _ _).alloc (Nat.le_refl _) (.cells #[.int .i64 kq, .string tq] 23))); (try clear c0 c1); have c0 := HS.out.bt.c0; have c1 := HS.out.bt.c1; have p0 := HP.out.c0; have p1 := HP.out.c1; have q0 := HQ.out.c0; have q1 := HQ.out.c1; clear hB)
          | (go_at_call 9; with_reducible refine (LW.out _).mono ?_; rintro e wx ⟨rfl, hB⟩; replace HS := hideL (HS.out.next hB); (try clear c0 c1); have c0 := HS.out.bt.c0; have c1 := HS.out.bt.c1; clear hB))
        go_ret
        exact ⟨rfl, HS.out.be⟩
    | true =>
      simp only [if_true] at PP
      cases pa with
      | none =>
        simp only [Option.getD_none, Option.isSome_none, Bool.false_eq_true, if_false] at QP QR
        rw [show (default : Tm).k = 0 from rfl, show (default : Tm).t = ⟨#[]⟩ from rfl] at QP QR
        go_wp2_with (first
          | (go_at_call 19; with_reducible refine (PP.out _).mono ?_; rintro e wx ⟨rfl, hB⟩; replace HS := hideL (HS.out.next hB); (try clear c0 c1); have c0 := HS.out.bt.c0; have c1 := HS.out.bt.c1; clear hB)
          | (go_at_call 11; with_reducible refine (YR.out _).mono ?_; rintro e wx ⟨rfl, hB⟩; replace HS := hideL (HS.out.next hB); (try clear c0 c1); have c0 := HS.out.bt.c0; have c1 := HS.out.bt.c1; clear hB)
          | (go_at_call 20; with_reducible refine (PR.out _).mono ?_; rintro e wx ⟨rfl, hB⟩; replace HS := hideL (HS.out.next hB); (try clear c0 c1); have c0 := HS.out.bt.c0; have c1 := HS.out.bt.c1; clear hB)
          | (go_at_call 21; with_reducible refine (QP.out _).mono ?_; rintro e wp ⟨rfl, hB⟩; replace HS := hideL ((HS.out.next hB).next ((Below.refl _ _).alloc (Nat.le_refl _) (.cells #[.int .i64 0, .string ⟨#[]⟩] 23))); have HP := hideL (TBox.new wp 0 ⟨#[]⟩); (try clear c0 c1); have c0 := HS.out.bt.c0; have c1 := HS.out.bt.c1; clear hB)
          | (go_at_call 22; with_reducible refine (QR.out _).mono ?_; rintro e wq ⟨rfl, hB⟩; replace HS := hideL ((HS.out.next hB).next ((Below.refl _ _).alloc (Nat.le_refl _) (.cells #[.int .i64 0, .string ⟨#[]⟩] 23))); have HQ := hideL (TBox.new wq 0 ⟨#[]⟩); replace HP := hideL ((HP.out.next hB).next ((Below.refl _ _).alloc (Nat.le_refl _) (.cells #[.int .i64 0, .string ⟨#[]⟩] 23))); (try clear c0 c1); have c0 := HS.out.bt.c0; have c1 := HS.out.bt.c1; have p0 := HP.out.c0; have p1 := HP.out.c1; have q0 := HQ.out.c0; have q1 := HQ.out.c1; clear hB)
          | (go_at_call 9; with_reducible refine (LW.out _).mono ?_; rintro e wx ⟨rfl, hB⟩; replace HS := hideL (HS.out.next hB); (try clear c0 c1); have c0 := HS.out.bt.c0; have c1 := HS.out.bt.c1; clear hB))
        go_ret
        exact ⟨rfl, HS.out.be⟩
      | some q =>
        simp only [Option.getD_some, Option.isSome_some, if_true] at QP QR
        obtain ⟨kq, tq⟩ := q
        dsimp only at QP QR
        go_wp2_with (first
          | (go_at_call 19; with_reducible refine (PP.out _).mono ?_; rintro e wx ⟨rfl, hB⟩; replace HS := hideL (HS.out.next hB); (try clear c0 c1); have c0 := HS.out.bt.c0; have c1 := HS.out.bt.c1; clear hB)
          | (go_at_call 11; with_reducible refine (YR.out _).mono ?_; rintro e wx ⟨rfl, hB⟩; replace HS := hideL (HS.out.next hB); (try clear c0 c1); have c0 := HS.out.bt.c0; have c1 := HS.out.bt.c1; clear hB)
          | (go_at_call 20; with_reducible refine (PR.out _).mono ?_; rintro e wx ⟨rfl, hB⟩; replace HS := hideL (HS.out.next hB); (try clear c0 c1); have c0 := HS.out.bt.c0; have c1 := HS.out.bt.c1; clear hB)
          | (go_at_call 21; with_reducible refine (QP.out _).mono ?_; rintro e wp ⟨rfl, hB⟩; replace HS := hideL ((HS.out.next hB).next ((Below.refl _ _).alloc (Nat.le_refl _) (.cells #[.int .i64 kq, .string tq] 23))); have HP := hideL (TBox.new wp kq tq); (try clear c0 c1); have c0 := HS.out.bt.c0; have c1 := HS.out.bt.c1; clear hB)
          | (go_at_call 22; with_reducible refine (QR.out _).mono ?_; rintro e wq ⟨rfl, hB⟩; replace HS := hideL ((HS.out.next hB).next ((Below.refl _ _).alloc (Nat.le_refl _) (.cells #[.int .i64 kq, .string tq] 23))); have HQ := hideL (TBox.new wq kq tq); replace HP := hideL ((HP.out.next hB).next ((Below.refl _ _).alloc (Nat.le_refl _) (.cells #[.int .i64 kq, .string tq] 23))); (try clear c0 c1); have c0 := HS.out.bt.c0; have c1 := HS.out.bt.c1; have p0 := HP.out.c0; have p1 := HP.out.c1; have q0 := HQ.out.c0; have q1 := HQ.out.c1; clear hB)
          | (go_at_call 9; with_reducible refine (LW.out _).mono ?_; rintro e wx ⟨rfl, hB⟩; replace HS := hideL (HS.out.next hB); (try clear c0 c1); have c0 := HS.out.bt.c0; have c1 := HS.out.bt.c1; clear hB))
        go_ret
        exact ⟨rfl, HS.out.be⟩
theorem matchTerms_walk (t : Tm) (v : Value) (l : List Tm) (s : ByteArray) (w : World) (ht : t.t.size ≤ maxLen) (hv : GAt KT w v l) (_hok : ∀ c ∈ l, c.t.size ≤ maxLen) (hm : l.length ≤ maxLen) (hs : s.size ≤ maxLen) : Calls Try.prog 3 #[.agg #[.int .i64 t.k, .string t.t], v, .string s] w (LawPost w) := by
  cases hL1 : longM s l with
  | true => exact terms_long1 t v l s w hv hm ht hs hL1
  | false =>
    cases hL2 : longM s [t] with
    | true => exact terms_long2 t v l s w hv hm ht hs hL1 hL2
    | false => exact terms_main t v l s w hv hm ht hs hL1 hL2
end Go.Proofs.Ytffbmkocmjpmeaa
