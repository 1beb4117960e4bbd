/- The law HeadsOne (P9.7): the added header is a transfer-encoding. -/
import Derived.Test.YtilefgmlnmpeoaaDoorHeadsOne0
namespace Go.Proofs.YtilefgmlnmpeoaaDoor
open Go.RowKit Go.Lib

set_option maxRecDepth 100000 in
set_option maxHeartbeats 8000000 in
theorem one_te_0_none (v : Value) (l : List Hd) (at_ : Int) (other : Hd) (value : ByteArray) (w0 : World) (hv : GAt KH w0 v l) (hE : Env w0) (hl : longP l = false) (hh : longH other = false) (hs : value.size ≤ 500) (e0 : Nat) (hr : framP l = (e0, ⟨0, 0, 0⟩)) (h0 : l.length = 0) (hc2 : other.n = teA) : Calls Tryd.prog 7 #[v, .int .i64 at_, hdV other, .string value] w0 (fun e w' => e = .returned (.bool true) ∧ Below w0.heap.size w0 w') := by
  have LW := hideL (fun W (hE : Env W) => awake_any W hE)
  have HS := hideL (SL.new other hv hE)
  have L1 := hideL (fun W hv => long_any v l W hv)
  have L2 := hideL (long_lit other)
  rw [hl] at L1
  rw [hh] at L2
  have hs' : ¬ (500 : Int) < (value.size : Int) := by omega
  have hfit := longP_fits hl
  have hll := (longP_no hl).1
  have hhs := longH_no hh
  obtain ⟨kk, hk0, hkl⟩ : ∃ kk : Nat, kk = 0 ∧ kk ≤ l.length := ⟨0, rfl, Nat.zero_le _⟩
  have HK0 := hideL hk0
  clear hk0
  have hTl : (l.drop kk ++ l.take kk).length ≤ 100 := by simp; omega
  have hTf : Fits (l.drop kk ++ l.take kk) := (hfit.sub fun x hx => List.mem_of_mem_drop hx).append (hfit.sub fun x hx => List.mem_of_mem_take hx)
  have hTr : framP (l.drop kk ++ l.take kk) = (e0, ⟨0, 0, 0⟩) := (frm_turn l kk).trans hr
  have LF := hideL (fun W hv hE => frmN_any v l e0 0 0 0 hr W hv hfit (by omega) hE)
  have LT := hideL (fun r W (hv : GAt KH W r (l.drop kk ++ l.take kk)) hE => frmN_any r (l.drop kk ++ l.take kk) e0 0 0 0 hTr W hv hTf (by omega) hE)
  have n2 := eqs_true hc2
  rw [show teA.toList = [116, 114, 97, 110, 115, 102, 101, 114, 45, 101, 110, 99, 111, 100, 105, 110, 103] from by rw [ByteArray.toList_eq]; rfl] at n2
  have n1 := eqs_false (show other.n ≠ clA from fun e => cl_te (e.symm.trans hc2))
  rw [show clA.toList = [99, 111, 110, 116, 101, 110, 116, 45, 108, 101, 110, 103, 116, 104] from by rw [ByteArray.toList_eq]; rfl] at n1
  have HL := hideL (show l.length ≤ 100 from hll)
  have HTL := hideL hTl
  obtain ⟨n, c⟩ := other
  obtain ⟨ao, cap, rfl⟩ := hv.len
  simp only [hdV] at *
  clear hv hE
  obtain ⟨ln, hln⟩ : ∃ x, l.length = x := ⟨_, rfl⟩
  have HLN := hideL hln
  rw [hln] at hll HS L1 LF h0 hkl ⊢
  have h0' : ¬ (0 : Int) < (ln : Int) := by omega
  have H0 := hideL h0
  clear h0
  clear hl hh hs hfit hhs hr hln hTl hTf hTr hc2 
  go_enter Tryd.func7, Tryd.ntmps7
  go_upto_region 7 with (first
    | (go_at_call 9; first
      | (with_reducible refine (L1.out _ HS.out.row).mono ?_; rintro e w1 ⟨rfl, hB⟩; replace HS := hideL (HS.out.next hB); (try clear c0 c1); have c0 := HS.out.bx.c0; have c1 := HS.out.bx.c1; clear hB)
      | (with_reducible refine (L2.out _).mono ?_; rintro e w2 ⟨rfl, hB⟩; replace HS := hideL (HS.out.next hB); (try clear c0 c1); have c0 := HS.out.bx.c0; have c1 := HS.out.bx.c1; clear hB))
    | (go_at_call 28; with_reducible refine (LF.out _ HS.out.row HS.out.env).mono ?_; rintro e w3 ⟨rfl, hB⟩; have hA := (Below.refl w3.heap.size w3).alloc (Nat.le_refl _) (.cells #[.int .i64 0, .int .i64 0, .int .i64 0] 48); replace HS := hideL ((HS.out.next hB).next hA); have HP := hideL (BBox.new w3 0 0 0); clear hB hA))
  obtain ⟨W4, hW4⟩ : ∃ W4, W4 = w3.alloc (.cells #[.int .i64 0, .int .i64 0, .int .i64 0] 48) := ⟨_, rfl⟩
  obtain ⟨g3, hg3⟩ : ∃ g3, g3 = w3.heap.size := ⟨_, rfl⟩
  rw [← hW4, ← hg3] at HP
  rw [← hW4] at HS ⊢
  (try rw [← hg3])
  clear hW4 hg3 c0 c1
  have HB0 := hideL ((Below.refl W4.heap.size W4).drew)
  have hcut1 := run_cut_hl ao ln cap kk hkl
  have hcut2 := run_cut_hh ao ln cap kk (Nat.le_trans hkl HS.out.row.le.2)
  rw [show ((kk : Nat) : Int) = 0 from by rw [HK0.out]; rfl] at hcut1 hcut2
  go_cut [12] (fun s12 W' => GRow KH W' W4.heap.size s12 (l.drop kk ++ l.take kk) ∧ Below W4.heap.size W4 W')
  case first =>
    have HKL := hideL hkl
    refine wp_region_held_drew (S := fun w' => Below W4.heap.size W4 w') (by kernel_rfl) ((Below.refl _ _).drew) (fun hHeld => ?_)
    generalize W4.drew = V0 at hHeld HB0 ⊢
    refine wpAnyH_take (i := 1) (oi := { dst := some 48, op := Op.move (Operand.tmp 0), type := 24, pos := "law.go:147", after := #[], guard := none }) (v := ?_) rfl (by kernel_rfl) (by kernel_rfl) (by kernel_rfl) (fun _ _ _ h => h) (Or.inl ⟨by rfl, ?_⟩) hHeld ?_
    rotate_left
    · intro w hSw; (try dsimp only at hSw); go_simp; first | done | with_reducible rfl
    try simp only [Act.put, List.setIfInBounds_toArray, List.set_cons_zero, List.set_cons_succ]
    refine wpAnyH_take (i := 2) (oi := { dst := some 49, op := Op.move (Operand.tmp 11), type := 3, pos := "law.go:147", after := #[], guard := none }) (v := ?_) rfl (by kernel_rfl) (by kernel_rfl) (by kernel_rfl) (fun _ _ _ h => h) (Or.inl ⟨by rfl, ?_⟩) hHeld ?_
    rotate_left
    · intro w hSw; (try dsimp only at hSw); go_simp; first | done | with_reducible rfl
    try simp only [Act.put, List.setIfInBounds_toArray, List.set_cons_zero, List.set_cons_succ]
    refine wpAnyH_take (i := 3) (oi := { dst := some 50, op := Op.slice 24 (Operand.tmp 48) (some (Operand.tmp 49)) none none, type := 24, pos := "law.go:147", after := #[{ on := 1, ground := Ground.data }, { on := 2, ground := Ground.data }], guard := none }) (v := ?_) rfl (by kernel_rfl) (by kernel_rfl) (by kernel_rfl) (fun _ _ _ h => h) (Or.inl ⟨by rfl, ?_⟩) hHeld ?_
    rotate_left
    · intro w hSw; (try dsimp only at hSw); go_simp; first | done | with_reducible rfl
    try simp only [Act.put, List.setIfInBounds_toArray, List.set_cons_zero, List.set_cons_succ]
    refine wpAnyH_take (i := 5) (oi := { dst := some 52, op := Op.move (Operand.tmp 0), type := 24, pos := "law.go:147", after := #[], guard := none }) (v := ?_) rfl (by kernel_rfl) (by kernel_rfl) (by kernel_rfl) (fun _ _ _ h => h) (Or.inl ⟨by rfl, ?_⟩) hHeld ?_
    rotate_left
    · intro w hSw; (try dsimp only at hSw); go_simp; first | done | with_reducible rfl
    try simp only [Act.put, List.setIfInBounds_toArray, List.set_cons_zero, List.set_cons_succ]
    refine wpAnyH_take (i := 6) (oi := { dst := some 53, op := Op.move (Operand.tmp 11), type := 3, pos := "law.go:147", after := #[], guard := none }) (v := ?_) rfl (by kernel_rfl) (by kernel_rfl) (by kernel_rfl) (fun _ _ _ h => h) (Or.inl ⟨by rfl, ?_⟩) hHeld ?_
    rotate_left
    · intro w hSw; (try dsimp only at hSw); go_simp; first | done | with_reducible rfl
    try simp only [Act.put, List.setIfInBounds_toArray, List.set_cons_zero, List.set_cons_succ]
    refine wpAnyH_take (i := 7) (oi := { dst := some 54, op := Op.slice 24 (Operand.tmp 52) none (some (Operand.tmp 53)) none, type := 24, pos := "law.go:147", after := #[{ on := 5, ground := Ground.data }, { on := 6, ground := Ground.data }], guard := none }) (v := ?_) rfl (by kernel_rfl) (by kernel_rfl) (by kernel_rfl) (fun _ _ _ h => h) (Or.inl ⟨by rfl, ?_⟩) hHeld ?_
    rotate_left
    · intro w hSw; (try dsimp only at hSw); go_simp; first | done | with_reducible rfl
    try simp only [Act.put, List.setIfInBounds_toArray, List.set_cons_zero, List.set_cons_succ]
    refine wpAnyH_ready (rs := [0]) (by kernel_rfl) (by simp) ?_
    refine AllReadyH.cons (o := { dst := some 47, op := Op.buildSlice 24 0 #[], type := 24, pos := "law.go:147", after := #[], guard := none }) rfl (fun K hK => ?_) AllReadyH.nil
    clear hHeld
    go_simp
    have HA1 : HidL (GRow KH (V0.alloc (.cells #[] 23)) W4.heap.size (.slice (some ⟨V0.heap.size, 0, none⟩) 0 0) []) := hideL (GRow.lit (K := KH) V0 W4.heap.size [] HB0.out.size (by simp))
    have HB1 := hideL (HB0.out.alloc HB0.out.size (.cells #[] 23))
    obtain ⟨gA, hgA⟩ : ∃ gA, gA = V0.heap.size := ⟨_, rfl⟩
    rw [← hgA] at HA1 ⊢
    clear hgA
    obtain ⟨V1, hVn⟩ : ∃ x, x = V0.alloc (.cells #[] 23) := ⟨_, rfl⟩
    rw [← hVn] at HA1 HB1 ⊢
    clear hVn
    refine hK.out _ _ (HB1.out) (fun hHeld => ?_)
    clear hK K
    try simp only [Act.put, List.setIfInBounds_toArray, List.set_cons_zero, List.set_cons_succ]
    refine wpAnyH_ready (rs := [4]) (by kernel_rfl) (by simp) ?_
    refine AllReadyH.cons (o := { dst := some 51, op := Op.call { callee := Callee.builtin Builtin.append, args := #[Operand.tmp 47, Operand.tmp 50], argTypes := #[24, 24] }, type := 24, pos := "law.go:147", after := #[{ on := 0, ground := Ground.data }, { on := 3, ground := Ground.data }], guard := none }) rfl (fun K hK => ?_) AllReadyH.nil
    clear hHeld
    rw [if_pos (by rfl)]
    obtain ⟨vR, V2, hrun, hr, hbb⟩ := cat_h V1 W4.heap.size _ [] HA1.out (slH ao kk (ln - kk) cap) (l.drop kk) ((HS.out.next HB1.out).row.tail HKL.out) (by have := HLN.out; have := HL.out; simp; omega) HB1.out.size
    refine wp_append_runM _ _ _ _ _ rfl rfl _ _ vR V2 rfl rfl hrun ?_
    have HR2 : HidL (GRow KH V2 W4.heap.size vR (l.drop kk)) := hideL hr
    have HB2 := hideL (HB1.out.trans hbb)
    clear hrun hr hbb
    refine hK.out _ _ (HB2.out) (fun hHeld => ?_)
    clear hK K
    try simp only [Act.put, List.setIfInBounds_toArray, List.set_cons_zero, List.set_cons_succ]
    refine wpAnyH_ready (rs := [8]) (by kernel_rfl) (by simp) ?_
    refine AllReadyH.cons (o := { dst := some 55, op := Op.call { callee := Callee.builtin Builtin.append, args := #[Operand.tmp 51, Operand.tmp 54], argTypes := #[24, 24] }, type := 24, pos := "law.go:147", after := #[{ on := 4, ground := Ground.data }, { on := 7, ground := Ground.data }, { on := 4, ground := Ground.chain }], guard := none }) rfl (fun K hK => ?_) AllReadyH.nil
    clear hHeld
    rw [if_pos (by rfl)]
    obtain ⟨vF, V3, hrun, hr, hbb⟩ := cat_h V2 W4.heap.size _ (l.drop kk) HR2.out (.slice ao kk cap) (l.take kk) ((HS.out.next HB2.out).row.front HKL.out) (by have := HLN.out; have := HL.out; simp; omega) HB2.out.size
    refine wp_append_runM _ _ _ _ _ rfl rfl _ _ vF V3 rfl rfl hrun ?_
    have HT3 : HidL (GRow KH V3 W4.heap.size vF (l.drop kk ++ l.take kk)) := hideL hr
    have HB3 := hideL (HB2.out.trans hbb)
    clear hrun hr hbb
    refine hK.out _ _ (HB3.out) (fun hHeld => ?_)
    clear hK K
    try simp only [Act.put, List.setIfInBounds_toArray, List.set_cons_zero, List.set_cons_succ]
    refine wpAnyH_take (i := 9) (oi := { dst := some 12, op := Op.assign (Operand.tmp 55), type := 24, pos := "law.go:147", after := #[{ on := 8, ground := Ground.data }, { on := 8, ground := Ground.chain }, { on := 0, ground := Ground.phase }, { on := 1, ground := Ground.phase }, { on := 2, ground := Ground.phase }, { on := 3, ground := Ground.phase }, { on := 4, ground := Ground.phase }, { on := 5, ground := Ground.phase }, { on := 6, ground := Ground.phase }, { on := 7, ground := Ground.phase }, { on := 8, ground := Ground.phase }], guard := none }) (v := ?_) rfl (by kernel_rfl) (by kernel_rfl) (by kernel_rfl) (fun _ _ _ h => h) (Or.inl ⟨by rfl, ?_⟩) hHeld ?_
    rotate_left
    · intro w hSw; (try dsimp only at hSw); go_simp; first | done | with_reducible rfl
    try simp only [Act.put, List.setIfInBounds_toArray, List.set_cons_zero, List.set_cons_succ]
    refine wpAnyH_done (by kernel_rfl) ?_ _
    clear hHeld
    go_wp2_with fail
    go_meet
    case rel => exact ⟨HT3.out, HB3.out⟩
  case rest =>
    obtain ⟨hrow, hbb⟩ := hcut
    obtain ⟨W5, rfl⟩ : ∃ W5, W5 = wc := ⟨_, rfl⟩
    obtain ⟨vF, rfl⟩ : ∃ vF, vF = u12 := ⟨_, rfl⟩
    have HT5 := hideL hrow
    have HB5 := hideL hbb
    have HS4 := HS
    have HP4 := HP
    clear hrow hbb hcut1 hcut2 HS HP HB0
    go_wp2_with (first
      | (go_at_call 28; first
        | (with_reducible refine (LT.out _ _ HT5.out.gAt (HS4.out.next HB5.out).env).mono ?_; rintro e w6 ⟨rfl, hB⟩; have hA := (Below.refl w6.heap.size w6).alloc (Nat.le_refl _) (.cells #[.int .i64 0, .int .i64 0, .int .i64 0] 48); have HB6 := hideL ((HB5.out.trans (hB.mono HB5.out.size)).trans (hA.mono (Nat.le_trans HB5.out.size hB.size))); have HT6 := hideL ((HT5.out.below hB).alloc (.cells #[.int .i64 0, .int .i64 0, .int .i64 0] 48)); clear hB hA; have p0 := (HP4.out.next HB6.out).c0; have p1 := (HP4.out.next HB6.out).c1; have p2 := (HP4.out.next HB6.out).c2; have c0 := (HS4.out.next HB6.out).bx.c0; have c1 := (HS4.out.next HB6.out).bx.c1))
      | (go_at_call 10; with_reducible refine (LW.out _ (HS4.out.next HB6.out).env).mono ?_; rintro e wx ⟨rfl, hB⟩; have HBX := hideL (HB6.out.trans (hB.mono HB6.out.size)); clear hB))
    go_ret
    exact ⟨rfl, HS4.out.be.trans (HBX.out.mono HS4.out.be.size)⟩
set_option maxRecDepth 100000 in
set_option maxHeartbeats 8000000 in
theorem one_te_0 (v : Value) (l : List Hd) (at_ : Int) (other : Hd) (value : ByteArray) (w0 : World) (hv : GAt KH w0 v l) (hE : Env w0) (hl : longP l = false) (hh : longH other = false) (hs : value.size ≤ 500) (e0 : Nat) (hr : framP l = (e0, ⟨0, 0, 0⟩)) (h0 : 0 < l.length) (hc2 : other.n = teA) : Calls Tryd.prog 7 #[v, .int .i64 at_, hdV other, .string value] w0 (fun e w' => e = .returned (.bool true) ∧ Below w0.heap.size w0 w') := by
  have LW := hideL (fun W (hE : Env W) => awake_any W hE)
  have HS := hideL (SL.new other hv hE)
  have L1 := hideL (fun W hv => long_any v l W hv)
  have L2 := hideL (long_lit other)
  rw [hl] at L1
  rw [hh] at L2
  have hs' : ¬ (500 : Int) < (value.size : Int) := by omega
  have hfit := longP_fits hl
  have hll := (longP_no hl).1
  have hhs := longH_no hh
  obtain ⟨kk, hkk, hkl⟩ : ∃ kk : Nat, max 0 at_ % (l.length : Int) = (kk : Int) ∧ kk ≤ l.length := by
    have h1 := Int.emod_nonneg (max 0 at_) (show (l.length : Int) ≠ 0 by omega)
    have h2 := Int.emod_lt_of_pos (max 0 at_) (show (0 : Int) < (l.length : Int) by omega)
    exact ⟨(max 0 at_ % (l.length : Int)).toNat, by omega, by omega⟩
  have hTl : (l.drop kk ++ l.take kk).length ≤ 100 := by simp; omega
  have hTf : Fits (l.drop kk ++ l.take kk) := (hfit.sub fun x hx => List.mem_of_mem_drop hx).append (hfit.sub fun x hx => List.mem_of_mem_take hx)
  have hTr : framP (l.drop kk ++ l.take kk) = (e0, ⟨0, 0, 0⟩) := (frm_turn l kk).trans hr
  have LF := hideL (fun W hv hE => frmN_any v l e0 0 0 0 hr W hv hfit (by omega) hE)
  have LT := hideL (fun r W (hv : GAt KH W r (l.drop kk ++ l.take kk)) hE => frmN_any r (l.drop kk ++ l.take kk) e0 0 0 0 hTr W hv hTf (by omega) hE)
  have n2 := eqs_true hc2
  rw [show teA.toList = [116, 114, 97, 110, 115, 102, 101, 114, 45, 101, 110, 99, 111, 100, 105, 110, 103] from by rw [ByteArray.toList_eq]; rfl] at n2
  have n1 := eqs_false (show other.n ≠ clA from fun e => cl_te (e.symm.trans hc2))
  rw [show clA.toList = [99, 111, 110, 116, 101, 110, 116, 45, 108, 101, 110, 103, 116, 104] from by rw [ByteArray.toList_eq]; rfl] at n1
  have HL := hideL (show l.length ≤ 100 from hll)
  have HTL := hideL hTl
  obtain ⟨n, c⟩ := other
  obtain ⟨ao, cap, rfl⟩ := hv.len
  simp only [hdV] at *
  clear hv hE
  obtain ⟨ln, hln⟩ : ∃ x, l.length = x := ⟨_, rfl⟩
  have HLN := hideL hln
  rw [hln] at hll HS L1 LF h0 hkl hkk ⊢
  have h0' : (0 : Int) < (ln : Int) := by omega
  clear hl hh hs hfit hhs hr hln hTl hTf hTr hc2 
  go_enter Tryd.func7, Tryd.ntmps7
  go_upto_region 7 with (first
    | (go_at_call 9; first
      | (with_reducible refine (L1.out _ HS.out.row).mono ?_; rintro e w1 ⟨rfl, hB⟩; replace HS := hideL (HS.out.next hB); (try clear c0 c1); have c0 := HS.out.bx.c0; have c1 := HS.out.bx.c1; clear hB)
      | (with_reducible refine (L2.out _).mono ?_; rintro e w2 ⟨rfl, hB⟩; replace HS := hideL (HS.out.next hB); (try clear c0 c1); have c0 := HS.out.bx.c0; have c1 := HS.out.bx.c1; clear hB))
    | (go_at_call 28; with_reducible refine (LF.out _ HS.out.row HS.out.env).mono ?_; rintro e w3 ⟨rfl, hB⟩; have hA := (Below.refl w3.heap.size w3).alloc (Nat.le_refl _) (.cells #[.int .i64 0, .int .i64 0, .int .i64 0] 48); replace HS := hideL ((HS.out.next hB).next hA); have HP := hideL (BBox.new w3 0 0 0); clear hB hA))
  obtain ⟨W4, hW4⟩ : ∃ W4, W4 = w3.alloc (.cells #[.int .i64 0, .int .i64 0, .int .i64 0] 48) := ⟨_, rfl⟩
  obtain ⟨g3, hg3⟩ : ∃ g3, g3 = w3.heap.size := ⟨_, rfl⟩
  rw [← hW4, ← hg3] at HP
  rw [← hW4] at HS ⊢
  (try rw [← hg3])
  clear hW4 hg3 c0 c1
  rw [hkk]
  clear hkk
  have HB0 := hideL ((Below.refl W4.heap.size W4).drew)
  have hcut1 := run_cut_hl ao ln cap kk hkl
  have hcut2 := run_cut_hh ao ln cap kk (Nat.le_trans hkl HS.out.row.le.2)
  go_cut [12] (fun s12 W' => GRow KH W' W4.heap.size s12 (l.drop kk ++ l.take kk) ∧ Below W4.heap.size W4 W')
  case first =>
    have HKL := hideL hkl
    refine wp_region_held_drew (S := fun w' => Below W4.heap.size W4 w') (by kernel_rfl) ((Below.refl _ _).drew) (fun hHeld => ?_)
    generalize W4.drew = V0 at hHeld HB0 ⊢
    refine wpAnyH_take (i := 1) (oi := { dst := some 48, op := Op.move (Operand.tmp 0), type := 24, pos := "law.go:147", after := #[], guard := none }) (v := ?_) rfl (by kernel_rfl) (by kernel_rfl) (by kernel_rfl) (fun _ _ _ h => h) (Or.inl ⟨by rfl, ?_⟩) hHeld ?_
    rotate_left
    · intro w hSw; (try dsimp only at hSw); go_simp; first | done | with_reducible rfl
    try simp only [Act.put, List.setIfInBounds_toArray, List.set_cons_zero, List.set_cons_succ]
    refine wpAnyH_take (i := 2) (oi := { dst := some 49, op := Op.move (Operand.tmp 11), type := 3, pos := "law.go:147", after := #[], guard := none }) (v := ?_) rfl (by kernel_rfl) (by kernel_rfl) (by kernel_rfl) (fun _ _ _ h => h) (Or.inl ⟨by rfl, ?_⟩) hHeld ?_
    rotate_left
    · intro w hSw; (try dsimp only at hSw); go_simp; first | done | with_reducible rfl
    try simp only [Act.put, List.setIfInBounds_toArray, List.set_cons_zero, List.set_cons_succ]
    refine wpAnyH_take (i := 3) (oi := { dst := some 50, op := Op.slice 24 (Operand.tmp 48) (some (Operand.tmp 49)) none none, type := 24, pos := "law.go:147", after := #[{ on := 1, ground := Ground.data }, { on := 2, ground := Ground.data }], guard := none }) (v := ?_) rfl (by kernel_rfl) (by kernel_rfl) (by kernel_rfl) (fun _ _ _ h => h) (Or.inl ⟨by rfl, ?_⟩) hHeld ?_
    rotate_left
    · intro w hSw; (try dsimp only at hSw); go_simp; first | done | with_reducible rfl
    try simp only [Act.put, List.setIfInBounds_toArray, List.set_cons_zero, List.set_cons_succ]
    refine wpAnyH_take (i := 5) (oi := { dst := some 52, op := Op.move (Operand.tmp 0), type := 24, pos := "law.go:147", after := #[], guard := none }) (v := ?_) rfl (by kernel_rfl) (by kernel_rfl) (by kernel_rfl) (fun _ _ _ h => h) (Or.inl ⟨by rfl, ?_⟩) hHeld ?_
    rotate_left
    · intro w hSw; (try dsimp only at hSw); go_simp; first | done | with_reducible rfl
    try simp only [Act.put, List.setIfInBounds_toArray, List.set_cons_zero, List.set_cons_succ]
    refine wpAnyH_take (i := 6) (oi := { dst := some 53, op := Op.move (Operand.tmp 11), type := 3, pos := "law.go:147", after := #[], guard := none }) (v := ?_) rfl (by kernel_rfl) (by kernel_rfl) (by kernel_rfl) (fun _ _ _ h => h) (Or.inl ⟨by rfl, ?_⟩) hHeld ?_
    rotate_left
    · intro w hSw; (try dsimp only at hSw); go_simp; first | done | with_reducible rfl
    try simp only [Act.put, List.setIfInBounds_toArray, List.set_cons_zero, List.set_cons_succ]
    refine wpAnyH_take (i := 7) (oi := { dst := some 54, op := Op.slice 24 (Operand.tmp 52) none (some (Operand.tmp 53)) none, type := 24, pos := "law.go:147", after := #[{ on := 5, ground := Ground.data }, { on := 6, ground := Ground.data }], guard := none }) (v := ?_) rfl (by kernel_rfl) (by kernel_rfl) (by kernel_rfl) (fun _ _ _ h => h) (Or.inl ⟨by rfl, ?_⟩) hHeld ?_
    rotate_left
    · intro w hSw; (try dsimp only at hSw); go_simp; first | done | with_reducible rfl
    try simp only [Act.put, List.setIfInBounds_toArray, List.set_cons_zero, List.set_cons_succ]
    refine wpAnyH_ready (rs := [0]) (by kernel_rfl) (by simp) ?_
    refine AllReadyH.cons (o := { dst := some 47, op := Op.buildSlice 24 0 #[], type := 24, pos := "law.go:147", after := #[], guard := none }) rfl (fun K hK => ?_) AllReadyH.nil
    clear hHeld
    go_simp
    have HA1 : HidL (GRow KH (V0.alloc (.cells #[] 23)) W4.heap.size (.slice (some ⟨V0.heap.size, 0, none⟩) 0 0) []) := hideL (GRow.lit (K := KH) V0 W4.heap.size [] HB0.out.size (by simp))
    have HB1 := hideL (HB0.out.alloc HB0.out.size (.cells #[] 23))
    obtain ⟨gA, hgA⟩ : ∃ gA, gA = V0.heap.size := ⟨_, rfl⟩
    rw [← hgA] at HA1 ⊢
    clear hgA
    obtain ⟨V1, hVn⟩ : ∃ x, x = V0.alloc (.cells #[] 23) := ⟨_, rfl⟩
    rw [← hVn] at HA1 HB1 ⊢
    clear hVn
    refine hK.out _ _ (HB1.out) (fun hHeld => ?_)
    clear hK K
    try simp only [Act.put, List.setIfInBounds_toArray, List.set_cons_zero, List.set_cons_succ]
    refine wpAnyH_ready (rs := [4]) (by kernel_rfl) (by simp) ?_
    refine AllReadyH.cons (o := { dst := some 51, op := Op.call { callee := Callee.builtin Builtin.append, args := #[Operand.tmp 47, Operand.tmp 50], argTypes := #[24, 24] }, type := 24, pos := "law.go:147", after := #[{ on := 0, ground := Ground.data }, { on := 3, ground := Ground.data }], guard := none }) rfl (fun K hK => ?_) AllReadyH.nil
    clear hHeld
    rw [if_pos (by rfl)]
    obtain ⟨vR, V2, hrun, hr, hbb⟩ := cat_h V1 W4.heap.size _ [] HA1.out (slH ao kk (ln - kk) cap) (l.drop kk) ((HS.out.next HB1.out).row.tail HKL.out) (by have := HLN.out; have := HL.out; simp; omega) HB1.out.size
    refine wp_append_runM _ _ _ _ _ rfl rfl _ _ vR V2 rfl rfl hrun ?_
    have HR2 : HidL (GRow KH V2 W4.heap.size vR (l.drop kk)) := hideL hr
    have HB2 := hideL (HB1.out.trans hbb)
    clear hrun hr hbb
    refine hK.out _ _ (HB2.out) (fun hHeld => ?_)
    clear hK K
    try simp only [Act.put, List.setIfInBounds_toArray, List.set_cons_zero, List.set_cons_succ]
    refine wpAnyH_ready (rs := [8]) (by kernel_rfl) (by simp) ?_
    refine AllReadyH.cons (o := { dst := some 55, op := Op.call { callee := Callee.builtin Builtin.append, args := #[Operand.tmp 51, Operand.tmp 54], argTypes := #[24, 24] }, type := 24, pos := "law.go:147", after := #[{ on := 4, ground := Ground.data }, { on := 7, ground := Ground.data }, { on := 4, ground := Ground.chain }], guard := none }) rfl (fun K hK => ?_) AllReadyH.nil
    clear hHeld
    rw [if_pos (by rfl)]
    obtain ⟨vF, V3, hrun, hr, hbb⟩ := cat_h V2 W4.heap.size _ (l.drop kk) HR2.out (.slice ao kk cap) (l.take kk) ((HS.out.next HB2.out).row.front HKL.out) (by have := HLN.out; have := HL.out; simp; omega) HB2.out.size
    refine wp_append_runM _ _ _ _ _ rfl rfl _ _ vF V3 rfl rfl hrun ?_
    have HT3 : HidL (GRow KH V3 W4.heap.size vF (l.drop kk ++ l.take kk)) := hideL hr
    have HB3 := hideL (HB2.out.trans hbb)
    clear hrun hr hbb
    refine hK.out _ _ (HB3.out) (fun hHeld => ?_)
    clear hK K
    try simp only [Act.put, List.setIfInBounds_toArray, List.set_cons_zero, List.set_cons_succ]
    refine wpAnyH_take (i := 9) (oi := { dst := some 12, op := Op.assign (Operand.tmp 55), type := 24, pos := "law.go:147", after := #[{ on := 8, ground := Ground.data }, { on := 8, ground := Ground.chain }, { on := 0, ground := Ground.phase }, { on := 1, ground := Ground.phase }, { on := 2, ground := Ground.phase }, { on := 3, ground := Ground.phase }, { on := 4, ground := Ground.phase }, { on := 5, ground := Ground.phase }, { on := 6, ground := Ground.phase }, { on := 7, ground := Ground.phase }, { on := 8, ground := Ground.phase }], guard := none }) (v := ?_) rfl (by kernel_rfl) (by kernel_rfl) (by kernel_rfl) (fun _ _ _ h => h) (Or.inl ⟨by rfl, ?_⟩) hHeld ?_
    rotate_left
    · intro w hSw; (try dsimp only at hSw); go_simp; first | done | with_reducible rfl
    try simp only [Act.put, List.setIfInBounds_toArray, List.set_cons_zero, List.set_cons_succ]
    refine wpAnyH_done (by kernel_rfl) ?_ _
    clear hHeld
    go_wp2_with fail
    go_meet
    case rel => exact ⟨HT3.out, HB3.out⟩
  case rest =>
    obtain ⟨hrow, hbb⟩ := hcut
    obtain ⟨W5, rfl⟩ : ∃ W5, W5 = wc := ⟨_, rfl⟩
    obtain ⟨vF, rfl⟩ : ∃ vF, vF = u12 := ⟨_, rfl⟩
    have HT5 := hideL hrow
    have HB5 := hideL hbb
    have HS4 := HS
    have HP4 := HP
    clear hrow hbb hcut1 hcut2 HS HP HB0
    go_wp2_with (first
      | (go_at_call 28; first
        | (with_reducible refine (LT.out _ _ HT5.out.gAt (HS4.out.next HB5.out).env).mono ?_; rintro e w6 ⟨rfl, hB⟩; have hA := (Below.refl w6.heap.size w6).alloc (Nat.le_refl _) (.cells #[.int .i64 0, .int .i64 0, .int .i64 0] 48); have HB6 := hideL ((HB5.out.trans (hB.mono HB5.out.size)).trans (hA.mono (Nat.le_trans HB5.out.size hB.size))); have HT6 := hideL ((HT5.out.below hB).alloc (.cells #[.int .i64 0, .int .i64 0, .int .i64 0] 48)); clear hB hA; have p0 := (HP4.out.next HB6.out).c0; have p1 := (HP4.out.next HB6.out).c1; have p2 := (HP4.out.next HB6.out).c2; have c0 := (HS4.out.next HB6.out).bx.c0; have c1 := (HS4.out.next HB6.out).bx.c1))
      | (go_at_call 10; with_reducible refine (LW.out _ (HS4.out.next HB6.out).env).mono ?_; rintro e wx ⟨rfl, hB⟩; have HBX := hideL (HB6.out.trans (hB.mono HB6.out.size)); clear hB))
    go_ret
    exact ⟨rfl, HS4.out.be.trans (HBX.out.mono HS4.out.be.size)⟩
set_option maxRecDepth 100000 in
set_option maxHeartbeats 8000000 in
theorem one_te_1 (v : Value) (l : List Hd) (at_ : Int) (other : Hd) (value : ByteArray) (w0 : World) (hv : GAt KH w0 v l) (hE : Env w0) (hl : longP l = false) (hh : longH other = false) (hs : value.size ≤ 500) (e0 : Nat) (hr : framP l = (e0, ⟨1, 0, 0⟩)) (h0 : 0 < l.length) (hc2 : other.n = teA) : Calls Tryd.prog 7 #[v, .int .i64 at_, hdV other, .string value] w0 (fun e w' => e = .returned (.bool true) ∧ Below w0.heap.size w0 w') := by
  have LW := hideL (fun W (hE : Env W) => awake_any W hE)
  have HS := hideL (SL.new other hv hE)
  have L1 := hideL (fun W hv => long_any v l W hv)
  have L2 := hideL (long_lit other)
  rw [hl] at L1
  rw [hh] at L2
  have hs' : ¬ (500 : Int) < (value.size : Int) := by omega
  have hfit := longP_fits hl
  have hll := (longP_no hl).1
  have hhs := longH_no hh
  obtain ⟨kk, hkk, hkl⟩ : ∃ kk : Nat, max 0 at_ % (l.length : Int) = (kk : Int) ∧ kk ≤ l.length := by
    have h1 := Int.emod_nonneg (max 0 at_) (show (l.length : Int) ≠ 0 by omega)
    have h2 := Int.emod_lt_of_pos (max 0 at_) (show (0 : Int) < (l.length : Int) by omega)
    exact ⟨(max 0 at_ % (l.length : Int)).toNat, by omega, by omega⟩
  have hTl : (l.drop kk ++ l.take kk).length ≤ 100 := by simp; omega
  have hTf : Fits (l.drop kk ++ l.take kk) := (hfit.sub fun x hx => List.mem_of_mem_drop hx).append (hfit.sub fun x hx => List.mem_of_mem_take hx)
  have hTr : framP (l.drop kk ++ l.take kk) = (e0, ⟨1, 0, 0⟩) := (frm_turn l kk).trans hr
  have LF := hideL (fun W hv hE => frmN_any v l e0 1 0 0 hr W hv hfit (by omega) hE)
  have LT := hideL (fun r W (hv : GAt KH W r (l.drop kk ++ l.take kk)) hE => frmN_any r (l.drop kk ++ l.take kk) e0 1 0 0 hTr W hv hTf (by omega) hE)
  have n2 := eqs_true hc2
  rw [show teA.toList = [116, 114, 97, 110, 115, 102, 101, 114, 45, 101, 110, 99, 111, 100, 105, 110, 103] from by rw [ByteArray.toList_eq]; rfl] at n2
  have n1 := eqs_false (show other.n ≠ clA from fun e => cl_te (e.symm.trans hc2))
  rw [show clA.toList = [99, 111, 110, 116, 101, 110, 116, 45, 108, 101, 110, 103, 116, 104] from by rw [ByteArray.toList_eq]; rfl] at n1
  have hx0 : (⟨1, 0, 0⟩ : Bd) ≠ bd0 := by intro e; injection e with e1 e2; revert e1 e2; decide
  have hcf : Fits (l ++ [⟨⟨#[99, 111, 110, 116, 101, 110, 116, 45, 108, 101, 110, 103, 116, 104]⟩, value⟩]) := hfit.append (Fits.one ⟨show (14 : Nat) ≤ 1000000 by decide, show value.size ≤ 1000000 by omega⟩)
  have htf : Fits (l ++ [⟨⟨#[116, 114, 97, 110, 115, 102, 101, 114, 45, 101, 110, 99, 111, 100, 105, 110, 103]⟩, value⟩]) := hfit.append (Fits.one ⟨show (17 : Nat) ≤ 1000000 by decide, show value.size ≤ 1000000 by omega⟩)
  have LC := hideL (fun r W (hv : GAt KH W r (l ++ [⟨⟨#[99, 111, 110, 116, 101, 110, 116, 45, 108, 101, 110, 103, 116, 104]⟩, value⟩])) hE => frmN_any r (l ++ [⟨⟨#[99, 111, 110, 116, 101, 110, 116, 45, 108, 101, 110, 103, 116, 104]⟩, value⟩]) 2 0 0 0 (frm_more hr hx0 _ (.inl rfl)) W hv hcf (by simp; omega) hE)
  have LD := hideL (fun r W (hv : GAt KH W r (l ++ [⟨⟨#[116, 114, 97, 110, 115, 102, 101, 114, 45, 101, 110, 99, 111, 100, 105, 110, 103]⟩, value⟩])) hE => frmN_any r (l ++ [⟨⟨#[116, 114, 97, 110, 115, 102, 101, 114, 45, 101, 110, 99, 111, 100, 105, 110, 103]⟩, value⟩]) 2 0 0 0 (frm_more hr hx0 _ (.inr rfl)) W hv htf (by simp; omega) hE)
  have LH1 := hideL (fun W => head_any ⟨#[99, 111, 110, 116, 101, 110, 116, 45, 108, 101, 110, 103, 116, 104]⟩ value W)
  have LH2 := hideL (fun W => head_any ⟨#[116, 114, 97, 110, 115, 102, 101, 114, 45, 101, 110, 99, 111, 100, 105, 110, 103]⟩ value W)
  have HL := hideL (show l.length ≤ 100 from hll)
  have HTL := hideL hTl
  obtain ⟨n, c⟩ := other
  obtain ⟨ao, cap, rfl⟩ := hv.len
  simp only [hdV] at *
  clear hv hE
  obtain ⟨ln, hln⟩ : ∃ x, l.length = x := ⟨_, rfl⟩
  have HLN := hideL hln
  rw [hln] at hll HS L1 LF h0 hkl hkk ⊢
  have h0' : (0 : Int) < (ln : Int) := by omega
  clear hl hh hs hfit hhs hr hln hTl hTf hTr hc2 hx0 hcf htf 
  go_enter Tryd.func7, Tryd.ntmps7
  go_upto_region 7 with (first
    | (go_at_call 9; first
      | (with_reducible refine (L1.out _ HS.out.row).mono ?_; rintro e w1 ⟨rfl, hB⟩; replace HS := hideL (HS.out.next hB); (try clear c0 c1); have c0 := HS.out.bx.c0; have c1 := HS.out.bx.c1; clear hB)
      | (with_reducible refine (L2.out _).mono ?_; rintro e w2 ⟨rfl, hB⟩; replace HS := hideL (HS.out.next hB); (try clear c0 c1); have c0 := HS.out.bx.c0; have c1 := HS.out.bx.c1; clear hB))
    | (go_at_call 28; with_reducible refine (LF.out _ HS.out.row HS.out.env).mono ?_; rintro e w3 ⟨rfl, hB⟩; have hA := (Below.refl w3.heap.size w3).alloc (Nat.le_refl _) (.cells #[.int .i64 1, .int .i64 0, .int .i64 0] 48); replace HS := hideL ((HS.out.next hB).next hA); have HP := hideL (BBox.new w3 1 0 0); clear hB hA))
  obtain ⟨W4, hW4⟩ : ∃ W4, W4 = w3.alloc (.cells #[.int .i64 1, .int .i64 0, .int .i64 0] 48) := ⟨_, rfl⟩
  obtain ⟨g3, hg3⟩ : ∃ g3, g3 = w3.heap.size := ⟨_, rfl⟩
  rw [← hW4, ← hg3] at HP
  rw [← hW4] at HS ⊢
  (try rw [← hg3])
  clear hW4 hg3 c0 c1
  rw [hkk]
  clear hkk
  have HB0 := hideL ((Below.refl W4.heap.size W4).drew)
  have hcut1 := run_cut_hl ao ln cap kk hkl
  have hcut2 := run_cut_hh ao ln cap kk (Nat.le_trans hkl HS.out.row.le.2)
  go_cut [12] (fun s12 W' => GRow KH W' W4.heap.size s12 (l.drop kk ++ l.take kk) ∧ Below W4.heap.size W4 W')
  case first =>
    have HKL := hideL hkl
    refine wp_region_held_drew (S := fun w' => Below W4.heap.size W4 w') (by kernel_rfl) ((Below.refl _ _).drew) (fun hHeld => ?_)
    generalize W4.drew = V0 at hHeld HB0 ⊢
    refine wpAnyH_take (i := 1) (oi := { dst := some 48, op := Op.move (Operand.tmp 0), type := 24, pos := "law.go:147", after := #[], guard := none }) (v := ?_) rfl (by kernel_rfl) (by kernel_rfl) (by kernel_rfl) (fun _ _ _ h => h) (Or.inl ⟨by rfl, ?_⟩) hHeld ?_
    rotate_left
    · intro w hSw; (try dsimp only at hSw); go_simp; first | done | with_reducible rfl
    try simp only [Act.put, List.setIfInBounds_toArray, List.set_cons_zero, List.set_cons_succ]
    refine wpAnyH_take (i := 2) (oi := { dst := some 49, op := Op.move (Operand.tmp 11), type := 3, pos := "law.go:147", after := #[], guard := none }) (v := ?_) rfl (by kernel_rfl) (by kernel_rfl) (by kernel_rfl) (fun _ _ _ h => h) (Or.inl ⟨by rfl, ?_⟩) hHeld ?_
    rotate_left
    · intro w hSw; (try dsimp only at hSw); go_simp; first | done | with_reducible rfl
    try simp only [Act.put, List.setIfInBounds_toArray, List.set_cons_zero, List.set_cons_succ]
    refine wpAnyH_take (i := 3) (oi := { dst := some 50, op := Op.slice 24 (Operand.tmp 48) (some (Operand.tmp 49)) none none, type := 24, pos := "law.go:147", after := #[{ on := 1, ground := Ground.data }, { on := 2, ground := Ground.data }], guard := none }) (v := ?_) rfl (by kernel_rfl) (by kernel_rfl) (by kernel_rfl) (fun _ _ _ h => h) (Or.inl ⟨by rfl, ?_⟩) hHeld ?_
    rotate_left
    · intro w hSw; (try dsimp only at hSw); go_simp; first | done | with_reducible rfl
    try simp only [Act.put, List.setIfInBounds_toArray, List.set_cons_zero, List.set_cons_succ]
    refine wpAnyH_take (i := 5) (oi := { dst := some 52, op := Op.move (Operand.tmp 0), type := 24, pos := "law.go:147", after := #[], guard := none }) (v := ?_) rfl (by kernel_rfl) (by kernel_rfl) (by kernel_rfl) (fun _ _ _ h => h) (Or.inl ⟨by rfl, ?_⟩) hHeld ?_
    rotate_left
    · intro w hSw; (try dsimp only at hSw); go_simp; first | done | with_reducible rfl
    try simp only [Act.put, List.setIfInBounds_toArray, List.set_cons_zero, List.set_cons_succ]
    refine wpAnyH_take (i := 6) (oi := { dst := some 53, op := Op.move (Operand.tmp 11), type := 3, pos := "law.go:147", after := #[], guard := none }) (v := ?_) rfl (by kernel_rfl) (by kernel_rfl) (by kernel_rfl) (fun _ _ _ h => h) (Or.inl ⟨by rfl, ?_⟩) hHeld ?_
    rotate_left
    · intro w hSw; (try dsimp only at hSw); go_simp; first | done | with_reducible rfl
    try simp only [Act.put, List.setIfInBounds_toArray, List.set_cons_zero, List.set_cons_succ]
    refine wpAnyH_take (i := 7) (oi := { dst := some 54, op := Op.slice 24 (Operand.tmp 52) none (some (Operand.tmp 53)) none, type := 24, pos := "law.go:147", after := #[{ on := 5, ground := Ground.data }, { on := 6, ground := Ground.data }], guard := none }) (v := ?_) rfl (by kernel_rfl) (by kernel_rfl) (by kernel_rfl) (fun _ _ _ h => h) (Or.inl ⟨by rfl, ?_⟩) hHeld ?_
    rotate_left
    · intro w hSw; (try dsimp only at hSw); go_simp; first | done | with_reducible rfl
    try simp only [Act.put, List.setIfInBounds_toArray, List.set_cons_zero, List.set_cons_succ]
    refine wpAnyH_ready (rs := [0]) (by kernel_rfl) (by simp) ?_
    refine AllReadyH.cons (o := { dst := some 47, op := Op.buildSlice 24 0 #[], type := 24, pos := "law.go:147", after := #[], guard := none }) rfl (fun K hK => ?_) AllReadyH.nil
    clear hHeld
    go_simp
    have HA1 : HidL (GRow KH (V0.alloc (.cells #[] 23)) W4.heap.size (.slice (some ⟨V0.heap.size, 0, none⟩) 0 0) []) := hideL (GRow.lit (K := KH) V0 W4.heap.size [] HB0.out.size (by simp))
    have HB1 := hideL (HB0.out.alloc HB0.out.size (.cells #[] 23))
    obtain ⟨gA, hgA⟩ : ∃ gA, gA = V0.heap.size := ⟨_, rfl⟩
    rw [← hgA] at HA1 ⊢
    clear hgA
    obtain ⟨V1, hVn⟩ : ∃ x, x = V0.alloc (.cells #[] 23) := ⟨_, rfl⟩
    rw [← hVn] at HA1 HB1 ⊢
    clear hVn
    refine hK.out _ _ (HB1.out) (fun hHeld => ?_)
    clear hK K
    try simp only [Act.put, List.setIfInBounds_toArray, List.set_cons_zero, List.set_cons_succ]
    refine wpAnyH_ready (rs := [4]) (by kernel_rfl) (by simp) ?_
    refine AllReadyH.cons (o := { dst := some 51, op := Op.call { callee := Callee.builtin Builtin.append, args := #[Operand.tmp 47, Operand.tmp 50], argTypes := #[24, 24] }, type := 24, pos := "law.go:147", after := #[{ on := 0, ground := Ground.data }, { on := 3, ground := Ground.data }], guard := none }) rfl (fun K hK => ?_) AllReadyH.nil
    clear hHeld
    rw [if_pos (by rfl)]
    obtain ⟨vR, V2, hrun, hr, hbb⟩ := cat_h V1 W4.heap.size _ [] HA1.out (slH ao kk (ln - kk) cap) (l.drop kk) ((HS.out.next HB1.out).row.tail HKL.out) (by have := HLN.out; have := HL.out; simp; omega) HB1.out.size
    refine wp_append_runM _ _ _ _ _ rfl rfl _ _ vR V2 rfl rfl hrun ?_
    have HR2 : HidL (GRow KH V2 W4.heap.size vR (l.drop kk)) := hideL hr
    have HB2 := hideL (HB1.out.trans hbb)
    clear hrun hr hbb
    refine hK.out _ _ (HB2.out) (fun hHeld => ?_)
    clear hK K
    try simp only [Act.put, List.setIfInBounds_toArray, List.set_cons_zero, List.set_cons_succ]
    refine wpAnyH_ready (rs := [8]) (by kernel_rfl) (by simp) ?_
    refine AllReadyH.cons (o := { dst := some 55, op := Op.call { callee := Callee.builtin Builtin.append, args := #[Operand.tmp 51, Operand.tmp 54], argTypes := #[24, 24] }, type := 24, pos := "law.go:147", after := #[{ on := 4, ground := Ground.data }, { on := 7, ground := Ground.data }, { on := 4, ground := Ground.chain }], guard := none }) rfl (fun K hK => ?_) AllReadyH.nil
    clear hHeld
    rw [if_pos (by rfl)]
    obtain ⟨vF, V3, hrun, hr, hbb⟩ := cat_h V2 W4.heap.size _ (l.drop kk) HR2.out (.slice ao kk cap) (l.take kk) ((HS.out.next HB2.out).row.front HKL.out) (by have := HLN.out; have := HL.out; simp; omega) HB2.out.size
    refine wp_append_runM _ _ _ _ _ rfl rfl _ _ vF V3 rfl rfl hrun ?_
    have HT3 : HidL (GRow KH V3 W4.heap.size vF (l.drop kk ++ l.take kk)) := hideL hr
    have HB3 := hideL (HB2.out.trans hbb)
    clear hrun hr hbb
    refine hK.out _ _ (HB3.out) (fun hHeld => ?_)
    clear hK K
    try simp only [Act.put, List.setIfInBounds_toArray, List.set_cons_zero, List.set_cons_succ]
    refine wpAnyH_take (i := 9) (oi := { dst := some 12, op := Op.assign (Operand.tmp 55), type := 24, pos := "law.go:147", after := #[{ on := 8, ground := Ground.data }, { on := 8, ground := Ground.chain }, { on := 0, ground := Ground.phase }, { on := 1, ground := Ground.phase }, { on := 2, ground := Ground.phase }, { on := 3, ground := Ground.phase }, { on := 4, ground := Ground.phase }, { on := 5, ground := Ground.phase }, { on := 6, ground := Ground.phase }, { on := 7, ground := Ground.phase }, { on := 8, ground := Ground.phase }], guard := none }) (v := ?_) rfl (by kernel_rfl) (by kernel_rfl) (by kernel_rfl) (fun _ _ _ h => h) (Or.inl ⟨by rfl, ?_⟩) hHeld ?_
    rotate_left
    · intro w hSw; (try dsimp only at hSw); go_simp; first | done | with_reducible rfl
    try simp only [Act.put, List.setIfInBounds_toArray, List.set_cons_zero, List.set_cons_succ]
    refine wpAnyH_done (by kernel_rfl) ?_ _
    clear hHeld
    go_wp2_with fail
    go_meet
    case rel => exact ⟨HT3.out, HB3.out⟩
  case rest =>
    obtain ⟨hrow, hbb⟩ := hcut
    obtain ⟨W5, rfl⟩ : ∃ W5, W5 = wc := ⟨_, rfl⟩
    obtain ⟨vF, rfl⟩ : ∃ vF, vF = u12 := ⟨_, rfl⟩
    have HT5 := hideL hrow
    have HB5 := hideL hbb
    have HS4 := HS
    have HP4 := HP
    clear hrow hbb hcut1 hcut2 HS HP HB0
    go_wp2_with (first
      | (go_at_call 28; first
        | (with_reducible refine (LT.out _ _ HT5.out.gAt (HS4.out.next HB5.out).env).mono ?_; rintro e w6 ⟨rfl, hB⟩; have hA := (Below.refl w6.heap.size w6).alloc (Nat.le_refl _) (.cells #[.int .i64 1, .int .i64 0, .int .i64 0] 48); have HB6 := hideL ((HB5.out.trans (hB.mono HB5.out.size)).trans (hA.mono (Nat.le_trans HB5.out.size hB.size))); have HT6 := hideL ((HT5.out.below hB).alloc (.cells #[.int .i64 1, .int .i64 0, .int .i64 0] 48)); clear hB hA; have p0 := (HP4.out.next HB6.out).c0; have p1 := (HP4.out.next HB6.out).c1; have p2 := (HP4.out.next HB6.out).c2; have c0 := (HS4.out.next HB6.out).bx.c0; have c1 := (HS4.out.next HB6.out).bx.c1; obtain ⟨v10, w10, hrun, hr, hb⟩ := copy_h (w6.alloc (.cells #[.int .i64 1, .int .i64 0, .int .i64 0] 48)) W4.heap.size HB6.out.size (.slice ao ln cap) l (HS4.out.next HB6.out).row (by have := HLN.out; have := HL.out; omega); rw [World.size_alloc] at hrun; have HRUN10 := hideL hrun; have HR10 := hideL hr; have HB10 := hideL (HB6.out.trans hb); clear hrun hr hb)
        | (with_reducible refine (LC.out _ _ HR12.out.gAt (HS4.out.next HB12.out).env).mono ?_; rintro e w13 ⟨rfl, hB⟩; have hA := (Below.refl w13.heap.size w13).alloc (Nat.le_refl _) (.cells #[.int .i64 0, .int .i64 0, .int .i64 0] 48); have HB13 := hideL ((HB12.out.trans (hB.mono HB12.out.size)).trans (hA.mono (Nat.le_trans HB12.out.size hB.size))); clear hB hA; obtain ⟨v14, w14, hrun, hr, hb⟩ := copy_h (w13.alloc (.cells #[.int .i64 0, .int .i64 0, .int .i64 0] 48)) W4.heap.size HB13.out.size (.slice ao ln cap) l (HS4.out.next HB13.out).row (by have := HLN.out; have := HL.out; omega); rw [World.size_alloc] at hrun; have HRUN14 := hideL hrun; have HR14 := hideL hr; have HB14 := hideL (HB13.out.trans hb); clear hrun hr hb)
        | (with_reducible refine (LD.out _ _ HR16.out.gAt (HS4.out.next HB16.out).env).mono ?_; rintro e w17 ⟨rfl, hB⟩; have hA := (Below.refl w17.heap.size w17).alloc (Nat.le_refl _) (.cells #[.int .i64 0, .int .i64 0, .int .i64 0] 48); have HB17 := hideL ((HB16.out.trans (hB.mono HB16.out.size)).trans (hA.mono (Nat.le_trans HB16.out.size hB.size))); clear hB hA))
      | (at_builtin; first
        | (refine wpList_append_runP rfl _ _ _ _ _ rfl rfl _ _ v10 w10 rfl rfl HRUN10.out ?_; clear HRUN10)
        | (refine wpList_append_runP rfl _ _ _ _ _ rfl rfl _ _ v12 w12 rfl rfl HRUN12.out ?_; clear HRUN12)
        | (refine wpList_append_runP rfl _ _ _ _ _ rfl rfl _ _ v14 w14 rfl rfl HRUN14.out ?_; clear HRUN14)
        | (refine wpList_append_runP rfl _ _ _ _ _ rfl rfl _ _ v16 w16 rfl rfl HRUN16.out ?_; clear HRUN16))
      | (go_at_call 31; first
        | (with_reducible refine (LH1.out _).mono ?_; rintro e w11 ⟨rfl, hB⟩; have HB11 := hideL (HB10.out.trans (hB.mono HB10.out.size)); have HR11 := hideL (HR10.out.below hB); clear hB; obtain ⟨v12, w12, hrun, hr, hb⟩ := push_h w11 W4.heap.size v10 l HR11.out ⟨⟨#[99, 111, 110, 116, 101, 110, 116, 45, 108, 101, 110, 103, 116, 104]⟩, value⟩ (by have h1 := HL.out; have h2 := HTL.out; omega) HB11.out.size; have HRUN12 := hideL hrun; have HR12 := hideL hr; have HB12 := hideL (HB11.out.trans hb); clear hrun hr hb)
        | (with_reducible refine (LH2.out _).mono ?_; rintro e w15 ⟨rfl, hB⟩; have HB15 := hideL (HB14.out.trans (hB.mono HB14.out.size)); have HR15 := hideL (HR14.out.below hB); clear hB; obtain ⟨v16, w16, hrun, hr, hb⟩ := push_h w15 W4.heap.size v14 l HR15.out ⟨⟨#[116, 114, 97, 110, 115, 102, 101, 114, 45, 101, 110, 99, 111, 100, 105, 110, 103]⟩, value⟩ (by have h1 := HL.out; have h2 := HTL.out; omega) HB15.out.size; have HRUN16 := hideL hrun; have HR16 := hideL hr; have HB16 := hideL (HB15.out.trans hb); clear hrun hr hb))
      | (go_at_call 10; with_reducible refine (LW.out _ (HS4.out.next HB17.out).env).mono ?_; rintro e wx ⟨rfl, hB⟩; have HBX := hideL (HB17.out.trans (hB.mono HB17.out.size)); clear hB))
    go_ret
    exact ⟨rfl, HS4.out.be.trans (HBX.out.mono HS4.out.be.size)⟩
set_option maxRecDepth 100000 in
set_option maxHeartbeats 8000000 in
theorem one_te_2 (v : Value) (l : List Hd) (at_ : Int) (other : Hd) (value : ByteArray) (w0 : World) (hv : GAt KH w0 v l) (hE : Env w0) (hl : longP l = false) (hh : longH other = false) (hs : value.size ≤ 500) (e0 z : Nat) (hr : framP l = (e0, ⟨0, 1, z⟩)) (h0 : 0 < l.length) (hc2 : other.n = teA) : Calls Tryd.prog 7 #[v, .int .i64 at_, hdV other, .string value] w0 (fun e w' => e = .returned (.bool true) ∧ Below w0.heap.size w0 w') := by
  have LW := hideL (fun W (hE : Env W) => awake_any W hE)
  have HS := hideL (SL.new other hv hE)
  have L1 := hideL (fun W hv => long_any v l W hv)
  have L2 := hideL (long_lit other)
  rw [hl] at L1
  rw [hh] at L2
  have hs' : ¬ (500 : Int) < (value.size : Int) := by omega
  have hfit := longP_fits hl
  have hll := (longP_no hl).1
  have hhs := longH_no hh
  obtain ⟨kk, hkk, hkl⟩ : ∃ kk : Nat, max 0 at_ % (l.length : Int) = (kk : Int) ∧ kk ≤ l.length := by
    have h1 := Int.emod_nonneg (max 0 at_) (show (l.length : Int) ≠ 0 by omega)
    have h2 := Int.emod_lt_of_pos (max 0 at_) (show (0 : Int) < (l.length : Int) by omega)
    exact ⟨(max 0 at_ % (l.length : Int)).toNat, by omega, by omega⟩
  have hTl : (l.drop kk ++ l.take kk).length ≤ 100 := by simp; omega
  have hTf : Fits (l.drop kk ++ l.take kk) := (hfit.sub fun x hx => List.mem_of_mem_drop hx).append (hfit.sub fun x hx => List.mem_of_mem_take hx)
  have hTr : framP (l.drop kk ++ l.take kk) = (e0, ⟨0, 1, z⟩) := (frm_turn l kk).trans hr
  have LF := hideL (fun W hv hE => frmN_any v l e0 0 1 z hr W hv hfit (by omega) hE)
  have LT := hideL (fun r W (hv : GAt KH W r (l.drop kk ++ l.take kk)) hE => frmN_any r (l.drop kk ++ l.take kk) e0 0 1 z hTr W hv hTf (by omega) hE)
  have n2 := eqs_true hc2
  rw [show teA.toList = [116, 114, 97, 110, 115, 102, 101, 114, 45, 101, 110, 99, 111, 100, 105, 110, 103] from by rw [ByteArray.toList_eq]; rfl] at n2
  have n1 := eqs_false (show other.n ≠ clA from fun e => cl_te (e.symm.trans hc2))
  rw [show clA.toList = [99, 111, 110, 116, 101, 110, 116, 45, 108, 101, 110, 103, 116, 104] from by rw [ByteArray.toList_eq]; rfl] at n1
  have hx0 : (⟨0, 1, z⟩ : Bd) ≠ bd0 := by intro e; injection e with e1 e2; revert e1 e2; decide
  have hcf : Fits (l ++ [⟨⟨#[99, 111, 110, 116, 101, 110, 116, 45, 108, 101, 110, 103, 116, 104]⟩, value⟩]) := hfit.append (Fits.one ⟨show (14 : Nat) ≤ 1000000 by decide, show value.size ≤ 1000000 by omega⟩)
  have htf : Fits (l ++ [⟨⟨#[116, 114, 97, 110, 115, 102, 101, 114, 45, 101, 110, 99, 111, 100, 105, 110, 103]⟩, value⟩]) := hfit.append (Fits.one ⟨show (17 : Nat) ≤ 1000000 by decide, show value.size ≤ 1000000 by omega⟩)
  have LC := hideL (fun r W (hv : GAt KH W r (l ++ [⟨⟨#[99, 111, 110, 116, 101, 110, 116, 45, 108, 101, 110, 103, 116, 104]⟩, value⟩])) hE => frmN_any r (l ++ [⟨⟨#[99, 111, 110, 116, 101, 110, 116, 45, 108, 101, 110, 103, 116, 104]⟩, value⟩]) 2 0 0 0 (frm_more hr hx0 _ (.inl rfl)) W hv hcf (by simp; omega) hE)
  have LD := hideL (fun r W (hv : GAt KH W r (l ++ [⟨⟨#[116, 114, 97, 110, 115, 102, 101, 114, 45, 101, 110, 99, 111, 100, 105, 110, 103]⟩, value⟩])) hE => frmN_any r (l ++ [⟨⟨#[116, 114, 97, 110, 115, 102, 101, 114, 45, 101, 110, 99, 111, 100, 105, 110, 103]⟩, value⟩]) 2 0 0 0 (frm_more hr hx0 _ (.inr rfl)) W hv htf (by simp; omega) hE)
  have LH1 := hideL (fun W => head_any ⟨#[99, 111, 110, 116, 101, 110, 116, 45, 108, 101, 110, 103, 116, 104]⟩ value W)
  have LH2 := hideL (fun W => head_any ⟨#[116, 114, 97, 110, 115, 102, 101, 114, 45, 101, 110, 99, 111, 100, 105, 110, 103]⟩ value W)
  have HL := hideL (show l.length ≤ 100 from hll)
  have HTL := hideL hTl
  obtain ⟨n, c⟩ := other
  obtain ⟨ao, cap, rfl⟩ := hv.len
  simp only [hdV] at *
  clear hv hE
  obtain ⟨ln, hln⟩ : ∃ x, l.length = x := ⟨_, rfl⟩
  have HLN := hideL hln
  rw [hln] at hll HS L1 LF h0 hkl hkk ⊢
  have h0' : (0 : Int) < (ln : Int) := by omega
  clear hl hh hs hfit hhs hr hln hTl hTf hTr hc2 hx0 hcf htf 
  go_enter Tryd.func7, Tryd.ntmps7
  go_upto_region 7 with (first
    | (go_at_call 9; first
      | (with_reducible refine (L1.out _ HS.out.row).mono ?_; rintro e w1 ⟨rfl, hB⟩; replace HS := hideL (HS.out.next hB); (try clear c0 c1); have c0 := HS.out.bx.c0; have c1 := HS.out.bx.c1; clear hB)
      | (with_reducible refine (L2.out _).mono ?_; rintro e w2 ⟨rfl, hB⟩; replace HS := hideL (HS.out.next hB); (try clear c0 c1); have c0 := HS.out.bx.c0; have c1 := HS.out.bx.c1; clear hB))
    | (go_at_call 28; with_reducible refine (LF.out _ HS.out.row HS.out.env).mono ?_; rintro e w3 ⟨rfl, hB⟩; have hA := (Below.refl w3.heap.size w3).alloc (Nat.le_refl _) (.cells #[.int .i64 0, .int .i64 1, .int .i64 (z : Nat)] 48); replace HS := hideL ((HS.out.next hB).next hA); have HP := hideL (BBox.new w3 0 1 z); clear hB hA))
  obtain ⟨W4, hW4⟩ : ∃ W4, W4 = w3.alloc (.cells #[.int .i64 0, .int .i64 1, .int .i64 (z : Nat)] 48) := ⟨_, rfl⟩
  obtain ⟨g3, hg3⟩ : ∃ g3, g3 = w3.heap.size := ⟨_, rfl⟩
  rw [← hW4, ← hg3] at HP
  rw [← hW4] at HS ⊢
  (try rw [← hg3])
  clear hW4 hg3 c0 c1
  rw [hkk]
  clear hkk
  have HB0 := hideL ((Below.refl W4.heap.size W4).drew)
  have hcut1 := run_cut_hl ao ln cap kk hkl
  have hcut2 := run_cut_hh ao ln cap kk (Nat.le_trans hkl HS.out.row.le.2)
  go_cut [12] (fun s12 W' => GRow KH W' W4.heap.size s12 (l.drop kk ++ l.take kk) ∧ Below W4.heap.size W4 W')
  case first =>
    have HKL := hideL hkl
    refine wp_region_held_drew (S := fun w' => Below W4.heap.size W4 w') (by kernel_rfl) ((Below.refl _ _).drew) (fun hHeld => ?_)
    generalize W4.drew = V0 at hHeld HB0 ⊢
    refine wpAnyH_take (i := 1) (oi := { dst := some 48, op := Op.move (Operand.tmp 0), type := 24, pos := "law.go:147", after := #[], guard := none }) (v := ?_) rfl (by kernel_rfl) (by kernel_rfl) (by kernel_rfl) (fun _ _ _ h => h) (Or.inl ⟨by rfl, ?_⟩) hHeld ?_
    rotate_left
    · intro w hSw; (try dsimp only at hSw); go_simp; first | done | with_reducible rfl
    try simp only [Act.put, List.setIfInBounds_toArray, List.set_cons_zero, List.set_cons_succ]
    refine wpAnyH_take (i := 2) (oi := { dst := some 49, op := Op.move (Operand.tmp 11), type := 3, pos := "law.go:147", after := #[], guard := none }) (v := ?_) rfl (by kernel_rfl) (by kernel_rfl) (by kernel_rfl) (fun _ _ _ h => h) (Or.inl ⟨by rfl, ?_⟩) hHeld ?_
    rotate_left
    · intro w hSw; (try dsimp only at hSw); go_simp; first | done | with_reducible rfl
    try simp only [Act.put, List.setIfInBounds_toArray, List.set_cons_zero, List.set_cons_succ]
    refine wpAnyH_take (i := 3) (oi := { dst := some 50, op := Op.slice 24 (Operand.tmp 48) (some (Operand.tmp 49)) none none, type := 24, pos := "law.go:147", after := #[{ on := 1, ground := Ground.data }, { on := 2, ground := Ground.data }], guard := none }) (v := ?_) rfl (by kernel_rfl) (by kernel_rfl) (by kernel_rfl) (fun _ _ _ h => h) (Or.inl ⟨by rfl, ?_⟩) hHeld ?_
    rotate_left
    · intro w hSw; (try dsimp only at hSw); go_simp; first | done | with_reducible rfl
    try simp only [Act.put, List.setIfInBounds_toArray, List.set_cons_zero, List.set_cons_succ]
    refine wpAnyH_take (i := 5) (oi := { dst := some 52, op := Op.move (Operand.tmp 0), type := 24, pos := "law.go:147", after := #[], guard := none }) (v := ?_) rfl (by kernel_rfl) (by kernel_rfl) (by kernel_rfl) (fun _ _ _ h => h) (Or.inl ⟨by rfl, ?_⟩) hHeld ?_
    rotate_left
    · intro w hSw; (try dsimp only at hSw); go_simp; first | done | with_reducible rfl
    try simp only [Act.put, List.setIfInBounds_toArray, List.set_cons_zero, List.set_cons_succ]
    refine wpAnyH_take (i := 6) (oi := { dst := some 53, op := Op.move (Operand.tmp 11), type := 3, pos := "law.go:147", after := #[], guard := none }) (v := ?_) rfl (by kernel_rfl) (by kernel_rfl) (by kernel_rfl) (fun _ _ _ h => h) (Or.inl ⟨by rfl, ?_⟩) hHeld ?_
    rotate_left
    · intro w hSw; (try dsimp only at hSw); go_simp; first | done | with_reducible rfl
    try simp only [Act.put, List.setIfInBounds_toArray, List.set_cons_zero, List.set_cons_succ]
    refine wpAnyH_take (i := 7) (oi := { dst := some 54, op := Op.slice 24 (Operand.tmp 52) none (some (Operand.tmp 53)) none, type := 24, pos := "law.go:147", after := #[{ on := 5, ground := Ground.data }, { on := 6, ground := Ground.data }], guard := none }) (v := ?_) rfl (by kernel_rfl) (by kernel_rfl) (by kernel_rfl) (fun _ _ _ h => h) (Or.inl ⟨by rfl, ?_⟩) hHeld ?_
    rotate_left
    · intro w hSw; (try dsimp only at hSw); go_simp; first | done | with_reducible rfl
    try simp only [Act.put, List.setIfInBounds_toArray, List.set_cons_zero, List.set_cons_succ]
    refine wpAnyH_ready (rs := [0]) (by kernel_rfl) (by simp) ?_
    refine AllReadyH.cons (o := { dst := some 47, op := Op.buildSlice 24 0 #[], type := 24, pos := "law.go:147", after := #[], guard := none }) rfl (fun K hK => ?_) AllReadyH.nil
    clear hHeld
    go_simp
    have HA1 : HidL (GRow KH (V0.alloc (.cells #[] 23)) W4.heap.size (.slice (some ⟨V0.heap.size, 0, none⟩) 0 0) []) := hideL (GRow.lit (K := KH) V0 W4.heap.size [] HB0.out.size (by simp))
    have HB1 := hideL (HB0.out.alloc HB0.out.size (.cells #[] 23))
    obtain ⟨gA, hgA⟩ : ∃ gA, gA = V0.heap.size := ⟨_, rfl⟩
    rw [← hgA] at HA1 ⊢
    clear hgA
    obtain ⟨V1, hVn⟩ : ∃ x, x = V0.alloc (.cells #[] 23) := ⟨_, rfl⟩
    rw [← hVn] at HA1 HB1 ⊢
    clear hVn
    refine hK.out _ _ (HB1.out) (fun hHeld => ?_)
    clear hK K
    try simp only [Act.put, List.setIfInBounds_toArray, List.set_cons_zero, List.set_cons_succ]
    refine wpAnyH_ready (rs := [4]) (by kernel_rfl) (by simp) ?_
    refine AllReadyH.cons (o := { dst := some 51, op := Op.call { callee := Callee.builtin Builtin.append, args := #[Operand.tmp 47, Operand.tmp 50], argTypes := #[24, 24] }, type := 24, pos := "law.go:147", after := #[{ on := 0, ground := Ground.data }, { on := 3, ground := Ground.data }], guard := none }) rfl (fun K hK => ?_) AllReadyH.nil
    clear hHeld
    rw [if_pos (by rfl)]
    obtain ⟨vR, V2, hrun, hr, hbb⟩ := cat_h V1 W4.heap.size _ [] HA1.out (slH ao kk (ln - kk) cap) (l.drop kk) ((HS.out.next HB1.out).row.tail HKL.out) (by have := HLN.out; have := HL.out; simp; omega) HB1.out.size
    refine wp_append_runM _ _ _ _ _ rfl rfl _ _ vR V2 rfl rfl hrun ?_
    have HR2 : HidL (GRow KH V2 W4.heap.size vR (l.drop kk)) := hideL hr
    have HB2 := hideL (HB1.out.trans hbb)
    clear hrun hr hbb
    refine hK.out _ _ (HB2.out) (fun hHeld => ?_)
    clear hK K
    try simp only [Act.put, List.setIfInBounds_toArray, List.set_cons_zero, List.set_cons_succ]
    refine wpAnyH_ready (rs := [8]) (by kernel_rfl) (by simp) ?_
    refine AllReadyH.cons (o := { dst := some 55, op := Op.call { callee := Callee.builtin Builtin.append, args := #[Operand.tmp 51, Operand.tmp 54], argTypes := #[24, 24] }, type := 24, pos := "law.go:147", after := #[{ on := 4, ground := Ground.data }, { on := 7, ground := Ground.data }, { on := 4, ground := Ground.chain }], guard := none }) rfl (fun K hK => ?_) AllReadyH.nil
    clear hHeld
    rw [if_pos (by rfl)]
    obtain ⟨vF, V3, hrun, hr, hbb⟩ := cat_h V2 W4.heap.size _ (l.drop kk) HR2.out (.slice ao kk cap) (l.take kk) ((HS.out.next HB2.out).row.front HKL.out) (by have := HLN.out; have := HL.out; simp; omega) HB2.out.size
    refine wp_append_runM _ _ _ _ _ rfl rfl _ _ vF V3 rfl rfl hrun ?_
    have HT3 : HidL (GRow KH V3 W4.heap.size vF (l.drop kk ++ l.take kk)) := hideL hr
    have HB3 := hideL (HB2.out.trans hbb)
    clear hrun hr hbb
    refine hK.out _ _ (HB3.out) (fun hHeld => ?_)
    clear hK K
    try simp only [Act.put, List.setIfInBounds_toArray, List.set_cons_zero, List.set_cons_succ]
    refine wpAnyH_take (i := 9) (oi := { dst := some 12, op := Op.assign (Operand.tmp 55), type := 24, pos := "law.go:147", after := #[{ on := 8, ground := Ground.data }, { on := 8, ground := Ground.chain }, { on := 0, ground := Ground.phase }, { on := 1, ground := Ground.phase }, { on := 2, ground := Ground.phase }, { on := 3, ground := Ground.phase }, { on := 4, ground := Ground.phase }, { on := 5, ground := Ground.phase }, { on := 6, ground := Ground.phase }, { on := 7, ground := Ground.phase }, { on := 8, ground := Ground.phase }], guard := none }) (v := ?_) rfl (by kernel_rfl) (by kernel_rfl) (by kernel_rfl) (fun _ _ _ h => h) (Or.inl ⟨by rfl, ?_⟩) hHeld ?_
    rotate_left
    · intro w hSw; (try dsimp only at hSw); go_simp; first | done | with_reducible rfl
    try simp only [Act.put, List.setIfInBounds_toArray, List.set_cons_zero, List.set_cons_succ]
    refine wpAnyH_done (by kernel_rfl) ?_ _
    clear hHeld
    go_wp2_with fail
    go_meet
    case rel => exact ⟨HT3.out, HB3.out⟩
  case rest =>
    obtain ⟨hrow, hbb⟩ := hcut
    obtain ⟨W5, rfl⟩ : ∃ W5, W5 = wc := ⟨_, rfl⟩
    obtain ⟨vF, rfl⟩ : ∃ vF, vF = u12 := ⟨_, rfl⟩
    have HT5 := hideL hrow
    have HB5 := hideL hbb
    have HS4 := HS
    have HP4 := HP
    clear hrow hbb hcut1 hcut2 HS HP HB0
    go_wp2_with (first
      | (go_at_call 28; first
        | (with_reducible refine (LT.out _ _ HT5.out.gAt (HS4.out.next HB5.out).env).mono ?_; rintro e w6 ⟨rfl, hB⟩; have hA := (Below.refl w6.heap.size w6).alloc (Nat.le_refl _) (.cells #[.int .i64 0, .int .i64 1, .int .i64 (z : Nat)] 48); have HB6 := hideL ((HB5.out.trans (hB.mono HB5.out.size)).trans (hA.mono (Nat.le_trans HB5.out.size hB.size))); have HT6 := hideL ((HT5.out.below hB).alloc (.cells #[.int .i64 0, .int .i64 1, .int .i64 (z : Nat)] 48)); clear hB hA; have p0 := (HP4.out.next HB6.out).c0; have p1 := (HP4.out.next HB6.out).c1; have p2 := (HP4.out.next HB6.out).c2; have c0 := (HS4.out.next HB6.out).bx.c0; have c1 := (HS4.out.next HB6.out).bx.c1; obtain ⟨v10, w10, hrun, hr, hb⟩ := copy_h (w6.alloc (.cells #[.int .i64 0, .int .i64 1, .int .i64 (z : Nat)] 48)) W4.heap.size HB6.out.size (.slice ao ln cap) l (HS4.out.next HB6.out).row (by have := HLN.out; have := HL.out; omega); rw [World.size_alloc] at hrun; have HRUN10 := hideL hrun; have HR10 := hideL hr; have HB10 := hideL (HB6.out.trans hb); clear hrun hr hb)
        | (with_reducible refine (LC.out _ _ HR12.out.gAt (HS4.out.next HB12.out).env).mono ?_; rintro e w13 ⟨rfl, hB⟩; have hA := (Below.refl w13.heap.size w13).alloc (Nat.le_refl _) (.cells #[.int .i64 0, .int .i64 0, .int .i64 0] 48); have HB13 := hideL ((HB12.out.trans (hB.mono HB12.out.size)).trans (hA.mono (Nat.le_trans HB12.out.size hB.size))); clear hB hA; obtain ⟨v14, w14, hrun, hr, hb⟩ := copy_h (w13.alloc (.cells #[.int .i64 0, .int .i64 0, .int .i64 0] 48)) W4.heap.size HB13.out.size (.slice ao ln cap) l (HS4.out.next HB13.out).row (by have := HLN.out; have := HL.out; omega); rw [World.size_alloc] at hrun; have HRUN14 := hideL hrun; have HR14 := hideL hr; have HB14 := hideL (HB13.out.trans hb); clear hrun hr hb)
        | (with_reducible refine (LD.out _ _ HR16.out.gAt (HS4.out.next HB16.out).env).mono ?_; rintro e w17 ⟨rfl, hB⟩; have hA := (Below.refl w17.heap.size w17).alloc (Nat.le_refl _) (.cells #[.int .i64 0, .int .i64 0, .int .i64 0] 48); have HB17 := hideL ((HB16.out.trans (hB.mono HB16.out.size)).trans (hA.mono (Nat.le_trans HB16.out.size hB.size))); clear hB hA))
      | (at_builtin; first
        | (refine wpList_append_runP rfl _ _ _ _ _ rfl rfl _ _ v10 w10 rfl rfl HRUN10.out ?_; clear HRUN10)
        | (refine wpList_append_runP rfl _ _ _ _ _ rfl rfl _ _ v12 w12 rfl rfl HRUN12.out ?_; clear HRUN12)
        | (refine wpList_append_runP rfl _ _ _ _ _ rfl rfl _ _ v14 w14 rfl rfl HRUN14.out ?_; clear HRUN14)
        | (refine wpList_append_runP rfl _ _ _ _ _ rfl rfl _ _ v16 w16 rfl rfl HRUN16.out ?_; clear HRUN16))
      | (go_at_call 31; first
        | (with_reducible refine (LH1.out _).mono ?_; rintro e w11 ⟨rfl, hB⟩; have HB11 := hideL (HB10.out.trans (hB.mono HB10.out.size)); have HR11 := hideL (HR10.out.below hB); clear hB; obtain ⟨v12, w12, hrun, hr, hb⟩ := push_h w11 W4.heap.size v10 l HR11.out ⟨⟨#[99, 111, 110, 116, 101, 110, 116, 45, 108, 101, 110, 103, 116, 104]⟩, value⟩ (by have h1 := HL.out; have h2 := HTL.out; omega) HB11.out.size; have HRUN12 := hideL hrun; have HR12 := hideL hr; have HB12 := hideL (HB11.out.trans hb); clear hrun hr hb)
        | (with_reducible refine (LH2.out _).mono ?_; rintro e w15 ⟨rfl, hB⟩; have HB15 := hideL (HB14.out.trans (hB.mono HB14.out.size)); have HR15 := hideL (HR14.out.below hB); clear hB; obtain ⟨v16, w16, hrun, hr, hb⟩ := push_h w15 W4.heap.size v14 l HR15.out ⟨⟨#[116, 114, 97, 110, 115, 102, 101, 114, 45, 101, 110, 99, 111, 100, 105, 110, 103]⟩, value⟩ (by have h1 := HL.out; have h2 := HTL.out; omega) HB15.out.size; have HRUN16 := hideL hrun; have HR16 := hideL hr; have HB16 := hideL (HB15.out.trans hb); clear hrun hr hb))
      | (go_at_call 10; with_reducible refine (LW.out _ (HS4.out.next HB17.out).env).mono ?_; rintro e wx ⟨rfl, hB⟩; have HBX := hideL (HB17.out.trans (hB.mono HB17.out.size)); clear hB))
    go_ret
    exact ⟨rfl, HS4.out.be.trans (HBX.out.mono HS4.out.be.size)⟩
end Go.Proofs.YtilefgmlnmpeoaaDoor
