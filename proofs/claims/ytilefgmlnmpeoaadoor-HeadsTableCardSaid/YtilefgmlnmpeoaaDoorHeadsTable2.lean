/- The law HeadsTable (P9.3, P9.5): a header that may not be. -/
import Derived.Test.YtilefgmlnmpeoaaDoorHeadsTable0
import Derived.StillTailTactics
import Derived.Deep.RegionWith
import Derived.Deep.RegionHeld3
import Derived.Deep.CutBlock
import Derived.Deep.DeepCutAuto
namespace Go.Proofs.YtilefgmlnmpeoaaDoor
open Go.RowKit Go.Lib

set_option maxRecDepth 100000 in
set_option maxHeartbeats 8000000 in
theorem table_arg_none (v : Value) (l : List Hd) (h : Hd) (name : ByteArray) (w0 : World) (hv : GAt KH w0 v l) (hE : Env w0) (hl : longP l = false) (hh : longH h = false) (hs : name.size ≤ 1000) (he : addE l h = 1) (ha : allP name l = []) : Calls Tryd.prog 4 #[v, hdV h, .string name] w0 (fun e w' => e = .returned (.bool true) ∧ Below w0.heap.size w0 w') := by
  have LW := hideL (fun W (hE : Env W) => awake_any W hE)
  have HS := hideL (SL.new h hv hE)
  have L1 := hideL (fun W hv => long_any v l W hv)
  have L2 := hideL (long_lit h)
  rw [hl] at L1
  rw [hh] at L2
  have hs' : ¬ (1000 : Int) < (name.size : Int) := by omega
  have hfit := longP_fits hl
  have hll := (longP_no hl).1
  have hhs := longH_no hh
  have hgd : goodP h = false ∧ True := by
    unfold addE at he
    cases hq : goodP h
    · rw [hq, if_pos rfl] at he
      exact ⟨rfl, trivial⟩
    · rw [hq, if_neg (by decide)] at he
      split at he <;> exact absurd he (by decide)
  have hX : addL l h = [] := by unfold addL; rw [he]; rfl
  have hXl : (addL l h).length = 0 := by rw [hX]; simp
  have LADD := hideL (fun W hv => addN_any v l h _ 1 hXl he W hv hfit (by omega) (by omega))
  have LGD := hideL (good_any h (by omega))
  rw [hgd.1] at LGD
  rw [hX] at LADD
  obtain ⟨na, hna⟩ : ∃ x, (allP name l).length = x := ⟨_, rfl⟩
  have hnal : na ≤ 1000 := by have := allP_len name l; omega
  obtain ⟨nd, hnd⟩ : ∃ x, (delP name l).length = x := ⟨_, rfl⟩
  have hdl := delP_len name l
  rw [hnd] at hdl
  have LD := hideL (fun W hv => delN_any name v l nd hnd W hv hfit (by omega))
  have LA := hideL (fun W hv => allN_any name v l na hna W hv hfit (by omega))
  have LR := hideL (fun W hv => allRN_any name v l na hna W hv (by omega))
  have LG := hideL (fun W hv => get_any name v l W hv hfit (by omega))
  have LT := hideL (fun va vb W ha hb => textsSame_any va vb (allP name l) W ha hb (by omega))
  have LSD := hideL (fun va vb W ha hb => sameSame_any va vb (delP name l) W ha hb (by omega))
  have LSL := hideL (fun va vb W ha hb => sameSame_any va vb l W ha hb (by omega))
  unfold getV at LG
  rw [ha] at LG
  simp only at LG
  have hn0 : na = 0 := by rw [← hna, ha]; rfl
  subst hn0
  obtain ⟨n, c⟩ := h
  obtain ⟨ao, cap, rfl⟩ := hv.len
  simp only [hdV] at *
  have HL := hideL hll
  obtain ⟨ln, hln⟩ : ∃ x, l.length = x := ⟨_, rfl⟩
  have HLN := hideL hln
  rw [hln] at HS L1 LADD LD LA LR LG hll ⊢
  clear hv hE hl hh hs he ha hX hXl hna hnd hdl hfit hhs hgd hln
  go_enter Tryd.func4, Tryd.ntmps4
  go_upto_region 14 with (first
    | (go_at_call 9; first
      | (with_reducible refine (L1.out _ HS.out.row).mono ?_; rintro e w1 ⟨rfl, hB⟩; replace HS := hideL (HS.out.next hB); (try clear c0 c1); have c0 := HS.out.bx.c0; have c1 := HS.out.bx.c1; (try replace HCL := hideL ((hB.cell (p := ⟨b, q, none⟩) HBL.out).trans HCL.out)); (try replace HBL := hideL (Nat.lt_of_lt_of_le HBL.out hB.size)); (try replace HWS := hideL (HWS.out.below hB)); (try replace HA := hideL (HA.out.below hB)); (try replace HX := hideL (HX.out.below hB)); clear hB)
      | (with_reducible refine (L2.out _).mono ?_; rintro e w2 ⟨rfl, hB⟩; replace HS := hideL (HS.out.next hB); (try clear c0 c1); have c0 := HS.out.bx.c0; have c1 := HS.out.bx.c1; (try replace HCL := hideL ((hB.cell (p := ⟨b, q, none⟩) HBL.out).trans HCL.out)); (try replace HBL := hideL (Nat.lt_of_lt_of_le HBL.out hB.size)); (try replace HWS := hideL (HWS.out.below hB)); (try replace HA := hideL (HA.out.below hB)); (try replace HX := hideL (HX.out.below hB)); clear hB; obtain ⟨v3, w3, hrun, hr, hb⟩ := copy_h w2 w2.heap.size (Nat.le_refl _) (.slice ao ln cap) l HS.out.row (by have := HL.out; have := HLN.out; omega); have HRUN3 := hideL hrun; replace HS := hideL (HS.out.next hb); have HWS := hideL hr.gAt; obtain ⟨wo, wc, hv3⟩ := HWS.out.len; rw [HLN.out] at hv3; subst hv3; (try clear c0 c1); have c0 := HS.out.bx.c0; have c1 := HS.out.bx.c1; clear hrun hr hb))
    | (at_builtin; refine wpList_append_runP rfl _ _ _ _ _ rfl rfl _ _ _ _ rfl rfl HRUN3.out ?_; clear HRUN3)
    | (go_at_call 21; with_reducible refine (LR.out _ HS.out.row).mono ?_; rintro e w4 ⟨ro, rc, rfl, hA, hB⟩; replace HS := hideL (HS.out.next hB); (try clear c0 c1); have c0 := HS.out.bx.c0; have c1 := HS.out.bx.c1; (try replace HCL := hideL ((hB.cell (p := ⟨b, q, none⟩) HBL.out).trans HCL.out)); (try replace HBL := hideL (Nat.lt_of_lt_of_le HBL.out hB.size)); (try replace HWS := hideL (HWS.out.below hB)); (try replace HA := hideL (HA.out.below hB)); (try replace HX := hideL (HX.out.below hB)); have HA := hideL hA; clear hA; clear hB)
    | (go_at_call 22; with_reducible refine (LG.out _ HS.out.row).mono ?_; rintro e w5 ⟨rfl, hB⟩; replace HS := hideL (HS.out.next hB); (try clear c0 c1); have c0 := HS.out.bx.c0; have c1 := HS.out.bx.c1; (try replace HCL := hideL ((hB.cell (p := ⟨b, q, none⟩) HBL.out).trans HCL.out)); (try replace HBL := hideL (Nat.lt_of_lt_of_le HBL.out hB.size)); (try replace HWS := hideL (HWS.out.below hB)); (try replace HA := hideL (HA.out.below hB)); (try replace HX := hideL (HX.out.below hB)); clear hB)
    | (go_at_call 24; with_reducible refine (LA.out _ HS.out.row).mono ?_; rintro e w6 ⟨yo, yc, rfl, hY, hB⟩; replace HS := hideL (HS.out.next hB); (try clear c0 c1); have c0 := HS.out.bx.c0; have c1 := HS.out.bx.c1; (try replace HCL := hideL ((hB.cell (p := ⟨b, q, none⟩) HBL.out).trans HCL.out)); (try replace HBL := hideL (Nat.lt_of_lt_of_le HBL.out hB.size)); (try replace HWS := hideL (HWS.out.below hB)); (try replace HA := hideL (HA.out.below hB)); (try replace HX := hideL (HX.out.below hB)); have HY := hideL hY; clear hY; clear hB)
    | (go_at_call 23; with_reducible refine (LT.out _ _ _ HY.out HA.out).mono ?_; rintro e w7 ⟨rfl, hB⟩; replace HS := hideL (HS.out.next hB); (try clear c0 c1); have c0 := HS.out.bx.c0; have c1 := HS.out.bx.c1; (try replace HCL := hideL ((hB.cell (p := ⟨b, q, none⟩) HBL.out).trans HCL.out)); (try replace HBL := hideL (Nat.lt_of_lt_of_le HBL.out hB.size)); (try replace HWS := hideL (HWS.out.below hB)); (try replace HA := hideL (HA.out.below hB)); (try replace HX := hideL (HX.out.below hB)); clear hB)
    | (go_at_call 25; with_reducible refine (LADD.out _ HS.out.row).mono ?_; rintro e w8 ⟨xo, xc, rfl, hX, hB⟩; replace HS := hideL (HS.out.next hB); (try clear c0 c1); have c0 := HS.out.bx.c0; have c1 := HS.out.bx.c1; (try replace HCL := hideL ((hB.cell (p := ⟨b, q, none⟩) HBL.out).trans HCL.out)); (try replace HBL := hideL (Nat.lt_of_lt_of_le HBL.out hB.size)); (try replace HWS := hideL (HWS.out.below hB)); (try replace HA := hideL (HA.out.below hB)); (try replace HX := hideL (HX.out.below hB)); have HX := hideL hX; (try clear ca); clear hX; clear hB)
    | (go_at_call 18; with_reducible refine (LGD.out _).mono ?_; rintro e w9 ⟨rfl, hB⟩; replace HS := hideL (HS.out.next hB); (try clear c0 c1); have c0 := HS.out.bx.c0; have c1 := HS.out.bx.c1; (try replace HCL := hideL ((hB.cell (p := ⟨b, q, none⟩) HBL.out).trans HCL.out)); (try replace HBL := hideL (Nat.lt_of_lt_of_le HBL.out hB.size)); (try replace HWS := hideL (HWS.out.below hB)); (try replace HA := hideL (HA.out.below hB)); (try replace HX := hideL (HX.out.below hB)); clear hB))
  obtain ⟨W, rfl⟩ : ∃ W, W = w9 := ⟨_, rfl⟩
  (try clear ca)
  clear c0 c1
  go_cut [110] (fun s110 W' => s110 = .bool false ∧ Below W.heap.size W W')
  case first =>
    refine wp_region_held_drew (S := fun w' => Below W.heap.size W w') (by kernel_rfl) ((Below.refl _ _).drew) (fun hHeld => ?_)
    refine wpAnyH_take (i := 0) (oi := { dst := some 84, op := Op.move (Operand.tmp 12), type := 29, pos := "law.go:71", after := #[], guard := none }) (v := ?_) rfl (by kernel_rfl) (by kernel_rfl) (by kernel_rfl) (fun _ _ _ h => h) (Or.inl ⟨by rfl, ?_⟩) hHeld ?_
    rotate_left
    · intro w hSw; (try dsimp only at hSw); go_simp; first | done | with_reducible rfl
    try simp only [Act.put, List.setIfInBounds_toArray, List.set_cons_zero, List.set_cons_succ]
    refine wpAnyH_take (i := 1) (oi := { dst := some 85, op := Op.move (Operand.tmp 13), type := 29, pos := "law.go:71", after := #[], guard := none }) (v := ?_) rfl (by kernel_rfl) (by kernel_rfl) (by kernel_rfl) (fun _ _ _ h => h) (Or.inl ⟨by rfl, ?_⟩) hHeld ?_
    rotate_left
    · intro w hSw; (try dsimp only at hSw); go_simp; first | done | with_reducible rfl
    try simp only [Act.put, List.setIfInBounds_toArray, List.set_cons_zero, List.set_cons_succ]
    refine wpAnyH_take (i := 2) (oi := { dst := some 86, op := Op.binOp BinOp.neq 29 (Operand.tmp 84) (Operand.tmp 85) 29, type := 4, pos := "law.go:71", after := #[{ on := 0, ground := Ground.data }, { on := 1, ground := Ground.data }], guard := none }) (v := ?_) rfl (by kernel_rfl) (by kernel_rfl) (by kernel_rfl) (fun _ _ _ h => h) (Or.inl ⟨by rfl, ?_⟩) hHeld ?_
    rotate_left
    · intro w hSw; (try dsimp only at hSw); go_simp; first | done | with_reducible rfl
    try simp only [Act.put, List.setIfInBounds_toArray, List.set_cons_zero, List.set_cons_succ]
    refine wpAnyH_take (i := 3) (oi := { dst := some 87, op := Op.move (Operand.tmp 86), type := 4, pos := "law.go:71", after := #[{ on := 2, ground := Ground.data }], guard := none }) (v := ?_) rfl (by kernel_rfl) (by kernel_rfl) (by kernel_rfl) (fun _ _ _ h => h) (Or.inl ⟨by rfl, ?_⟩) hHeld ?_
    rotate_left
    · intro w hSw; (try dsimp only at hSw); go_simp; first | done | with_reducible rfl
    try simp only [Act.put, List.setIfInBounds_toArray, List.set_cons_zero, List.set_cons_succ]
    refine wpAnyH_take (i := 4) (oi := { dst := some 88, op := Op.move (Operand.tmp 12), type := 29, pos := "law.go:71", after := #[{ on := 3, ground := Ground.guard }], guard := some (3, false) }) (v := ?_) rfl (by kernel_rfl) (by kernel_rfl) (by kernel_rfl) (fun _ _ _ h => h) (Or.inl ⟨by rfl, ?_⟩) hHeld ?_
    rotate_left
    · intro w hSw; (try dsimp only at hSw); go_simp; first | done | with_reducible rfl
    try simp only [Act.put, List.setIfInBounds_toArray, List.set_cons_zero, List.set_cons_succ]
    refine wpAnyH_take (i := 5) (oi := { dst := some 89, op := Op.binOp BinOp.eql 29 (Operand.tmp 88) (Operand.const (Value.int IntKind.i64 0)) 29, type := 4, pos := "law.go:71", after := #[{ on := 4, ground := Ground.data }, { on := 3, ground := Ground.guard }], guard := some (3, false) }) (v := ?_) rfl (by kernel_rfl) (by kernel_rfl) (by kernel_rfl) (fun _ _ _ h => h) (Or.inl ⟨by rfl, ?_⟩) hHeld ?_
    rotate_left
    · intro w hSw; (try dsimp only at hSw); go_simp; first | done | with_reducible rfl
    try simp only [Act.put, List.setIfInBounds_toArray, List.set_cons_zero, List.set_cons_succ]
    refine wpAnyH_take (i := 6) (oi := { dst := some 90, op := Op.move (Operand.tmp 89), type := 4, pos := "law.go:71", after := #[{ on := 5, ground := Ground.data }, { on := 3, ground := Ground.chain }, { on := 3, ground := Ground.guard }], guard := some (3, false) }) (v := ?_) rfl (by kernel_rfl) (by kernel_rfl) (by kernel_rfl) (fun _ _ _ h => h) (Or.inl ⟨by rfl, ?_⟩) hHeld ?_
    rotate_left
    · intro w hSw; (try dsimp only at hSw); go_simp; first | done | with_reducible rfl
    try simp only [Act.put, List.setIfInBounds_toArray, List.set_cons_zero, List.set_cons_succ]
    refine wpAnyH_take (i := 7) (oi := { dst := some 91, op := Op.move (Operand.tmp 11), type := 24, pos := "law.go:71", after := #[{ on := 6, ground := Ground.guard }], guard := some (6, true) }) (v := undef) rfl (by kernel_rfl) (by kernel_rfl) (by kernel_rfl) (fun _ _ _ h => h) (Or.inr ⟨by rfl, rfl⟩) hHeld ?_
    try simp only [Act.put, List.setIfInBounds_toArray, List.set_cons_zero, List.set_cons_succ]
    refine wpAnyH_take (i := 8) (oi := { dst := some 92, op := Op.buildSlice 24 0 #[], type := 24, pos := "law.go:71", after := #[{ on := 6, ground := Ground.guard }], guard := some (6, true) }) (v := undef) rfl (by kernel_rfl) (by kernel_rfl) (by kernel_rfl) (fun _ _ _ h => h) (Or.inr ⟨by rfl, rfl⟩) hHeld ?_
    try simp only [Act.put, List.setIfInBounds_toArray, List.set_cons_zero, List.set_cons_succ]
    refine wpAnyH_take (i := 9) (oi := { dst := some 93, op := Op.move (Operand.tmp 7), type := 24, pos := "law.go:71", after := #[{ on := 6, ground := Ground.guard }], guard := some (6, true) }) (v := undef) rfl (by kernel_rfl) (by kernel_rfl) (by kernel_rfl) (fun _ _ _ h => h) (Or.inr ⟨by rfl, rfl⟩) hHeld ?_
    try simp only [Act.put, List.setIfInBounds_toArray, List.set_cons_zero, List.set_cons_succ]
    refine wpAnyH_take (i := 10) (oi := { dst := some 94, op := Op.call { callee := Callee.builtin Builtin.append, args := #[Operand.tmp 92, Operand.tmp 93], argTypes := #[24, 24] }, type := 24, pos := "law.go:71", after := #[{ on := 8, ground := Ground.data }, { on := 9, ground := Ground.data }, { on := 6, ground := Ground.chain }, { on := 6, ground := Ground.guard }], guard := some (6, true) }) (v := undef) rfl (by kernel_rfl) (by kernel_rfl) (by kernel_rfl) (fun _ _ _ h => h) (Or.inr ⟨by rfl, rfl⟩) hHeld ?_
    try simp only [Act.put, List.setIfInBounds_toArray, List.set_cons_zero, List.set_cons_succ]
    refine wpAnyH_take (i := 11) (oi := { dst := some 95, op := Op.load 23 (Operand.tmp 4), type := 23, pos := "law.go:71", after := #[{ on := 6, ground := Ground.guard }], guard := some (6, true) }) (v := undef) rfl (by kernel_rfl) (by kernel_rfl) (by kernel_rfl) (fun _ _ _ h => h) (Or.inr ⟨by rfl, rfl⟩) hHeld ?_
    try simp only [Act.put, List.setIfInBounds_toArray, List.set_cons_zero, List.set_cons_succ]
    refine wpAnyH_take (i := 12) (oi := { dst := some 96, op := Op.buildSlice 24 1 #[(0, Operand.tmp 95)], type := 24, pos := "law.go:71", after := #[{ on := 11, ground := Ground.data }, { on := 6, ground := Ground.guard }], guard := some (6, true) }) (v := undef) rfl (by kernel_rfl) (by kernel_rfl) (by kernel_rfl) (fun _ _ _ h => h) (Or.inr ⟨by rfl, rfl⟩) hHeld ?_
    try simp only [Act.put, List.setIfInBounds_toArray, List.set_cons_zero, List.set_cons_succ]
    refine wpAnyH_take (i := 13) (oi := { dst := some 97, op := Op.call { callee := Callee.builtin Builtin.append, args := #[Operand.tmp 94, Operand.tmp 96], argTypes := #[24, 24] }, type := 24, pos := "law.go:71", after := #[{ on := 10, ground := Ground.data }, { on := 12, ground := Ground.data }, { on := 10, ground := Ground.chain }, { on := 6, ground := Ground.guard }], guard := some (6, true) }) (v := undef) rfl (by kernel_rfl) (by kernel_rfl) (by kernel_rfl) (fun _ _ _ h => h) (Or.inr ⟨by rfl, rfl⟩) hHeld ?_
    try simp only [Act.put, List.setIfInBounds_toArray, List.set_cons_zero, List.set_cons_succ]
    refine wpAnyH_take (i := 14) (oi := { dst := some 98, op := Op.call { callee := Callee.value (Operand.func 26), args := #[Operand.tmp 91, Operand.tmp 97], argTypes := #[24, 24] }, type := 4, pos := "law.go:71", after := #[{ on := 7, ground := Ground.data }, { on := 13, ground := Ground.data }, { on := 13, ground := Ground.chain }, { on := 6, ground := Ground.guard }], guard := some (6, true) }) (v := undef) rfl (by kernel_rfl) (by kernel_rfl) (by kernel_rfl) (fun _ _ _ h => h) (Or.inr ⟨by rfl, rfl⟩) hHeld ?_
    try simp only [Act.put, List.setIfInBounds_toArray, List.set_cons_zero, List.set_cons_succ]
    refine wpAnyH_take (i := 15) (oi := { dst := some 99, op := Op.unOp UnOp.not 4 (Operand.tmp 98), type := 4, pos := "law.go:71", after := #[{ on := 14, ground := Ground.data }, { on := 6, ground := Ground.guard }], guard := some (6, true) }) (v := undef) rfl (by kernel_rfl) (by kernel_rfl) (by kernel_rfl) (fun _ _ _ h => h) (Or.inr ⟨by rfl, rfl⟩) hHeld ?_
    try simp only [Act.put, List.setIfInBounds_toArray, List.set_cons_zero, List.set_cons_succ]
    refine wpAnyH_take (i := 16) (oi := { dst := some 100, op := Op.pick (Operand.tmp 90) (Operand.tmp 99) (Operand.const (Value.bool false)), type := 4, pos := "law.go:71", after := #[{ on := 6, ground := Ground.data }, { on := 15, ground := Ground.data }, { on := 3, ground := Ground.guard }], guard := some (3, false) }) (v := ?_) rfl (by kernel_rfl) (by kernel_rfl) (by kernel_rfl) (fun _ _ _ h => h) (Or.inl ⟨by rfl, ?_⟩) hHeld ?_
    rotate_left
    · intro w hSw; (try dsimp only at hSw); go_simp; first | done | with_reducible rfl
    try simp only [Act.put, List.setIfInBounds_toArray, List.set_cons_zero, List.set_cons_succ]
    refine wpAnyH_take (i := 17) (oi := { dst := some 101, op := Op.pick (Operand.tmp 87) (Operand.const (Value.bool true)) (Operand.tmp 100), type := 4, pos := "law.go:71", after := #[{ on := 3, ground := Ground.data }, { on := 16, ground := Ground.data }], guard := none }) (v := ?_) rfl (by kernel_rfl) (by kernel_rfl) (by kernel_rfl) (fun _ _ _ h => h) (Or.inl ⟨by rfl, ?_⟩) hHeld ?_
    rotate_left
    · intro w hSw; (try dsimp only at hSw); go_simp; first | done | with_reducible rfl
    try simp only [Act.put, List.setIfInBounds_toArray, List.set_cons_zero, List.set_cons_succ]
    refine wpAnyH_take (i := 18) (oi := { dst := some 102, op := Op.move (Operand.tmp 101), type := 4, pos := "law.go:71", after := #[{ on := 17, ground := Ground.data }, { on := 14, ground := Ground.chain }], guard := none }) (v := ?_) rfl (by kernel_rfl) (by kernel_rfl) (by kernel_rfl) (fun _ _ _ h => h) (Or.inl ⟨by rfl, ?_⟩) hHeld ?_
    rotate_left
    · intro w hSw; (try dsimp only at hSw); go_simp; first | done | with_reducible rfl
    try simp only [Act.put, List.setIfInBounds_toArray, List.set_cons_zero, List.set_cons_succ]
    refine wpAnyH_take (i := 19) (oi := { dst := some 103, op := Op.move (Operand.tmp 12), type := 29, pos := "law.go:71", after := #[{ on := 18, ground := Ground.guard }], guard := some (18, false) }) (v := ?_) rfl (by kernel_rfl) (by kernel_rfl) (by kernel_rfl) (fun _ _ _ h => h) (Or.inl ⟨by rfl, ?_⟩) hHeld ?_
    rotate_left
    · intro w hSw; (try dsimp only at hSw); go_simp; first | done | with_reducible rfl
    try simp only [Act.put, List.setIfInBounds_toArray, List.set_cons_zero, List.set_cons_succ]
    refine wpAnyH_take (i := 20) (oi := { dst := some 104, op := Op.binOp BinOp.neq 29 (Operand.tmp 103) (Operand.const (Value.int IntKind.i64 0)) 29, type := 4, pos := "law.go:71", after := #[{ on := 19, ground := Ground.data }, { on := 18, ground := Ground.guard }], guard := some (18, false) }) (v := ?_) rfl (by kernel_rfl) (by kernel_rfl) (by kernel_rfl) (fun _ _ _ h => h) (Or.inl ⟨by rfl, ?_⟩) hHeld ?_
    rotate_left
    · intro w hSw; (try dsimp only at hSw); go_simp; first | done | with_reducible rfl
    try simp only [Act.put, List.setIfInBounds_toArray, List.set_cons_zero, List.set_cons_succ]
    refine wpAnyH_take (i := 21) (oi := { dst := some 105, op := Op.move (Operand.tmp 104), type := 4, pos := "law.go:71", after := #[{ on := 20, ground := Ground.data }, { on := 18, ground := Ground.chain }, { on := 18, ground := Ground.guard }], guard := some (18, false) }) (v := ?_) rfl (by kernel_rfl) (by kernel_rfl) (by kernel_rfl) (fun _ _ _ h => h) (Or.inl ⟨by rfl, ?_⟩) hHeld ?_
    rotate_left
    · intro w hSw; (try dsimp only at hSw); go_simp; first | done | with_reducible rfl
    try simp only [Act.put, List.setIfInBounds_toArray, List.set_cons_zero, List.set_cons_succ]
    refine wpAnyH_take (i := 22) (oi := { dst := some 106, op := Op.move (Operand.tmp 11), type := 24, pos := "law.go:71", after := #[{ on := 21, ground := Ground.guard }], guard := some (21, true) }) (v := ?_) rfl (by kernel_rfl) (by kernel_rfl) (by kernel_rfl) (fun _ _ _ h => h) (Or.inl ⟨by rfl, ?_⟩) hHeld ?_
    rotate_left
    · intro w hSw; (try dsimp only at hSw); go_simp; first | done | with_reducible rfl
    try simp only [Act.put, List.setIfInBounds_toArray, List.set_cons_zero, List.set_cons_succ]
    refine wpAnyH_take (i := 23) (oi := { dst := some 107, op := Op.call { callee := Callee.builtin Builtin.len, args := #[Operand.tmp 106], argTypes := #[24] }, type := 3, pos := "law.go:71", after := #[{ on := 22, ground := Ground.data }, { on := 21, ground := Ground.guard }], guard := some (21, true) }) (v := ?_) rfl (by kernel_rfl) (by kernel_rfl) (by kernel_rfl) (fun _ _ _ h => h) (Or.inl ⟨by rfl, ?_⟩) hHeld ?_
    rotate_left
    · intro w hSw; (try dsimp only at hSw); go_simp; first | done | with_reducible rfl
    try simp only [Act.put, List.setIfInBounds_toArray, List.set_cons_zero, List.set_cons_succ]
    refine wpAnyH_take (i := 24) (oi := { dst := some 108, op := Op.binOp BinOp.gtr 3 (Operand.tmp 107) (Operand.const (Value.int IntKind.i64 0)) 3, type := 4, pos := "law.go:71", after := #[{ on := 23, ground := Ground.data }, { on := 21, ground := Ground.guard }], guard := some (21, true) }) (v := ?_) rfl (by kernel_rfl) (by kernel_rfl) (by kernel_rfl) (fun _ _ _ h => h) (Or.inl ⟨by rfl, ?_⟩) hHeld ?_
    rotate_left
    · intro w hSw; (try dsimp only at hSw); go_simp; first | done | with_reducible rfl
    try simp only [Act.put, List.setIfInBounds_toArray, List.set_cons_zero, List.set_cons_succ]
    refine wpAnyH_take (i := 25) (oi := { dst := some 109, op := Op.pick (Operand.tmp 105) (Operand.tmp 108) (Operand.const (Value.bool false)), type := 4, pos := "law.go:71", after := #[{ on := 21, ground := Ground.data }, { on := 24, ground := Ground.data }, { on := 18, ground := Ground.guard }], guard := some (18, false) }) (v := ?_) rfl (by kernel_rfl) (by kernel_rfl) (by kernel_rfl) (fun _ _ _ h => h) (Or.inl ⟨by rfl, ?_⟩) hHeld ?_
    rotate_left
    · intro w hSw; (try dsimp only at hSw); go_simp; first | done | with_reducible rfl
    try simp only [Act.put, List.setIfInBounds_toArray, List.set_cons_zero, List.set_cons_succ]
    refine wpAnyH_take (i := 26) (oi := { dst := some 110, op := Op.pick (Operand.tmp 102) (Operand.const (Value.bool true)) (Operand.tmp 109), type := 4, pos := "law.go:71", after := #[{ on := 18, ground := Ground.data }, { on := 25, ground := Ground.data }], guard := none }) (v := ?_) rfl (by kernel_rfl) (by kernel_rfl) (by kernel_rfl) (fun _ _ _ h => h) (Or.inl ⟨by rfl, ?_⟩) hHeld ?_
    rotate_left
    · intro w hSw; (try dsimp only at hSw); go_simp; first | done | with_reducible rfl
    try simp only [Act.put, List.setIfInBounds_toArray, List.set_cons_zero, List.set_cons_succ]
    refine wpAnyH_done (by kernel_rfl) ?_ _
    clear hHeld
    go_wp2_with fail
    go_meet
    case rel => exact ⟨rfl, (Below.refl _ _).drew⟩
  case rest =>
    obtain ⟨rfl, hB⟩ := hcut
    obtain ⟨W9, rfl⟩ : ∃ W9, W9 = wc := ⟨_, rfl⟩
    replace HS := hideL (HS.out.next hB)
    replace HWS := hideL (HWS.out.below hB)
    clear hB HX HA LADD LGD LT LA LR LG
    go_wp2_with fail
    go_loopw [14, 15] (fun r i wr => ∃ k : Nat, k ≤ ln ∧ i = .int .i64 k ∧ HidL (GRow KH wr W9.heap.size r (delP name (l.take k))) ∧ HidL (Below W9.heap.size W9 wr)) (fun _ i _ => ln - (RowKit.intOf i).toNat)
    case atStart => exact ⟨0, Nat.zero_le _, rfl, ⟨GRow.nil _ _⟩, ⟨Below.refl _ _⟩⟩
    case round =>
      obtain ⟨k, hk, rfl, HR, HB⟩ := hrel
      obtain ⟨V, rfl⟩ : ∃ V, V = wr := ⟨_, rfl⟩
      by_cases hlt : k < ln
      · have hlt' : (k : Int) < (ln : Int) := by omega
        obtain ⟨b, o, hao, hbl, hcell⟩ := HWS.out.at (k := k) hlt
        subst hao
        have hkl : k < l.length := by rw [HLN.out]; exact hlt
        have htk : l.take (k + 1) = l.take k ++ [l.getD k KH.dft] := by
          rw [List.take_add_one, List.getElem?_eq_getElem hkl]
          simp [List.getD, hkl]
        have hlen : (delP name (l.take k)).length ≤ 1000 := by
          have h1 := delP_len name (l.take k)
          rw [List.length_take] at h1
          omega
        generalize l.getD k KH.dft = x at *
        have hal : delP name (l.take (k + 1)) = delP name (l.take k) ++ (if x.n = name then [] else [x]) := by rw [htk, delP_snoc]
        obtain ⟨p, y⟩ := x
        simp only at hal
        have d0 : V.cell? ⟨b, o + k * 2, none⟩ = some (.string p) := (HB.out.cell (p := ⟨b, o + k * 2, none⟩) hbl).trans (hcell 0 (by decide))
        have d1 : V.cell? ⟨b, o + k * 2 + 1, none⟩ = some (.string y) := (HB.out.cell (p := ⟨b, o + k * 2 + 1, none⟩) hbl).trans (hcell 1 (by decide))
        clear hcell hbl htk
        by_cases hx : p = name
        · have he := eqs_true hx
          rw [if_pos hx, List.append_nil] at hal
          have hR := HR.out
          rw [← hal] at hR
          have HR2 := hideL hR
          clear hR HR hal hlen hx
          go_wp2_with fail
          go_roundw
          case rel => exact ⟨k + 1, by omega, by go_num, HR2, HB⟩
          case measure => simp [RowKit.intOf]; omega
        · have he := eqs_false hx
          rw [if_neg hx] at hal
          obtain ⟨v4, w4, hrun, hR4, hB4⟩ := push_h V W9.heap.size u14 _ HR.out ⟨p, y⟩ (by omega) HB.out.size
          rw [← hal] at hR4
          have HRUN := hideL hrun
          have HR4 := hideL hR4
          have HB4 := hideL (HB.out.trans hB4)
          clear hrun hR4 hB4 hal hlen hx
          go_wp2_with (at_builtin; refine wpList_append_runP rfl _ _ _ _ _ rfl rfl _ _ v4 w4 rfl rfl HRUN.out ?_)
          go_roundw
          case rel => exact ⟨k + 1, by omega, by go_num, HR4, HB4⟩
          case measure => simp [RowKit.intOf]; omega
      · obtain rfl : k = ln := by omega
        have hlt' : ¬ (k : Int) < (k : Int) := by omega
        have hR := HR.out
        rw [List.take_of_length_le (by rw [HLN.out]; omega)] at hR
        have HR2 := hideL hR.gAt
        have HWB := hideL (HWS.out.below HB.out)
        replace HS := hideL (HS.out.next HB.out)
        clear hR HR HB
        go_wp2_with (first
          | (go_at_call 27; with_reducible refine (LD.out _ HS.out.row).mono ?_; rintro e w11 ⟨do_, dc, rfl, hD, hB⟩; replace HS := hideL (HS.out.next hB); replace HR2 := hideL (HR2.out.below hB); replace HWB := hideL (HWB.out.below hB); have HD := hideL hD; clear hB hD)
          | (go_at_call 26; first
              | (with_reducible refine (LSD.out _ _ _ HD.out HR2.out).mono ?_; rintro e w12 ⟨rfl, hB⟩; replace HS := hideL (HS.out.next hB); replace HWB := hideL (HWB.out.below hB); clear hB)
              | (with_reducible refine (LSL.out _ _ _ HS.out.row HWB.out).mono ?_; rintro e w13 ⟨rfl, hB⟩; replace HS := hideL (HS.out.next hB); clear hB))
          | (go_at_call 10; with_reducible refine (LW.out _ HS.out.env).mono ?_; rintro e w14 ⟨rfl, hB⟩; replace HS := hideL (HS.out.next hB); clear hB))
        go_ret
        exact ⟨rfl, HS.out.be⟩
set_option maxRecDepth 100000 in
set_option maxHeartbeats 8000000 in
theorem table_arg_some (v : Value) (l : List Hd) (h : Hd) (name : ByteArray) (w0 : World) (hv : GAt KH w0 v l) (hE : Env w0) (hl : longP l = false) (hh : longH h = false) (hs : name.size ≤ 1000) (he : addE l h = 1) (x0 : ByteArray) (xr : List ByteArray) (ha : allP name l = x0 :: xr) : Calls Tryd.prog 4 #[v, hdV h, .string name] w0 (fun e w' => e = .returned (.bool true) ∧ Below w0.heap.size w0 w') := by
  have LW := hideL (fun W (hE : Env W) => awake_any W hE)
  have HS := hideL (SL.new h hv hE)
  have L1 := hideL (fun W hv => long_any v l W hv)
  have L2 := hideL (long_lit h)
  rw [hl] at L1
  rw [hh] at L2
  have hs' : ¬ (1000 : Int) < (name.size : Int) := by omega
  have hfit := longP_fits hl
  have hll := (longP_no hl).1
  have hhs := longH_no hh
  have hgd : goodP h = false ∧ True := by
    unfold addE at he
    cases hq : goodP h
    · rw [hq, if_pos rfl] at he
      exact ⟨rfl, trivial⟩
    · rw [hq, if_neg (by decide)] at he
      split at he <;> exact absurd he (by decide)
  have hX : addL l h = [] := by unfold addL; rw [he]; rfl
  have hXl : (addL l h).length = 0 := by rw [hX]; simp
  have LADD := hideL (fun W hv => addN_any v l h _ 1 hXl he W hv hfit (by omega) (by omega))
  have LGD := hideL (good_any h (by omega))
  rw [hgd.1] at LGD
  rw [hX] at LADD
  obtain ⟨na, hna⟩ : ∃ x, (allP name l).length = x := ⟨_, rfl⟩
  have hnal : na ≤ 1000 := by have := allP_len name l; omega
  obtain ⟨nd, hnd⟩ : ∃ x, (delP name l).length = x := ⟨_, rfl⟩
  have hdl := delP_len name l
  rw [hnd] at hdl
  have LD := hideL (fun W hv => delN_any name v l nd hnd W hv hfit (by omega))
  have LA := hideL (fun W hv => allN_any name v l na hna W hv hfit (by omega))
  have LR := hideL (fun W hv => allRN_any name v l na hna W hv (by omega))
  have LG := hideL (fun W hv => get_any name v l W hv hfit (by omega))
  have LT := hideL (fun va vb W ha hb => textsSame_any va vb (allP name l) W ha hb (by omega))
  have LSD := hideL (fun va vb W ha hb => sameSame_any va vb (delP name l) W ha hb (by omega))
  have LSL := hideL (fun va vb W ha hb => sameSame_any va vb l W ha hb (by omega))
  unfold getV at LG
  rw [ha] at LG
  simp only at LG
  have hnp : 0 < na := by rw [← hna, ha]; simp
  have HAE := hideL ha
  obtain ⟨n, c⟩ := h
  obtain ⟨ao, cap, rfl⟩ := hv.len
  simp only [hdV] at *
  have HL := hideL hll
  obtain ⟨ln, hln⟩ : ∃ x, l.length = x := ⟨_, rfl⟩
  have HLN := hideL hln
  rw [hln] at HS L1 LADD LD LA LR LG hll ⊢
  clear hv hE hl hh hs he ha hX hXl hna hnd hdl hfit hhs hgd hln
  go_enter Tryd.func4, Tryd.ntmps4
  go_upto_region 14 with (first
    | (go_at_call 9; first
      | (with_reducible refine (L1.out _ HS.out.row).mono ?_; rintro e w1 ⟨rfl, hB⟩; replace HS := hideL (HS.out.next hB); (try clear c0 c1); have c0 := HS.out.bx.c0; have c1 := HS.out.bx.c1; (try replace HCL := hideL ((hB.cell (p := ⟨b, q, none⟩) HBL.out).trans HCL.out)); (try replace HBL := hideL (Nat.lt_of_lt_of_le HBL.out hB.size)); (try replace HWS := hideL (HWS.out.below hB)); (try replace HA := hideL (HA.out.below hB)); (try replace HX := hideL (HX.out.below hB)); clear hB)
      | (with_reducible refine (L2.out _).mono ?_; rintro e w2 ⟨rfl, hB⟩; replace HS := hideL (HS.out.next hB); (try clear c0 c1); have c0 := HS.out.bx.c0; have c1 := HS.out.bx.c1; (try replace HCL := hideL ((hB.cell (p := ⟨b, q, none⟩) HBL.out).trans HCL.out)); (try replace HBL := hideL (Nat.lt_of_lt_of_le HBL.out hB.size)); (try replace HWS := hideL (HWS.out.below hB)); (try replace HA := hideL (HA.out.below hB)); (try replace HX := hideL (HX.out.below hB)); clear hB; obtain ⟨v3, w3, hrun, hr, hb⟩ := copy_h w2 w2.heap.size (Nat.le_refl _) (.slice ao ln cap) l HS.out.row (by have := HL.out; have := HLN.out; omega); have HRUN3 := hideL hrun; replace HS := hideL (HS.out.next hb); have HWS := hideL hr.gAt; obtain ⟨wo, wc, hv3⟩ := HWS.out.len; rw [HLN.out] at hv3; subst hv3; (try clear c0 c1); have c0 := HS.out.bx.c0; have c1 := HS.out.bx.c1; clear hrun hr hb))
    | (at_builtin; refine wpList_append_runP rfl _ _ _ _ _ rfl rfl _ _ _ _ rfl rfl HRUN3.out ?_; clear HRUN3)
    | (go_at_call 21; with_reducible refine (LR.out _ HS.out.row).mono ?_; rintro e w4 ⟨ro, rc, rfl, hA, hB⟩; replace HS := hideL (HS.out.next hB); (try clear c0 c1); have c0 := HS.out.bx.c0; have c1 := HS.out.bx.c1; (try replace HCL := hideL ((hB.cell (p := ⟨b, q, none⟩) HBL.out).trans HCL.out)); (try replace HBL := hideL (Nat.lt_of_lt_of_le HBL.out hB.size)); (try replace HWS := hideL (HWS.out.below hB)); (try replace HA := hideL (HA.out.below hB)); (try replace HX := hideL (HX.out.below hB)); have HA := hideL hA; obtain ⟨b, q, hro, hbl, hcell⟩ := gat_text HA.out (k := 0) hnp; subst hro; rw [HAE.out] at hcell; have HBL := hideL hbl; have HCL := hideL hcell; clear hbl hcell; clear hA; clear hB)
    | (go_at_call 22; with_reducible refine (LG.out _ HS.out.row).mono ?_; rintro e w5 ⟨rfl, hB⟩; replace HS := hideL (HS.out.next hB); (try clear c0 c1); have c0 := HS.out.bx.c0; have c1 := HS.out.bx.c1; (try replace HCL := hideL ((hB.cell (p := ⟨b, q, none⟩) HBL.out).trans HCL.out)); (try replace HBL := hideL (Nat.lt_of_lt_of_le HBL.out hB.size)); (try replace HWS := hideL (HWS.out.below hB)); (try replace HA := hideL (HA.out.below hB)); (try replace HX := hideL (HX.out.below hB)); clear hB)
    | (go_at_call 24; with_reducible refine (LA.out _ HS.out.row).mono ?_; rintro e w6 ⟨yo, yc, rfl, hY, hB⟩; replace HS := hideL (HS.out.next hB); (try clear c0 c1); have c0 := HS.out.bx.c0; have c1 := HS.out.bx.c1; (try replace HCL := hideL ((hB.cell (p := ⟨b, q, none⟩) HBL.out).trans HCL.out)); (try replace HBL := hideL (Nat.lt_of_lt_of_le HBL.out hB.size)); (try replace HWS := hideL (HWS.out.below hB)); (try replace HA := hideL (HA.out.below hB)); (try replace HX := hideL (HX.out.below hB)); have HY := hideL hY; clear hY; clear hB)
    | (go_at_call 23; with_reducible refine (LT.out _ _ _ HY.out HA.out).mono ?_; rintro e w7 ⟨rfl, hB⟩; replace HS := hideL (HS.out.next hB); (try clear c0 c1); have c0 := HS.out.bx.c0; have c1 := HS.out.bx.c1; (try replace HCL := hideL ((hB.cell (p := ⟨b, q, none⟩) HBL.out).trans HCL.out)); (try replace HBL := hideL (Nat.lt_of_lt_of_le HBL.out hB.size)); (try replace HWS := hideL (HWS.out.below hB)); (try replace HA := hideL (HA.out.below hB)); (try replace HX := hideL (HX.out.below hB)); have ca := HCL.out; (try rw [Nat.add_zero] at ca); clear hB)
    | (go_at_call 25; with_reducible refine (LADD.out _ HS.out.row).mono ?_; rintro e w8 ⟨xo, xc, rfl, hX, hB⟩; replace HS := hideL (HS.out.next hB); (try clear c0 c1); have c0 := HS.out.bx.c0; have c1 := HS.out.bx.c1; (try replace HCL := hideL ((hB.cell (p := ⟨b, q, none⟩) HBL.out).trans HCL.out)); (try replace HBL := hideL (Nat.lt_of_lt_of_le HBL.out hB.size)); (try replace HWS := hideL (HWS.out.below hB)); (try replace HA := hideL (HA.out.below hB)); (try replace HX := hideL (HX.out.below hB)); have HX := hideL hX; (try clear ca); clear hX; clear hB)
    | (go_at_call 18; with_reducible refine (LGD.out _).mono ?_; rintro e w9 ⟨rfl, hB⟩; replace HS := hideL (HS.out.next hB); (try clear c0 c1); have c0 := HS.out.bx.c0; have c1 := HS.out.bx.c1; (try replace HCL := hideL ((hB.cell (p := ⟨b, q, none⟩) HBL.out).trans HCL.out)); (try replace HBL := hideL (Nat.lt_of_lt_of_le HBL.out hB.size)); (try replace HWS := hideL (HWS.out.below hB)); (try replace HA := hideL (HA.out.below hB)); (try replace HX := hideL (HX.out.below hB)); clear hB))
  obtain ⟨W, rfl⟩ : ∃ W, W = w9 := ⟨_, rfl⟩
  (try clear ca)
  clear c0 c1
  go_cut [110] (fun s110 W' => s110 = .bool false ∧ Below W.heap.size W W')
  case first =>
    refine wp_region_held_drew (S := fun w' => Below W.heap.size W w') (by kernel_rfl) ((Below.refl _ _).drew) (fun hHeld => ?_)
    refine wpAnyH_take (i := 0) (oi := { dst := some 84, op := Op.move (Operand.tmp 12), type := 29, pos := "law.go:71", after := #[], guard := none }) (v := ?_) rfl (by kernel_rfl) (by kernel_rfl) (by kernel_rfl) (fun _ _ _ h => h) (Or.inl ⟨by rfl, ?_⟩) hHeld ?_
    rotate_left
    · intro w hSw; (try dsimp only at hSw); go_simp; first | done | with_reducible rfl
    try simp only [Act.put, List.setIfInBounds_toArray, List.set_cons_zero, List.set_cons_succ]
    refine wpAnyH_take (i := 1) (oi := { dst := some 85, op := Op.move (Operand.tmp 13), type := 29, pos := "law.go:71", after := #[], guard := none }) (v := ?_) rfl (by kernel_rfl) (by kernel_rfl) (by kernel_rfl) (fun _ _ _ h => h) (Or.inl ⟨by rfl, ?_⟩) hHeld ?_
    rotate_left
    · intro w hSw; (try dsimp only at hSw); go_simp; first | done | with_reducible rfl
    try simp only [Act.put, List.setIfInBounds_toArray, List.set_cons_zero, List.set_cons_succ]
    refine wpAnyH_take (i := 2) (oi := { dst := some 86, op := Op.binOp BinOp.neq 29 (Operand.tmp 84) (Operand.tmp 85) 29, type := 4, pos := "law.go:71", after := #[{ on := 0, ground := Ground.data }, { on := 1, ground := Ground.data }], guard := none }) (v := ?_) rfl (by kernel_rfl) (by kernel_rfl) (by kernel_rfl) (fun _ _ _ h => h) (Or.inl ⟨by rfl, ?_⟩) hHeld ?_
    rotate_left
    · intro w hSw; (try dsimp only at hSw); go_simp; first | done | with_reducible rfl
    try simp only [Act.put, List.setIfInBounds_toArray, List.set_cons_zero, List.set_cons_succ]
    refine wpAnyH_take (i := 3) (oi := { dst := some 87, op := Op.move (Operand.tmp 86), type := 4, pos := "law.go:71", after := #[{ on := 2, ground := Ground.data }], guard := none }) (v := ?_) rfl (by kernel_rfl) (by kernel_rfl) (by kernel_rfl) (fun _ _ _ h => h) (Or.inl ⟨by rfl, ?_⟩) hHeld ?_
    rotate_left
    · intro w hSw; (try dsimp only at hSw); go_simp; first | done | with_reducible rfl
    try simp only [Act.put, List.setIfInBounds_toArray, List.set_cons_zero, List.set_cons_succ]
    refine wpAnyH_take (i := 4) (oi := { dst := some 88, op := Op.move (Operand.tmp 12), type := 29, pos := "law.go:71", after := #[{ on := 3, ground := Ground.guard }], guard := some (3, false) }) (v := ?_) rfl (by kernel_rfl) (by kernel_rfl) (by kernel_rfl) (fun _ _ _ h => h) (Or.inl ⟨by rfl, ?_⟩) hHeld ?_
    rotate_left
    · intro w hSw; (try dsimp only at hSw); go_simp; first | done | with_reducible rfl
    try simp only [Act.put, List.setIfInBounds_toArray, List.set_cons_zero, List.set_cons_succ]
    refine wpAnyH_take (i := 5) (oi := { dst := some 89, op := Op.binOp BinOp.eql 29 (Operand.tmp 88) (Operand.const (Value.int IntKind.i64 0)) 29, type := 4, pos := "law.go:71", after := #[{ on := 4, ground := Ground.data }, { on := 3, ground := Ground.guard }], guard := some (3, false) }) (v := ?_) rfl (by kernel_rfl) (by kernel_rfl) (by kernel_rfl) (fun _ _ _ h => h) (Or.inl ⟨by rfl, ?_⟩) hHeld ?_
    rotate_left
    · intro w hSw; (try dsimp only at hSw); go_simp; first | done | with_reducible rfl
    try simp only [Act.put, List.setIfInBounds_toArray, List.set_cons_zero, List.set_cons_succ]
    refine wpAnyH_take (i := 6) (oi := { dst := some 90, op := Op.move (Operand.tmp 89), type := 4, pos := "law.go:71", after := #[{ on := 5, ground := Ground.data }, { on := 3, ground := Ground.chain }, { on := 3, ground := Ground.guard }], guard := some (3, false) }) (v := ?_) rfl (by kernel_rfl) (by kernel_rfl) (by kernel_rfl) (fun _ _ _ h => h) (Or.inl ⟨by rfl, ?_⟩) hHeld ?_
    rotate_left
    · intro w hSw; (try dsimp only at hSw); go_simp; first | done | with_reducible rfl
    try simp only [Act.put, List.setIfInBounds_toArray, List.set_cons_zero, List.set_cons_succ]
    refine wpAnyH_take (i := 7) (oi := { dst := some 91, op := Op.move (Operand.tmp 11), type := 24, pos := "law.go:71", after := #[{ on := 6, ground := Ground.guard }], guard := some (6, true) }) (v := undef) rfl (by kernel_rfl) (by kernel_rfl) (by kernel_rfl) (fun _ _ _ h => h) (Or.inr ⟨by rfl, rfl⟩) hHeld ?_
    try simp only [Act.put, List.setIfInBounds_toArray, List.set_cons_zero, List.set_cons_succ]
    refine wpAnyH_take (i := 8) (oi := { dst := some 92, op := Op.buildSlice 24 0 #[], type := 24, pos := "law.go:71", after := #[{ on := 6, ground := Ground.guard }], guard := some (6, true) }) (v := undef) rfl (by kernel_rfl) (by kernel_rfl) (by kernel_rfl) (fun _ _ _ h => h) (Or.inr ⟨by rfl, rfl⟩) hHeld ?_
    try simp only [Act.put, List.setIfInBounds_toArray, List.set_cons_zero, List.set_cons_succ]
    refine wpAnyH_take (i := 9) (oi := { dst := some 93, op := Op.move (Operand.tmp 7), type := 24, pos := "law.go:71", after := #[{ on := 6, ground := Ground.guard }], guard := some (6, true) }) (v := undef) rfl (by kernel_rfl) (by kernel_rfl) (by kernel_rfl) (fun _ _ _ h => h) (Or.inr ⟨by rfl, rfl⟩) hHeld ?_
    try simp only [Act.put, List.setIfInBounds_toArray, List.set_cons_zero, List.set_cons_succ]
    refine wpAnyH_take (i := 10) (oi := { dst := some 94, op := Op.call { callee := Callee.builtin Builtin.append, args := #[Operand.tmp 92, Operand.tmp 93], argTypes := #[24, 24] }, type := 24, pos := "law.go:71", after := #[{ on := 8, ground := Ground.data }, { on := 9, ground := Ground.data }, { on := 6, ground := Ground.chain }, { on := 6, ground := Ground.guard }], guard := some (6, true) }) (v := undef) rfl (by kernel_rfl) (by kernel_rfl) (by kernel_rfl) (fun _ _ _ h => h) (Or.inr ⟨by rfl, rfl⟩) hHeld ?_
    try simp only [Act.put, List.setIfInBounds_toArray, List.set_cons_zero, List.set_cons_succ]
    refine wpAnyH_take (i := 11) (oi := { dst := some 95, op := Op.load 23 (Operand.tmp 4), type := 23, pos := "law.go:71", after := #[{ on := 6, ground := Ground.guard }], guard := some (6, true) }) (v := undef) rfl (by kernel_rfl) (by kernel_rfl) (by kernel_rfl) (fun _ _ _ h => h) (Or.inr ⟨by rfl, rfl⟩) hHeld ?_
    try simp only [Act.put, List.setIfInBounds_toArray, List.set_cons_zero, List.set_cons_succ]
    refine wpAnyH_take (i := 12) (oi := { dst := some 96, op := Op.buildSlice 24 1 #[(0, Operand.tmp 95)], type := 24, pos := "law.go:71", after := #[{ on := 11, ground := Ground.data }, { on := 6, ground := Ground.guard }], guard := some (6, true) }) (v := undef) rfl (by kernel_rfl) (by kernel_rfl) (by kernel_rfl) (fun _ _ _ h => h) (Or.inr ⟨by rfl, rfl⟩) hHeld ?_
    try simp only [Act.put, List.setIfInBounds_toArray, List.set_cons_zero, List.set_cons_succ]
    refine wpAnyH_take (i := 13) (oi := { dst := some 97, op := Op.call { callee := Callee.builtin Builtin.append, args := #[Operand.tmp 94, Operand.tmp 96], argTypes := #[24, 24] }, type := 24, pos := "law.go:71", after := #[{ on := 10, ground := Ground.data }, { on := 12, ground := Ground.data }, { on := 10, ground := Ground.chain }, { on := 6, ground := Ground.guard }], guard := some (6, true) }) (v := undef) rfl (by kernel_rfl) (by kernel_rfl) (by kernel_rfl) (fun _ _ _ h => h) (Or.inr ⟨by rfl, rfl⟩) hHeld ?_
    try simp only [Act.put, List.setIfInBounds_toArray, List.set_cons_zero, List.set_cons_succ]
    refine wpAnyH_take (i := 14) (oi := { dst := some 98, op := Op.call { callee := Callee.value (Operand.func 26), args := #[Operand.tmp 91, Operand.tmp 97], argTypes := #[24, 24] }, type := 4, pos := "law.go:71", after := #[{ on := 7, ground := Ground.data }, { on := 13, ground := Ground.data }, { on := 13, ground := Ground.chain }, { on := 6, ground := Ground.guard }], guard := some (6, true) }) (v := undef) rfl (by kernel_rfl) (by kernel_rfl) (by kernel_rfl) (fun _ _ _ h => h) (Or.inr ⟨by rfl, rfl⟩) hHeld ?_
    try simp only [Act.put, List.setIfInBounds_toArray, List.set_cons_zero, List.set_cons_succ]
    refine wpAnyH_take (i := 15) (oi := { dst := some 99, op := Op.unOp UnOp.not 4 (Operand.tmp 98), type := 4, pos := "law.go:71", after := #[{ on := 14, ground := Ground.data }, { on := 6, ground := Ground.guard }], guard := some (6, true) }) (v := undef) rfl (by kernel_rfl) (by kernel_rfl) (by kernel_rfl) (fun _ _ _ h => h) (Or.inr ⟨by rfl, rfl⟩) hHeld ?_
    try simp only [Act.put, List.setIfInBounds_toArray, List.set_cons_zero, List.set_cons_succ]
    refine wpAnyH_take (i := 16) (oi := { dst := some 100, op := Op.pick (Operand.tmp 90) (Operand.tmp 99) (Operand.const (Value.bool false)), type := 4, pos := "law.go:71", after := #[{ on := 6, ground := Ground.data }, { on := 15, ground := Ground.data }, { on := 3, ground := Ground.guard }], guard := some (3, false) }) (v := ?_) rfl (by kernel_rfl) (by kernel_rfl) (by kernel_rfl) (fun _ _ _ h => h) (Or.inl ⟨by rfl, ?_⟩) hHeld ?_
    rotate_left
    · intro w hSw; (try dsimp only at hSw); go_simp; first | done | with_reducible rfl
    try simp only [Act.put, List.setIfInBounds_toArray, List.set_cons_zero, List.set_cons_succ]
    refine wpAnyH_take (i := 17) (oi := { dst := some 101, op := Op.pick (Operand.tmp 87) (Operand.const (Value.bool true)) (Operand.tmp 100), type := 4, pos := "law.go:71", after := #[{ on := 3, ground := Ground.data }, { on := 16, ground := Ground.data }], guard := none }) (v := ?_) rfl (by kernel_rfl) (by kernel_rfl) (by kernel_rfl) (fun _ _ _ h => h) (Or.inl ⟨by rfl, ?_⟩) hHeld ?_
    rotate_left
    · intro w hSw; (try dsimp only at hSw); go_simp; first | done | with_reducible rfl
    try simp only [Act.put, List.setIfInBounds_toArray, List.set_cons_zero, List.set_cons_succ]
    refine wpAnyH_take (i := 18) (oi := { dst := some 102, op := Op.move (Operand.tmp 101), type := 4, pos := "law.go:71", after := #[{ on := 17, ground := Ground.data }, { on := 14, ground := Ground.chain }], guard := none }) (v := ?_) rfl (by kernel_rfl) (by kernel_rfl) (by kernel_rfl) (fun _ _ _ h => h) (Or.inl ⟨by rfl, ?_⟩) hHeld ?_
    rotate_left
    · intro w hSw; (try dsimp only at hSw); go_simp; first | done | with_reducible rfl
    try simp only [Act.put, List.setIfInBounds_toArray, List.set_cons_zero, List.set_cons_succ]
    refine wpAnyH_take (i := 19) (oi := { dst := some 103, op := Op.move (Operand.tmp 12), type := 29, pos := "law.go:71", after := #[{ on := 18, ground := Ground.guard }], guard := some (18, false) }) (v := ?_) rfl (by kernel_rfl) (by kernel_rfl) (by kernel_rfl) (fun _ _ _ h => h) (Or.inl ⟨by rfl, ?_⟩) hHeld ?_
    rotate_left
    · intro w hSw; (try dsimp only at hSw); go_simp; first | done | with_reducible rfl
    try simp only [Act.put, List.setIfInBounds_toArray, List.set_cons_zero, List.set_cons_succ]
    refine wpAnyH_take (i := 20) (oi := { dst := some 104, op := Op.binOp BinOp.neq 29 (Operand.tmp 103) (Operand.const (Value.int IntKind.i64 0)) 29, type := 4, pos := "law.go:71", after := #[{ on := 19, ground := Ground.data }, { on := 18, ground := Ground.guard }], guard := some (18, false) }) (v := ?_) rfl (by kernel_rfl) (by kernel_rfl) (by kernel_rfl) (fun _ _ _ h => h) (Or.inl ⟨by rfl, ?_⟩) hHeld ?_
    rotate_left
    · intro w hSw; (try dsimp only at hSw); go_simp; first | done | with_reducible rfl
    try simp only [Act.put, List.setIfInBounds_toArray, List.set_cons_zero, List.set_cons_succ]
    refine wpAnyH_take (i := 21) (oi := { dst := some 105, op := Op.move (Operand.tmp 104), type := 4, pos := "law.go:71", after := #[{ on := 20, ground := Ground.data }, { on := 18, ground := Ground.chain }, { on := 18, ground := Ground.guard }], guard := some (18, false) }) (v := ?_) rfl (by kernel_rfl) (by kernel_rfl) (by kernel_rfl) (fun _ _ _ h => h) (Or.inl ⟨by rfl, ?_⟩) hHeld ?_
    rotate_left
    · intro w hSw; (try dsimp only at hSw); go_simp; first | done | with_reducible rfl
    try simp only [Act.put, List.setIfInBounds_toArray, List.set_cons_zero, List.set_cons_succ]
    refine wpAnyH_take (i := 22) (oi := { dst := some 106, op := Op.move (Operand.tmp 11), type := 24, pos := "law.go:71", after := #[{ on := 21, ground := Ground.guard }], guard := some (21, true) }) (v := ?_) rfl (by kernel_rfl) (by kernel_rfl) (by kernel_rfl) (fun _ _ _ h => h) (Or.inl ⟨by rfl, ?_⟩) hHeld ?_
    rotate_left
    · intro w hSw; (try dsimp only at hSw); go_simp; first | done | with_reducible rfl
    try simp only [Act.put, List.setIfInBounds_toArray, List.set_cons_zero, List.set_cons_succ]
    refine wpAnyH_take (i := 23) (oi := { dst := some 107, op := Op.call { callee := Callee.builtin Builtin.len, args := #[Operand.tmp 106], argTypes := #[24] }, type := 3, pos := "law.go:71", after := #[{ on := 22, ground := Ground.data }, { on := 21, ground := Ground.guard }], guard := some (21, true) }) (v := ?_) rfl (by kernel_rfl) (by kernel_rfl) (by kernel_rfl) (fun _ _ _ h => h) (Or.inl ⟨by rfl, ?_⟩) hHeld ?_
    rotate_left
    · intro w hSw; (try dsimp only at hSw); go_simp; first | done | with_reducible rfl
    try simp only [Act.put, List.setIfInBounds_toArray, List.set_cons_zero, List.set_cons_succ]
    refine wpAnyH_take (i := 24) (oi := { dst := some 108, op := Op.binOp BinOp.gtr 3 (Operand.tmp 107) (Operand.const (Value.int IntKind.i64 0)) 3, type := 4, pos := "law.go:71", after := #[{ on := 23, ground := Ground.data }, { on := 21, ground := Ground.guard }], guard := some (21, true) }) (v := ?_) rfl (by kernel_rfl) (by kernel_rfl) (by kernel_rfl) (fun _ _ _ h => h) (Or.inl ⟨by rfl, ?_⟩) hHeld ?_
    rotate_left
    · intro w hSw; (try dsimp only at hSw); go_simp; first | done | with_reducible rfl
    try simp only [Act.put, List.setIfInBounds_toArray, List.set_cons_zero, List.set_cons_succ]
    refine wpAnyH_take (i := 25) (oi := { dst := some 109, op := Op.pick (Operand.tmp 105) (Operand.tmp 108) (Operand.const (Value.bool false)), type := 4, pos := "law.go:71", after := #[{ on := 21, ground := Ground.data }, { on := 24, ground := Ground.data }, { on := 18, ground := Ground.guard }], guard := some (18, false) }) (v := ?_) rfl (by kernel_rfl) (by kernel_rfl) (by kernel_rfl) (fun _ _ _ h => h) (Or.inl ⟨by rfl, ?_⟩) hHeld ?_
    rotate_left
    · intro w hSw; (try dsimp only at hSw); go_simp; first | done | with_reducible rfl
    try simp only [Act.put, List.setIfInBounds_toArray, List.set_cons_zero, List.set_cons_succ]
    refine wpAnyH_take (i := 26) (oi := { dst := some 110, op := Op.pick (Operand.tmp 102) (Operand.const (Value.bool true)) (Operand.tmp 109), type := 4, pos := "law.go:71", after := #[{ on := 18, ground := Ground.data }, { on := 25, ground := Ground.data }], guard := none }) (v := ?_) rfl (by kernel_rfl) (by kernel_rfl) (by kernel_rfl) (fun _ _ _ h => h) (Or.inl ⟨by rfl, ?_⟩) hHeld ?_
    rotate_left
    · intro w hSw; (try dsimp only at hSw); go_simp; first | done | with_reducible rfl
    try simp only [Act.put, List.setIfInBounds_toArray, List.set_cons_zero, List.set_cons_succ]
    refine wpAnyH_done (by kernel_rfl) ?_ _
    clear hHeld
    go_wp2_with fail
    go_meet
    case rel => exact ⟨rfl, (Below.refl _ _).drew⟩
  case rest =>
    obtain ⟨rfl, hB⟩ := hcut
    obtain ⟨W9, rfl⟩ : ∃ W9, W9 = wc := ⟨_, rfl⟩
    replace HS := hideL (HS.out.next hB)
    replace HWS := hideL (HWS.out.below hB)
    clear hB HX HA HCL HBL LADD LGD LT LA LR LG
    go_wp2_with fail
    go_loopw [14, 15] (fun r i wr => ∃ k : Nat, k ≤ ln ∧ i = .int .i64 k ∧ HidL (GRow KH wr W9.heap.size r (delP name (l.take k))) ∧ HidL (Below W9.heap.size W9 wr)) (fun _ i _ => ln - (RowKit.intOf i).toNat)
    case atStart => exact ⟨0, Nat.zero_le _, rfl, ⟨GRow.nil _ _⟩, ⟨Below.refl _ _⟩⟩
    case round =>
      obtain ⟨k, hk, rfl, HR, HB⟩ := hrel
      obtain ⟨V, rfl⟩ : ∃ V, V = wr := ⟨_, rfl⟩
      by_cases hlt : k < ln
      · have hlt' : (k : Int) < (ln : Int) := by omega
        obtain ⟨b, o, hao, hbl, hcell⟩ := HWS.out.at (k := k) hlt
        subst hao
        have hkl : k < l.length := by rw [HLN.out]; exact hlt
        have htk : l.take (k + 1) = l.take k ++ [l.getD k KH.dft] := by
          rw [List.take_add_one, List.getElem?_eq_getElem hkl]
          simp [List.getD, hkl]
        have hlen : (delP name (l.take k)).length ≤ 1000 := by
          have h1 := delP_len name (l.take k)
          rw [List.length_take] at h1
          omega
        generalize l.getD k KH.dft = x at *
        have hal : delP name (l.take (k + 1)) = delP name (l.take k) ++ (if x.n = name then [] else [x]) := by rw [htk, delP_snoc]
        obtain ⟨p, y⟩ := x
        simp only at hal
        have d0 : V.cell? ⟨b, o + k * 2, none⟩ = some (.string p) := (HB.out.cell (p := ⟨b, o + k * 2, none⟩) hbl).trans (hcell 0 (by decide))
        have d1 : V.cell? ⟨b, o + k * 2 + 1, none⟩ = some (.string y) := (HB.out.cell (p := ⟨b, o + k * 2 + 1, none⟩) hbl).trans (hcell 1 (by decide))
        clear hcell hbl htk
        by_cases hx : p = name
        · have he := eqs_true hx
          rw [if_pos hx, List.append_nil] at hal
          have hR := HR.out
          rw [← hal] at hR
          have HR2 := hideL hR
          clear hR HR hal hlen hx
          go_wp2_with fail
          go_roundw
          case rel => exact ⟨k + 1, by omega, by go_num, HR2, HB⟩
          case measure => simp [RowKit.intOf]; omega
        · have he := eqs_false hx
          rw [if_neg hx] at hal
          obtain ⟨v4, w4, hrun, hR4, hB4⟩ := push_h V W9.heap.size u14 _ HR.out ⟨p, y⟩ (by omega) HB.out.size
          rw [← hal] at hR4
          have HRUN := hideL hrun
          have HR4 := hideL hR4
          have HB4 := hideL (HB.out.trans hB4)
          clear hrun hR4 hB4 hal hlen hx
          go_wp2_with (at_builtin; refine wpList_append_runP rfl _ _ _ _ _ rfl rfl _ _ v4 w4 rfl rfl HRUN.out ?_)
          go_roundw
          case rel => exact ⟨k + 1, by omega, by go_num, HR4, HB4⟩
          case measure => simp [RowKit.intOf]; omega
      · obtain rfl : k = ln := by omega
        have hlt' : ¬ (k : Int) < (k : Int) := by omega
        have hR := HR.out
        rw [List.take_of_length_le (by rw [HLN.out]; omega)] at hR
        have HR2 := hideL hR.gAt
        have HWB := hideL (HWS.out.below HB.out)
        replace HS := hideL (HS.out.next HB.out)
        clear hR HR HB
        go_wp2_with (first
          | (go_at_call 27; with_reducible refine (LD.out _ HS.out.row).mono ?_; rintro e w11 ⟨do_, dc, rfl, hD, hB⟩; replace HS := hideL (HS.out.next hB); replace HR2 := hideL (HR2.out.below hB); replace HWB := hideL (HWB.out.below hB); have HD := hideL hD; clear hB hD)
          | (go_at_call 26; first
              | (with_reducible refine (LSD.out _ _ _ HD.out HR2.out).mono ?_; rintro e w12 ⟨rfl, hB⟩; replace HS := hideL (HS.out.next hB); replace HWB := hideL (HWB.out.below hB); clear hB)
              | (with_reducible refine (LSL.out _ _ _ HS.out.row HWB.out).mono ?_; rintro e w13 ⟨rfl, hB⟩; replace HS := hideL (HS.out.next hB); clear hB))
          | (go_at_call 10; with_reducible refine (LW.out _ HS.out.env).mono ?_; rintro e w14 ⟨rfl, hB⟩; replace HS := hideL (HS.out.next hB); clear hB))
        go_ret
        exact ⟨rfl, HS.out.be⟩
end Go.Proofs.YtilefgmlnmpeoaaDoor
