/- RequestBare: a byte more (13). -/
import Derived.Test.YtfpdcokdponojaaGreatDoorRqBareA
namespace Go.Proofs.YtfpdcokdponojaaGreatDoor
open Go.RowKit Go.Lib
set_option maxRecDepth 100000 in
set_option maxHeartbeats 8000000 in
theorem bare_more13 (m t p q o : ByteArray) (ha : Option Addr) (hn hc : Nat) (ba : Option Addr) (bn bc : Nat) (x : Rq) (at_ what : Int) (w : World) (hreq : ReqAt w ⟨m, t, p, q, o, ⟨ha, hn, hc⟩, ⟨ba, bn, bc⟩⟩ x) (hmt : m.size ≤ reachBytes ∧ t.size ≤ reachBytes) (ht : (Env w ∧ EnvS w) ∧ EnvT w) (hlg : lngP (m.size + t.size) bn x.heads = false) (hb0 : bn = 0) (hm : mayR x) (hbig : ¬ 3000 < (wrtP (rawP x)).length) (p2 : bits BinOp.and IntKind.i64 what 2 = 2) (hp : bits BinOp.and IntKind.i64 what 1 ≠ 0) :
    Calls Tryz.prog 10 #[.agg #[.string m, .string t, .string p, .string q, .string o, .slice ha hn hc, .slice ba bn bc], .int .i64 at_, .int .i64 what] w fun e w' => e = .returned (.bool true) ∧ Below w.heap.size w w' := by
  have LA := hideL (fun (W : World) (hb : Below w.heap.size w W) => awake_any W (ht.1.1.next hb) (ht.1.2.next hb))
  have HX := hideL (rq_box w m t p q o (.slice ha hn hc) (.slice ba bn bc))
  have HB1 := hideL ((Below.refl w.heap.size w).alloc (Nat.le_refl _) (rqQ m t p q o (.slice ha hn hc) (.slice ba bn bc)))
  have hsa : (m ++ t).size = m.size + t.size := ByteArray.size_append
  have LL := rlong_any (m ++ t) ha hn hc ba bn bc x.heads _ (hreq.2.2.2.2.2.1.below HB1.out)
  rw [hsa] at LL
  have n1 := max_two hmt.1 hmt.2
  have x0 := HX.out.c0
  have x1 := HX.out.c1
  have x2 := HX.out.c2
  have x3 := HX.out.c3
  have x4 := HX.out.c4
  have x5 := HX.out.c5
  have x6 := HX.out.c6
  rw [hlg] at LL
  have LL := hideL LL
  have i1 : ¬ (0 : Int) < (bn : Int) := by omega
  obtain ⟨hl1, hl2, hl3⟩ := lngP_no hlg
  have hbn : bn = x.body.length := hreq.2.2.2.2.2.2.le.1
  have hl4 := (longP_no hl3).1
  have hsz : m.size + t.size ≤ 900000 := by omega
  have hEn := fun (W : World) (hb : Below w.heap.size w W) => ht.1.1.next hb
  have hSn := fun (W : World) (hb : Below w.heap.size w W) => ht.1.2.next hb
  have hTn := fun (W : World) (hb : Below w.heap.size w W) => ht.2.next hb
  have LB := hideL (fun (W : World) (hb : Below w.heap.size w W) => bytes_okC hm m t p q o ha hn hc ba bn bc W (hreq.below hb) hsz (hEn W hb) (hSn W hb) (hTn W hb))
  have hlen := bare_len hm
  obtain ⟨L, hL⟩ : ∃ L, wrtP (rawP x) = L := ⟨_, rfl⟩
  unfold BytOk at LB
  rw [hL] at LB hlen
  rw [hL] at hbig
  have hb0' : x.body = [] := List.eq_nil_of_length_eq_zero (by omega)
  have i2 : ¬ (3000 : Int) < (L.length : Int) := by omega
  have i3 : (0 : Int) < (L.length : Int) := by omega
  have i4 : ((L.length : Int) == 0) = false := by rw [beq_eq_false_iff_ne]; omega
  obtain ⟨z, hz⟩ : ∃ z : Nat, max 0 at_ = (z : Int) := ⟨(max 0 at_).toNat, by omega⟩
  obtain ⟨qk, hKn⟩ : ∃ qk, z % L.length = qk := ⟨_, rfl⟩
  have hKl : qk < L.length := by rw [← hKn]; exact Nat.mod_lt _ hlen
  have hKd : Int.tmod (z : Int) (L.length : Int) = (qk : Int) := by rw [← hKn]; rfl
  have hKe : (z : Int) % (L.length : Int) = (qk : Int) := by rw [← hKn]; rfl
  have j3 : (0 : Int) ≤ (qk : Int) := by omega
  have j4 : (qk : Int) < (L.length : Int) := by omega
  have p1 : (bits BinOp.and IntKind.i64 what 1 == 0) = false := by rw [beq_eq_false_iff_ne]; exact hp
  have hT0 : (rowP (L.take qk ++ 13 :: L.drop qk)).1 = [] := ba_cr_at hm hb0' hL hKl
  obtain ⟨k0, hk0, ho⟩ := none_shape hT0
  have hTl : (L.take qk ++ 13 :: L.drop qk).length ≤ 200000 := Nat.le_trans (more_len (b := L) (k := qk) (c := 13)) (show L.length + 1 ≤ 200000 by omega)
  generalize hTe : L.take qk ++ 13 :: L.drop qk = T at hT0 ho hTl
  have LN := hideL new_anyC
  have LFd := hideL (fun (v2 : Value) (W : World) (hb : Below w.heap.size w W) (g : GAt KB W v2 T) => feed_newC T v2 W g hTl (hEn W hb) (hSn W hb))
  have LOn := hideL (fun (v2 : Value) (W : World) (hb : Below w.heap.size w W) (g : GAt KB W v2 T) => one_badC ho v2 W g hTl (hEn W hb) (hSn W hb))
  have HTN := hideL hT0
  have ik : ((k0 : Int) != 0) = true := by rw [bne_iff_ne]; omega
  have HTE := hideL hTe
  have hcut1 := fun (ao : Option Addr) (n cap : Nat) (h : qk ≤ cap) (w : World) => run_cut_h (P := Tryz.prog) Tryz.underlying22 sizeB ao n cap qk h w
  have hcut2 := fun (ao : Option Addr) (cap : Nat) (w : World) => run_cut_l (P := Tryz.prog) Tryz.underlying22 sizeB ao L.length cap qk (by omega) w
  have hw1 : IntKind.i64.wrap ((L.length : Int) - 1) = (L.length : Int) - 1 := by rw [IntWalk.i64_in _ (by omega)]
  have hbig2 : L.length ≤ 3000 := by omega
  have HBIG := hideL hbig2
  have HKL := hideL hKl
  generalize hNL : L.length = n at *
  have HNL := hideL hNL
  clear hreq hmt ht hsa hlg hb0 hm hl1 hl2 hl3 hl4 hbn hsz hEn hSn hTn hlen hL hbig hbig2 hKn hb0' hT0 ho hTl hTe hk0 hp
  go_enter Tryz.func10, Tryz.ntmps10
  go_upto_region 8 with (first
    | (go_at_call 21; (with_reducible refine (LL.out).mono ?_); rintro e w2 ⟨rfl, hB⟩
       have hz3 := hB
       have HX := hideL (HX.out.next hz3)
       have x0 := HX.out.c0
       have x1 := HX.out.c1
       have x2 := HX.out.c2
       have x3 := HX.out.c3
       have x4 := HX.out.c4
       have x5 := HX.out.c5
       have x6 := HX.out.c6
       have HB2 := hideL (HB1.out.trans (hz3.mono HB1.out.size))
       clear hB hz3)
    | (go_at_call 31; (with_reducible refine (LB.out _ HB2.out).mono ?_); rintro e w3 ⟨⟨r1, rfl, hbr⟩, hB⟩
       have hz3 := hB
       have HX := hideL (HX.out.next hz3)
       have x0 := HX.out.c0
       have x1 := HX.out.c1
       have x2 := HX.out.c2
       have x3 := HX.out.c3
       have x4 := HX.out.c4
       have x5 := HX.out.c5
       have x6 := HX.out.c6
       have HB3 := hideL (HB2.out.trans (hz3.mono HB2.out.size))
       obtain ⟨ra, rc, hrv⟩ := hbr.gAt.len
       rw [hrv] at hbr ⊢
       have HR := hideL hbr.gAt
       rw [HNL.out] at HR ⊢
       have hle := HR.out.le.2
       have c1 := hcut1 ra n rc (by omega)
       have c2 := hcut2 ra rc
       have HC1 := hideL (HR.out.front (k := qk) (by omega))
       have HC2 := hideL (HR.out.piece (lo := qk) (m := n - qk) (by omega))
       clear hbr hrv
       clear hB hz3))
  refine wp_region_held_drew (S := fun w' => Below w3.heap.size w3 w') (by kernel_rfl) ((Below.refl _ _).drew) (fun hHeld => ?_)
  refine wpAnyH_take (i := 1) (oi := { dst := some 66, op := Op.move (Operand.tmp 7), type := 22, pos := "bare.go:26", after := #[], guard := none }) (v := ?_) rfl (by kernel_rfl) (by kernel_rfl) (by kernel_rfl) (fun _ _ _ h => h) (Or.inl ⟨by rfl, ?_⟩) hHeld ?_
  rotate_left
  · intro w hSw; (try dsimp only at hSw); go_simp; first | done | with_reducible rfl
  try simp only [Act.put, List.setIfInBounds_toArray, List.set_cons_zero, List.set_cons_succ]
  refine wpAnyH_take (i := 2) (oi := { dst := some 67, op := Op.move (Operand.tmp 9), type := 3, pos := "bare.go:26", after := #[], guard := none }) (v := ?_) rfl (by kernel_rfl) (by kernel_rfl) (by kernel_rfl) (fun _ _ _ h => h) (Or.inl ⟨by rfl, ?_⟩) hHeld ?_
  rotate_left
  · intro w hSw; (try dsimp only at hSw); go_simp; first | done | with_reducible rfl
  try simp only [Act.put, List.setIfInBounds_toArray, List.set_cons_zero, List.set_cons_succ]
  refine wpAnyH_take (i := 3) (oi := { dst := some 68, op := Op.slice 22 (Operand.tmp 66) none (some (Operand.tmp 67)) none, type := 22, pos := "bare.go:26", after := #[{ on := 1, ground := Ground.data }, { on := 2, ground := Ground.data }], guard := none }) (v := ?_) rfl (by kernel_rfl) (by kernel_rfl) (by kernel_rfl) (fun _ _ _ h => h) (Or.inl ⟨by rfl, ?_⟩) hHeld ?_
  rotate_left
  · intro w hSw; (try dsimp only at hSw); go_simp; first | done | with_reducible rfl
  try simp only [Act.put, List.setIfInBounds_toArray, List.set_cons_zero, List.set_cons_succ]
  refine wpAnyH_take (i := 5) (oi := { dst := some 70, op := Op.move (Operand.tmp 2), type := 3, pos := "bare.go:26", after := #[], guard := none }) (v := ?_) rfl (by kernel_rfl) (by kernel_rfl) (by kernel_rfl) (fun _ _ _ h => h) (Or.inl ⟨by rfl, ?_⟩) hHeld ?_
  rotate_left
  · intro w hSw; (try dsimp only at hSw); go_simp; first | done | with_reducible rfl
  try simp only [Act.put, List.setIfInBounds_toArray, List.set_cons_zero, List.set_cons_succ]
  refine wpAnyH_take (i := 6) (oi := { dst := some 71, op := Op.binOp BinOp.and 3 (Operand.tmp 70) (Operand.const (Value.int IntKind.i64 2)) 3, type := 3, pos := "bare.go:26", after := #[{ on := 5, ground := Ground.data }], guard := none }) (v := ?_) rfl (by kernel_rfl) (by kernel_rfl) (by kernel_rfl) (fun _ _ _ h => h) (Or.inl ⟨by rfl, ?_⟩) hHeld ?_
  rotate_left
  · intro w hSw; (try dsimp only at hSw); go_simp; first | done | with_reducible rfl
  try simp only [Act.put, List.setIfInBounds_toArray, List.set_cons_zero, List.set_cons_succ]
  refine wpAnyH_take (i := 7) (oi := { dst := some 72, op := Op.binOp BinOp.mul 3 (Operand.tmp 71) (Operand.const (Value.int IntKind.i64 3)) 3, type := 3, pos := "bare.go:26", after := #[{ on := 6, ground := Ground.data }], guard := none }) (v := ?_) rfl (by kernel_rfl) (by kernel_rfl) (by kernel_rfl) (fun _ _ _ h => h) (Or.inl ⟨by rfl, ?_⟩) hHeld ?_
  rotate_left
  · intro w hSw; (try dsimp only at hSw); go_simp; first | done | with_reducible rfl
  try simp only [Act.put, List.setIfInBounds_toArray, List.set_cons_zero, List.set_cons_succ]
  refine wpAnyH_take (i := 8) (oi := { dst := some 73, op := Op.binOp BinOp.quo 3 (Operand.tmp 72) (Operand.const (Value.int IntKind.i64 2)) 3, type := 3, pos := "bare.go:26", after := #[{ on := 7, ground := Ground.data }], guard := none }) (v := ?_) rfl (by kernel_rfl) (by kernel_rfl) (by kernel_rfl) (fun _ _ _ h => h) (Or.inl ⟨by rfl, ?_⟩) hHeld ?_
  rotate_left
  · intro w hSw; (try dsimp only at hSw); go_simp; first | done | with_reducible rfl
  try simp only [Act.put, List.setIfInBounds_toArray, List.set_cons_zero, List.set_cons_succ]
  refine wpAnyH_take (i := 9) (oi := { dst := some 74, op := Op.binOp BinOp.add 3 (Operand.const (Value.int IntKind.i64 10)) (Operand.tmp 73) 3, type := 3, pos := "bare.go:26", after := #[{ on := 8, ground := Ground.data }], guard := none }) (v := ?_) rfl (by kernel_rfl) (by kernel_rfl) (by kernel_rfl) (fun _ _ _ h => h) (Or.inl ⟨by rfl, ?_⟩) hHeld ?_
  rotate_left
  · intro w hSw; (try dsimp only at hSw); go_simp; first | done | with_reducible rfl
  try simp only [Act.put, List.setIfInBounds_toArray, List.set_cons_zero, List.set_cons_succ]
  refine wpAnyH_take (i := 10) (oi := { dst := some 75, op := Op.convert 3 5 (Operand.tmp 74), type := 5, pos := "bare.go:26", after := #[{ on := 9, ground := Ground.data }], guard := none }) (v := ?_) rfl (by kernel_rfl) (by kernel_rfl) (by kernel_rfl) (fun _ _ _ h => h) (Or.inl ⟨by rfl, ?_⟩) hHeld ?_
  rotate_left
  · intro w hSw; (try dsimp only at hSw); go_simp; first | done | with_reducible rfl
  try simp only [Act.put, List.setIfInBounds_toArray, List.set_cons_zero, List.set_cons_succ]
  refine wpAnyH_take (i := 13) (oi := { dst := some 78, op := Op.move (Operand.tmp 7), type := 22, pos := "bare.go:26", after := #[], guard := none }) (v := ?_) rfl (by kernel_rfl) (by kernel_rfl) (by kernel_rfl) (fun _ _ _ h => h) (Or.inl ⟨by rfl, ?_⟩) hHeld ?_
  rotate_left
  · intro w hSw; (try dsimp only at hSw); go_simp; first | done | with_reducible rfl
  try simp only [Act.put, List.setIfInBounds_toArray, List.set_cons_zero, List.set_cons_succ]
  refine wpAnyH_take (i := 14) (oi := { dst := some 79, op := Op.move (Operand.tmp 9), type := 3, pos := "bare.go:26", after := #[], guard := none }) (v := ?_) rfl (by kernel_rfl) (by kernel_rfl) (by kernel_rfl) (fun _ _ _ h => h) (Or.inl ⟨by rfl, ?_⟩) hHeld ?_
  rotate_left
  · intro w hSw; (try dsimp only at hSw); go_simp; first | done | with_reducible rfl
  try simp only [Act.put, List.setIfInBounds_toArray, List.set_cons_zero, List.set_cons_succ]
  refine wpAnyH_take (i := 15) (oi := { dst := some 80, op := Op.slice 22 (Operand.tmp 78) (some (Operand.tmp 79)) none none, type := 22, pos := "bare.go:26", after := #[{ on := 13, ground := Ground.data }, { on := 14, ground := Ground.data }], guard := none }) (v := ?_) rfl (by kernel_rfl) (by kernel_rfl) (by kernel_rfl) (fun _ _ _ h => h) (Or.inl ⟨by rfl, ?_⟩) hHeld ?_
  rotate_left
  · intro w hSw; (try dsimp only at hSw); go_simp; first | done | with_reducible rfl
  try simp only [Act.put, List.setIfInBounds_toArray, List.set_cons_zero, List.set_cons_succ]
  refine wpAnyH_ready (rs := [0, 11]) (by kernel_rfl) (by simp) ?_
  refine AllReadyH.cons (o := { dst := some 65, op := Op.buildSlice 22 0 #[], type := 22, pos := "bare.go:26", after := #[], guard := none }) rfl (fun K hK => ?_) (AllReadyH.cons (o := { dst := some 76, op := Op.buildSlice 22 1 #[(0, Operand.tmp 75)], type := 22, pos := "bare.go:26", after := #[{ on := 10, ground := Ground.data }], guard := none }) rfl (fun K hK => ?_) AllReadyH.nil)
  · clear hHeld
    go_simp
    have HZ1 := hideL (((Below.refl w3.heap.size w3).drew).alloc ((Below.refl w3.heap.size w3).drew).size (.cells #[] 5))
    have HA1 := hideL (nilQ w3.drew w3.drew.heap.size (Nat.le_refl _))
    have HL1 := hideL (((Below.refl w3.drew.heap.size w3.drew).alloc (Nat.le_refl _) (.cells #[] 5)).size)
    refine hK.out _ _ (HZ1.out) (fun hHeld => ?_)
    clear hK K
    try simp only [Act.put, List.setIfInBounds_toArray, List.set_cons_zero, List.set_cons_succ]
    refine wpAnyH_ready (rs := [4, 11]) (by kernel_rfl) (by simp) ?_
    refine AllReadyH.cons (o := { dst := some 69, op := Op.call { callee := Callee.builtin Builtin.append, args := #[Operand.tmp 65, Operand.tmp 68], argTypes := #[22, 22] }, type := 22, pos := "bare.go:26", after := #[{ on := 0, ground := Ground.data }, { on := 3, ground := Ground.data }], guard := none }) rfl (fun K hK => ?_) (AllReadyH.cons (o := { dst := some 76, op := Op.buildSlice 22 1 #[(0, Operand.tmp 75)], type := 22, pos := "bare.go:26", after := #[{ on := 10, ground := Ground.data }], guard := none }) rfl (fun K hK => ?_) AllReadyH.nil)
    · clear hHeld
      rw [if_pos (by rfl)]
      obtain ⟨v42, w42, q1, r1, k1, b1⟩ := cat_bk _ _ _ _ HA1.out _ _ (HC1.out.below HZ1.out) (by have := HBIG.out; have := HNL.out; simp; omega) HL1.out
      refine wp_append_runQ _ _ _ _ _ rfl rfl _ _ v42 w42 rfl rfl q1 ?_
      have HZ2 := hideL (HZ1.out.trans (b1.mono ((Below.refl w3.heap.size w3).drew).size))
      have HA2 := hideL r1
      have HL2 := hideL (Nat.le_trans HL1.out b1.size)
      clear q1 r1 k1 b1
      refine hK.out _ _ (HZ2.out) (fun hHeld => ?_)
      clear hK K
      try simp only [Act.put, List.setIfInBounds_toArray, List.set_cons_zero, List.set_cons_succ]
      refine wpAnyH_ready (rs := [11]) (by kernel_rfl) (by simp) ?_
      refine AllReadyH.cons (o := { dst := some 76, op := Op.buildSlice 22 1 #[(0, Operand.tmp 75)], type := 22, pos := "bare.go:26", after := #[{ on := 10, ground := Ground.data }], guard := none }) rfl (fun K hK => ?_) AllReadyH.nil
      clear hHeld
      go_simp
      have HZ3 := hideL (HZ2.out.alloc HZ2.out.size (.cells #[.int .u8 13] 5))
      have HY3 := hideL (show GAt KB (w42.alloc (.cells #[.int .u8 13] 5)) (.slice (some ⟨w42.heap.size, 0, none⟩) 1 1) [13] from (oneQb w42 w42.heap.size (Nat.le_refl _) 13).gAt)
      have HA3 := hideL (HA2.out.alloc (.cells #[.int .u8 13] 5))
      have HL3 := hideL (Nat.le_trans HL2.out ((Below.refl w42.heap.size w42).alloc (Nat.le_refl _) (.cells #[.int .u8 13] 5)).size)
      refine hK.out _ _ (HZ3.out) (fun hHeld => ?_)
      clear hK K
      try simp only [Act.put, List.setIfInBounds_toArray, List.set_cons_zero, List.set_cons_succ]
      refine wpAnyH_ready (rs := [12]) (by kernel_rfl) (by simp) ?_
      refine AllReadyH.cons (o := { dst := some 77, op := Op.call { callee := Callee.builtin Builtin.append, args := #[Operand.tmp 69, Operand.tmp 76], argTypes := #[22, 22] }, type := 22, pos := "bare.go:26", after := #[{ on := 4, ground := Ground.data }, { on := 11, ground := Ground.data }, { on := 4, ground := Ground.chain }], guard := none }) rfl (fun K hK => ?_) AllReadyH.nil
      clear hHeld
      rw [if_pos (by rfl)]
      obtain ⟨v44, w44, q1, r1, k1, b1⟩ := cat_bk _ _ _ _ HA3.out _ _ HY3.out (by have := HBIG.out; have := HNL.out; simp; omega) HL3.out
      refine wp_append_runQ _ _ _ _ _ rfl rfl _ _ v44 w44 rfl rfl q1 ?_
      have HZ4 := hideL (HZ3.out.trans (b1.mono ((Below.refl w3.heap.size w3).drew).size))
      have HA4 := hideL r1
      have HL4 := hideL (Nat.le_trans HL3.out b1.size)
      clear q1 r1 k1 b1
      refine hK.out _ _ (HZ4.out) (fun hHeld => ?_)
      clear hK K
      try simp only [Act.put, List.setIfInBounds_toArray, List.set_cons_zero, List.set_cons_succ]
      refine wpAnyH_ready (rs := [16]) (by kernel_rfl) (by simp) ?_
      refine AllReadyH.cons (o := { dst := some 81, op := Op.call { callee := Callee.builtin Builtin.append, args := #[Operand.tmp 77, Operand.tmp 80], argTypes := #[22, 22] }, type := 22, pos := "bare.go:26", after := #[{ on := 12, ground := Ground.data }, { on := 15, ground := Ground.data }, { on := 12, ground := Ground.chain }], guard := none }) rfl (fun K hK => ?_) AllReadyH.nil
      clear hHeld
      rw [if_pos (by rfl)]
      obtain ⟨v45, w45, q1, r1, k1, b1⟩ := cat_bk _ _ _ _ HA4.out _ _ (HC2.out.below HZ4.out) (by have := HBIG.out; have := HNL.out; simp; omega) HL4.out
      refine wp_append_runQ _ _ _ _ _ rfl rfl _ _ v45 w45 rfl rfl q1 ?_
      have HZ5 := hideL (HZ4.out.trans (b1.mono ((Below.refl w3.heap.size w3).drew).size))
      have HA5 := hideL r1
      have HL5 := hideL (Nat.le_trans HL4.out b1.size)
      clear q1 r1 k1 b1
      refine hK.out _ _ (HZ5.out) (fun hHeld => ?_)
      clear hK K
      try simp only [Act.put, List.setIfInBounds_toArray, List.set_cons_zero, List.set_cons_succ]
      refine wpAnyH_take (i := 17) (oi := { dst := some 10, op := Op.assign (Operand.tmp 81), type := 22, pos := "bare.go:26", after := #[{ on := 16, ground := Ground.data }, { on := 16, ground := Ground.chain }, { on := 0, ground := Ground.phase }, { on := 1, ground := Ground.phase }, { on := 2, ground := Ground.phase }, { on := 3, ground := Ground.phase }, { on := 4, ground := Ground.phase }, { on := 5, ground := Ground.phase }, { on := 6, ground := Ground.phase }, { on := 7, ground := Ground.phase }, { on := 8, ground := Ground.phase }, { on := 9, ground := Ground.phase }, { on := 10, ground := Ground.phase }, { on := 11, ground := Ground.phase }, { on := 12, ground := Ground.phase }, { on := 13, ground := Ground.phase }, { on := 14, ground := Ground.phase }, { on := 15, ground := Ground.phase }, { on := 16, ground := Ground.phase }], guard := none }) (v := ?_) rfl (by kernel_rfl) (by kernel_rfl) (by kernel_rfl) (fun _ _ _ h => h) (Or.inl ⟨by rfl, ?_⟩) hHeld ?_
      rotate_left
      · intro w hSw; (try dsimp only at hSw); go_simp; first | done | with_reducible rfl
      try simp only [Act.put, List.setIfInBounds_toArray, List.set_cons_zero, List.set_cons_succ]
      refine wpAnyH_done (by kernel_rfl) ?_ _
      clear hHeld
      have HROW := hideL (show GAt KB w45 v45 T from by rw [← HTE.out]; have h := HA5.out.gAt; rw [List.take_of_length_le (l := L.drop qk) (by rw [List.length_drop, HNL.out]; exact Nat.le_refl _)] at h; simpa only [List.nil_append, List.append_assoc, List.cons_append] using h)
      have HB41 := hideL (HB3.out.trans (HZ5.out.mono HB3.out.size))
      go_wp2_with (first
        | (go_at_call 33; (with_reducible refine (LN.out _).mono ?_); rintro e w21 ⟨rfl, hB⟩
           have hz3 := hB
           have HB21 := hideL (HB41.out.trans (hz3.mono HB41.out.size))
           have HT1 := hideL (HROW.out.below hz3)
           have LF1 := hideL (LFd.out _ _ HB21.out HT1.out)
           clear hB hz3)
        | (go_at_call 32; (with_reducible refine (LF1.out).mono ?_); rintro e w22 ⟨⟨c0, c5, c6, c2, la, ln, lc, fha, fhn, fhc, fba, fbn, fbc, wa, wn, wc, rfl, hraws⟩, hB⟩
           have hz2 := (Below.refl w22.heap.size w22).alloc (Nat.le_refl _) (.cells #[.int .i64 c0, .slice la ln lc, .string c2, .slice fha fhn fhc, .slice fba fbn fbc, .int .i64 c5, .int .i64 c6] 30)
           have hz3 := hB.trans (hz2.mono hB.size)
           have hwn := row_head hraws
           rw [HTN.out] at hwn
           replace hwn : wn = 0 := hwn
           subst hwn
           have HB22 := hideL (HB21.out.trans (hz3.mono HB21.out.size))
           have HT2 := hideL (HT1.out.below hz3)
           have LO1 := hideL (LOn.out _ _ HB22.out HT2.out)
           clear hraws
           clear hB hz3 hz2)
        | (go_at_call 18; (with_reducible refine (LO1.out).mono ?_); rintro e w23 ⟨rfl, hB⟩
           have hz2 := (Below.refl w23.heap.size w23).alloc (Nat.le_refl _) (rqQ ⟨#[]⟩ ⟨#[]⟩ ⟨#[]⟩ ⟨#[]⟩ ⟨#[]⟩ (.slice none 0 0) (.slice none 0 0))
           have hz3 := hB.trans (hz2.mono hB.size)
           have HB23 := hideL (HB22.out.trans (hz3.mono HB22.out.size))
           clear hB hz3 hz2)
        | (go_at_call 12; (with_reducible refine (LA.out _ HB23.out).mono ?_); rintro e w24 ⟨rfl, hB⟩
           have hz3 := hB
           have HB24 := hideL (HB23.out.trans (hz3.mono HB23.out.size))
           clear hB hz3))
      go_ret
      exact ⟨rfl, HB24.out⟩
    · clear hHeld
      go_simp
      have HZ2 := hideL (HZ1.out.alloc HZ1.out.size (.cells #[.int .u8 13] 5))
      have hs := (show (w3.drew.alloc (.cells #[] 5)).heap.size = w3.heap.size + 1 from by simp)
      have HY2 := hideL (show GAt KB ((w3.drew.alloc (.cells #[] 5)).alloc (.cells #[.int .u8 13] 5)) (.slice (some ⟨w3.heap.size + 1, 0, none⟩) 1 1) [13] from by have h := (oneQb (w3.drew.alloc (.cells #[] 5)) (w3.drew.alloc (.cells #[] 5)).heap.size (Nat.le_refl _) 13).gAt; rw [hs] at h; exact h)
      clear hs
      have HA2 := hideL (HA1.out.alloc (.cells #[.int .u8 13] 5))
      have HL2 := hideL (Nat.le_trans HL1.out ((Below.refl (w3.drew.alloc (.cells #[] 5)).heap.size (w3.drew.alloc (.cells #[] 5))).alloc (Nat.le_refl _) (.cells #[.int .u8 13] 5)).size)
      refine hK.out _ _ (HZ2.out) (fun hHeld => ?_)
      clear hK K
      try simp only [Act.put, List.setIfInBounds_toArray, List.set_cons_zero, List.set_cons_succ]
      refine wpAnyH_ready (rs := [4]) (by kernel_rfl) (by simp) ?_
      refine AllReadyH.cons (o := { dst := some 69, op := Op.call { callee := Callee.builtin Builtin.append, args := #[Operand.tmp 65, Operand.tmp 68], argTypes := #[22, 22] }, type := 22, pos := "bare.go:26", after := #[{ on := 0, ground := Ground.data }, { on := 3, ground := Ground.data }], guard := none }) rfl (fun K hK => ?_) AllReadyH.nil
      clear hHeld
      rw [if_pos (by rfl)]
      obtain ⟨v43, w43, q1, r1, k1, b1⟩ := cat_bk _ _ _ _ HA2.out _ _ (HC1.out.below HZ2.out) (by have := HBIG.out; have := HNL.out; simp; omega) HL2.out
      refine wp_append_runQ _ _ _ _ _ rfl rfl _ _ v43 w43 rfl rfl q1 ?_
      have HZ3 := hideL (HZ2.out.trans (b1.mono ((Below.refl w3.heap.size w3).drew).size))
      have HA3 := hideL r1
      have HL3 := hideL (Nat.le_trans HL2.out b1.size)
      have HY3 := hideL (HY2.out.keep k1 (by intro k h1 h2; simp [Value.ownBlock] at h1 h2; omega))
      clear q1 r1 k1 b1
      refine hK.out _ _ (HZ3.out) (fun hHeld => ?_)
      clear hK K
      try simp only [Act.put, List.setIfInBounds_toArray, List.set_cons_zero, List.set_cons_succ]
      refine wpAnyH_ready (rs := [12]) (by kernel_rfl) (by simp) ?_
      refine AllReadyH.cons (o := { dst := some 77, op := Op.call { callee := Callee.builtin Builtin.append, args := #[Operand.tmp 69, Operand.tmp 76], argTypes := #[22, 22] }, type := 22, pos := "bare.go:26", after := #[{ on := 4, ground := Ground.data }, { on := 11, ground := Ground.data }, { on := 4, ground := Ground.chain }], guard := none }) rfl (fun K hK => ?_) AllReadyH.nil
      clear hHeld
      rw [if_pos (by rfl)]
      obtain ⟨v44, w44, q1, r1, k1, b1⟩ := cat_bk _ _ _ _ HA3.out _ _ HY3.out (by have := HBIG.out; have := HNL.out; simp; omega) HL3.out
      refine wp_append_runQ _ _ _ _ _ rfl rfl _ _ v44 w44 rfl rfl q1 ?_
      have HZ4 := hideL (HZ3.out.trans (b1.mono ((Below.refl w3.heap.size w3).drew).size))
      have HA4 := hideL r1
      have HL4 := hideL (Nat.le_trans HL3.out b1.size)
      clear q1 r1 k1 b1
      refine hK.out _ _ (HZ4.out) (fun hHeld => ?_)
      clear hK K
      try simp only [Act.put, List.setIfInBounds_toArray, List.set_cons_zero, List.set_cons_succ]
      refine wpAnyH_ready (rs := [16]) (by kernel_rfl) (by simp) ?_
      refine AllReadyH.cons (o := { dst := some 81, op := Op.call { callee := Callee.builtin Builtin.append, args := #[Operand.tmp 77, Operand.tmp 80], argTypes := #[22, 22] }, type := 22, pos := "bare.go:26", after := #[{ on := 12, ground := Ground.data }, { on := 15, ground := Ground.data }, { on := 12, ground := Ground.chain }], guard := none }) rfl (fun K hK => ?_) AllReadyH.nil
      clear hHeld
      rw [if_pos (by rfl)]
      obtain ⟨v45, w45, q1, r1, k1, b1⟩ := cat_bk _ _ _ _ HA4.out _ _ (HC2.out.below HZ4.out) (by have := HBIG.out; have := HNL.out; simp; omega) HL4.out
      refine wp_append_runQ _ _ _ _ _ rfl rfl _ _ v45 w45 rfl rfl q1 ?_
      have HZ5 := hideL (HZ4.out.trans (b1.mono ((Below.refl w3.heap.size w3).drew).size))
      have HA5 := hideL r1
      have HL5 := hideL (Nat.le_trans HL4.out b1.size)
      clear q1 r1 k1 b1
      refine hK.out _ _ (HZ5.out) (fun hHeld => ?_)
      clear hK K
      try simp only [Act.put, List.setIfInBounds_toArray, List.set_cons_zero, List.set_cons_succ]
      refine wpAnyH_take (i := 17) (oi := { dst := some 10, op := Op.assign (Operand.tmp 81), type := 22, pos := "bare.go:26", after := #[{ on := 16, ground := Ground.data }, { on := 16, ground := Ground.chain }, { on := 0, ground := Ground.phase }, { on := 1, ground := Ground.phase }, { on := 2, ground := Ground.phase }, { on := 3, ground := Ground.phase }, { on := 4, ground := Ground.phase }, { on := 5, ground := Ground.phase }, { on := 6, ground := Ground.phase }, { on := 7, ground := Ground.phase }, { on := 8, ground := Ground.phase }, { on := 9, ground := Ground.phase }, { on := 10, ground := Ground.phase }, { on := 11, ground := Ground.phase }, { on := 12, ground := Ground.phase }, { on := 13, ground := Ground.phase }, { on := 14, ground := Ground.phase }, { on := 15, ground := Ground.phase }, { on := 16, ground := Ground.phase }], guard := none }) (v := ?_) rfl (by kernel_rfl) (by kernel_rfl) (by kernel_rfl) (fun _ _ _ h => h) (Or.inl ⟨by rfl, ?_⟩) hHeld ?_
      rotate_left
      · intro w hSw; (try dsimp only at hSw); go_simp; first | done | with_reducible rfl
      try simp only [Act.put, List.setIfInBounds_toArray, List.set_cons_zero, List.set_cons_succ]
      refine wpAnyH_done (by kernel_rfl) ?_ _
      clear hHeld
      have HROW := hideL (show GAt KB w45 v45 T from by rw [← HTE.out]; have h := HA5.out.gAt; rw [List.take_of_length_le (l := L.drop qk) (by rw [List.length_drop, HNL.out]; exact Nat.le_refl _)] at h; simpa only [List.nil_append, List.append_assoc, List.cons_append] using h)
      have HB41 := hideL (HB3.out.trans (HZ5.out.mono HB3.out.size))
      go_wp2_with (first
        | (go_at_call 33; (with_reducible refine (LN.out _).mono ?_); rintro e w21 ⟨rfl, hB⟩
           have hz3 := hB
           have HB21 := hideL (HB41.out.trans (hz3.mono HB41.out.size))
           have HT1 := hideL (HROW.out.below hz3)
           have LF1 := hideL (LFd.out _ _ HB21.out HT1.out)
           clear hB hz3)
        | (go_at_call 32; (with_reducible refine (LF1.out).mono ?_); rintro e w22 ⟨⟨c0, c5, c6, c2, la, ln, lc, fha, fhn, fhc, fba, fbn, fbc, wa, wn, wc, rfl, hraws⟩, hB⟩
           have hz2 := (Below.refl w22.heap.size w22).alloc (Nat.le_refl _) (.cells #[.int .i64 c0, .slice la ln lc, .string c2, .slice fha fhn fhc, .slice fba fbn fbc, .int .i64 c5, .int .i64 c6] 30)
           have hz3 := hB.trans (hz2.mono hB.size)
           have hwn := row_head hraws
           rw [HTN.out] at hwn
           replace hwn : wn = 0 := hwn
           subst hwn
           have HB22 := hideL (HB21.out.trans (hz3.mono HB21.out.size))
           have HT2 := hideL (HT1.out.below hz3)
           have LO1 := hideL (LOn.out _ _ HB22.out HT2.out)
           clear hraws
           clear hB hz3 hz2)
        | (go_at_call 18; (with_reducible refine (LO1.out).mono ?_); rintro e w23 ⟨rfl, hB⟩
           have hz2 := (Below.refl w23.heap.size w23).alloc (Nat.le_refl _) (rqQ ⟨#[]⟩ ⟨#[]⟩ ⟨#[]⟩ ⟨#[]⟩ ⟨#[]⟩ (.slice none 0 0) (.slice none 0 0))
           have hz3 := hB.trans (hz2.mono hB.size)
           have HB23 := hideL (HB22.out.trans (hz3.mono HB22.out.size))
           clear hB hz3 hz2)
        | (go_at_call 12; (with_reducible refine (LA.out _ HB23.out).mono ?_); rintro e w24 ⟨rfl, hB⟩
           have hz3 := hB
           have HB24 := hideL (HB23.out.trans (hz3.mono HB23.out.size))
           clear hB hz3))
      go_ret
      exact ⟨rfl, HB24.out⟩
  · clear hHeld
    go_simp
    have HZ1 := hideL (((Below.refl w3.heap.size w3).drew).alloc ((Below.refl w3.heap.size w3).drew).size (.cells #[.int .u8 13] 5))
    have HY1 := hideL (show GAt KB (w3.drew.alloc (.cells #[.int .u8 13] 5)) (.slice (some ⟨w3.drew.heap.size, 0, none⟩) 1 1) [13] from (oneQb w3.drew w3.drew.heap.size (Nat.le_refl _) 13).gAt)
    refine hK.out _ _ (HZ1.out) (fun hHeld => ?_)
    clear hK K
    try simp only [Act.put, List.setIfInBounds_toArray, List.set_cons_zero, List.set_cons_succ]
    refine wpAnyH_ready (rs := [0]) (by kernel_rfl) (by simp) ?_
    refine AllReadyH.cons (o := { dst := some 65, op := Op.buildSlice 22 0 #[], type := 22, pos := "bare.go:26", after := #[], guard := none }) rfl (fun K hK => ?_) AllReadyH.nil
    clear hHeld
    go_simp
    have HZ2 := hideL (HZ1.out.alloc HZ1.out.size (.cells #[] 5))
    have hs := (show (w3.drew.alloc (.cells #[.int .u8 13] 5)).heap.size = w3.heap.size + 1 from by simp)
    have HA2 := hideL (show GRow KB ((w3.drew.alloc (.cells #[.int .u8 13] 5)).alloc (.cells #[] 5)) (w3.heap.size + 1) (.slice (some ⟨w3.heap.size + 1, 0, none⟩) 0 0) [] from by have h := nilQ (w3.drew.alloc (.cells #[.int .u8 13] 5)) (w3.drew.alloc (.cells #[.int .u8 13] 5)).heap.size (Nat.le_refl _); rw [hs] at h; exact h)
    have HL2 := hideL (show w3.heap.size + 1 ≤ ((w3.drew.alloc (.cells #[.int .u8 13] 5)).alloc (.cells #[] 5)).heap.size from by simp)
    have HV2 := hideL (show Below (w3.heap.size + 1) (w3.drew.alloc (.cells #[.int .u8 13] 5)) ((w3.drew.alloc (.cells #[.int .u8 13] 5)).alloc (.cells #[] 5)) from by have h := Below.alloc (Below.refl (w3.drew.alloc (.cells #[.int .u8 13] 5)).heap.size (w3.drew.alloc (.cells #[.int .u8 13] 5))) (Nat.le_refl _) (.cells #[] 5); rw [hs] at h; exact h)
    have HS2 := hideL hs
    clear hs
    refine hK.out _ _ (HZ2.out) (fun hHeld => ?_)
    clear hK K
    try simp only [Act.put, List.setIfInBounds_toArray, List.set_cons_zero, List.set_cons_succ]
    refine wpAnyH_ready (rs := [4]) (by kernel_rfl) (by simp) ?_
    refine AllReadyH.cons (o := { dst := some 69, op := Op.call { callee := Callee.builtin Builtin.append, args := #[Operand.tmp 65, Operand.tmp 68], argTypes := #[22, 22] }, type := 22, pos := "bare.go:26", after := #[{ on := 0, ground := Ground.data }, { on := 3, ground := Ground.data }], guard := none }) rfl (fun K hK => ?_) AllReadyH.nil
    clear hHeld
    rw [if_pos (by rfl)]
    obtain ⟨v43, w43, q1, r1, k1, b1⟩ := cat_bk _ _ _ _ HA2.out _ _ (HC1.out.below HZ2.out) (by have := HBIG.out; have := HNL.out; simp; omega) HL2.out
    refine wp_append_runQ _ _ _ _ _ rfl rfl _ _ v43 w43 rfl rfl q1 ?_
    have HZ3 := hideL (HZ2.out.trans (b1.mono (Nat.le_succ _)))
    have HA3 := hideL r1
    have HL3 := hideL (Nat.le_trans HL2.out b1.size)
    have HY3 := hideL (HY1.out.below (by rw [HS2.out]; exact HV2.out.trans b1))
    clear q1 r1 k1 b1
    refine hK.out _ _ (HZ3.out) (fun hHeld => ?_)
    clear hK K
    try simp only [Act.put, List.setIfInBounds_toArray, List.set_cons_zero, List.set_cons_succ]
    refine wpAnyH_ready (rs := [12]) (by kernel_rfl) (by simp) ?_
    refine AllReadyH.cons (o := { dst := some 77, op := Op.call { callee := Callee.builtin Builtin.append, args := #[Operand.tmp 69, Operand.tmp 76], argTypes := #[22, 22] }, type := 22, pos := "bare.go:26", after := #[{ on := 4, ground := Ground.data }, { on := 11, ground := Ground.data }, { on := 4, ground := Ground.chain }], guard := none }) rfl (fun K hK => ?_) AllReadyH.nil
    clear hHeld
    rw [if_pos (by rfl)]
    obtain ⟨v44, w44, q1, r1, k1, b1⟩ := cat_bk _ _ _ _ HA3.out _ _ HY3.out (by have := HBIG.out; have := HNL.out; simp; omega) HL3.out
    refine wp_append_runQ _ _ _ _ _ rfl rfl _ _ v44 w44 rfl rfl q1 ?_
    have HZ4 := hideL (HZ3.out.trans (b1.mono (Nat.le_succ _)))
    have HA4 := hideL r1
    have HL4 := hideL (Nat.le_trans HL3.out b1.size)
    clear q1 r1 k1 b1
    refine hK.out _ _ (HZ4.out) (fun hHeld => ?_)
    clear hK K
    try simp only [Act.put, List.setIfInBounds_toArray, List.set_cons_zero, List.set_cons_succ]
    refine wpAnyH_ready (rs := [16]) (by kernel_rfl) (by simp) ?_
    refine AllReadyH.cons (o := { dst := some 81, op := Op.call { callee := Callee.builtin Builtin.append, args := #[Operand.tmp 77, Operand.tmp 80], argTypes := #[22, 22] }, type := 22, pos := "bare.go:26", after := #[{ on := 12, ground := Ground.data }, { on := 15, ground := Ground.data }, { on := 12, ground := Ground.chain }], guard := none }) rfl (fun K hK => ?_) AllReadyH.nil
    clear hHeld
    rw [if_pos (by rfl)]
    obtain ⟨v45, w45, q1, r1, k1, b1⟩ := cat_bk _ _ _ _ HA4.out _ _ (HC2.out.below HZ4.out) (by have := HBIG.out; have := HNL.out; simp; omega) HL4.out
    refine wp_append_runQ _ _ _ _ _ rfl rfl _ _ v45 w45 rfl rfl q1 ?_
    have HZ5 := hideL (HZ4.out.trans (b1.mono (Nat.le_succ _)))
    have HA5 := hideL r1
    have HL5 := hideL (Nat.le_trans HL4.out b1.size)
    clear q1 r1 k1 b1
    refine hK.out _ _ (HZ5.out) (fun hHeld => ?_)
    clear hK K
    try simp only [Act.put, List.setIfInBounds_toArray, List.set_cons_zero, List.set_cons_succ]
    refine wpAnyH_take (i := 17) (oi := { dst := some 10, op := Op.assign (Operand.tmp 81), type := 22, pos := "bare.go:26", after := #[{ on := 16, ground := Ground.data }, { on := 16, ground := Ground.chain }, { on := 0, ground := Ground.phase }, { on := 1, ground := Ground.phase }, { on := 2, ground := Ground.phase }, { on := 3, ground := Ground.phase }, { on := 4, ground := Ground.phase }, { on := 5, ground := Ground.phase }, { on := 6, ground := Ground.phase }, { on := 7, ground := Ground.phase }, { on := 8, ground := Ground.phase }, { on := 9, ground := Ground.phase }, { on := 10, ground := Ground.phase }, { on := 11, ground := Ground.phase }, { on := 12, ground := Ground.phase }, { on := 13, ground := Ground.phase }, { on := 14, ground := Ground.phase }, { on := 15, ground := Ground.phase }, { on := 16, ground := Ground.phase }], guard := none }) (v := ?_) rfl (by kernel_rfl) (by kernel_rfl) (by kernel_rfl) (fun _ _ _ h => h) (Or.inl ⟨by rfl, ?_⟩) hHeld ?_
    rotate_left
    · intro w hSw; (try dsimp only at hSw); go_simp; first | done | with_reducible rfl
    try simp only [Act.put, List.setIfInBounds_toArray, List.set_cons_zero, List.set_cons_succ]
    refine wpAnyH_done (by kernel_rfl) ?_ _
    clear hHeld
    have HROW := hideL (show GAt KB w45 v45 T from by rw [← HTE.out]; have h := HA5.out.gAt; rw [List.take_of_length_le (l := L.drop qk) (by rw [List.length_drop, HNL.out]; exact Nat.le_refl _)] at h; simpa only [List.nil_append, List.append_assoc, List.cons_append] using h)
    have HB41 := hideL (HB3.out.trans (HZ5.out.mono HB3.out.size))
    go_wp2_with (first
      | (go_at_call 33; (with_reducible refine (LN.out _).mono ?_); rintro e w21 ⟨rfl, hB⟩
         have hz3 := hB
         have HB21 := hideL (HB41.out.trans (hz3.mono HB41.out.size))
         have HT1 := hideL (HROW.out.below hz3)
         have LF1 := hideL (LFd.out _ _ HB21.out HT1.out)
         clear hB hz3)
      | (go_at_call 32; (with_reducible refine (LF1.out).mono ?_); rintro e w22 ⟨⟨c0, c5, c6, c2, la, ln, lc, fha, fhn, fhc, fba, fbn, fbc, wa, wn, wc, rfl, hraws⟩, hB⟩
         have hz2 := (Below.refl w22.heap.size w22).alloc (Nat.le_refl _) (.cells #[.int .i64 c0, .slice la ln lc, .string c2, .slice fha fhn fhc, .slice fba fbn fbc, .int .i64 c5, .int .i64 c6] 30)
         have hz3 := hB.trans (hz2.mono hB.size)
         have hwn := row_head hraws
         rw [HTN.out] at hwn
         replace hwn : wn = 0 := hwn
         subst hwn
         have HB22 := hideL (HB21.out.trans (hz3.mono HB21.out.size))
         have HT2 := hideL (HT1.out.below hz3)
         have LO1 := hideL (LOn.out _ _ HB22.out HT2.out)
         clear hraws
         clear hB hz3 hz2)
      | (go_at_call 18; (with_reducible refine (LO1.out).mono ?_); rintro e w23 ⟨rfl, hB⟩
         have hz2 := (Below.refl w23.heap.size w23).alloc (Nat.le_refl _) (rqQ ⟨#[]⟩ ⟨#[]⟩ ⟨#[]⟩ ⟨#[]⟩ ⟨#[]⟩ (.slice none 0 0) (.slice none 0 0))
         have hz3 := hB.trans (hz2.mono hB.size)
         have HB23 := hideL (HB22.out.trans (hz3.mono HB22.out.size))
         clear hB hz3 hz2)
      | (go_at_call 12; (with_reducible refine (LA.out _ HB23.out).mono ?_); rintro e w24 ⟨rfl, hB⟩
         have hz3 := hB
         have HB24 := hideL (HB23.out.trans (hz3.mono HB23.out.size))
         clear hB hz3))
    go_ret
    exact ⟨rfl, HB24.out⟩
end Go.Proofs.YtfpdcokdponojaaGreatDoor
