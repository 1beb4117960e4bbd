/- RequestBare: a byte fewer. -/
import Derived.Test.YtfpdcokdponojaaGreatDoorRqBareA
namespace Go.Proofs.YtfpdcokdponojaaGreatDoor
open Go.RowKit Go.Lib
set_option maxRecDepth 100000 in
set_option maxHeartbeats 8000000 in
theorem bare_less (m t p q o : ByteArray) (ha : Option Addr) (hn hc : Nat) (ba : Option Addr) (bn bc : Nat) (x : Rq) (at_ what : Int) (w : World) (hreq : ReqAt w ⟨m, t, p, q, o, ⟨ha, hn, hc⟩, ⟨ba, bn, bc⟩⟩ x) (hmt : m.size ≤ reachBytes ∧ t.size ≤ reachBytes) (ht : (Env w ∧ EnvS w) ∧ EnvT w) (hlg : lngP (m.size + t.size) bn x.heads = false) (hb0 : bn = 0) (hm : mayR x) (hbig : ¬ 3000 < (wrtP (rawP x)).length) (c : UInt8) (hcq : (wrtP (rawP x)).getD ((max 0 at_).toNat % (wrtP (rawP x)).length) 0 = c) (hcc : c = 13 ∨ c = 10) (hp : bits BinOp.and IntKind.i64 what 1 = 0) :
    Calls Tryz.prog 10 #[.agg #[.string m, .string t, .string p, .string q, .string o, .slice ha hn hc, .slice ba bn bc], .int .i64 at_, .int .i64 what] w fun e w' => e = .returned (.bool true) ∧ Below w.heap.size w w' := by
  have LA := hideL (fun (W : World) (hb : Below w.heap.size w W) => awake_any W (ht.1.1.next hb) (ht.1.2.next hb))
  have HX := hideL (rq_box w m t p q o (.slice ha hn hc) (.slice ba bn bc))
  have HB1 := hideL ((Below.refl w.heap.size w).alloc (Nat.le_refl _) (rqQ m t p q o (.slice ha hn hc) (.slice ba bn bc)))
  have hsa : (m ++ t).size = m.size + t.size := ByteArray.size_append
  have LL := rlong_any (m ++ t) ha hn hc ba bn bc x.heads _ (hreq.2.2.2.2.2.1.below HB1.out)
  rw [hsa] at LL
  have n1 := max_two hmt.1 hmt.2
  have x0 := HX.out.c0
  have x1 := HX.out.c1
  have x2 := HX.out.c2
  have x3 := HX.out.c3
  have x4 := HX.out.c4
  have x5 := HX.out.c5
  have x6 := HX.out.c6
  rw [hlg] at LL
  have LL := hideL LL
  have i1 : ¬ (0 : Int) < (bn : Int) := by omega
  obtain ⟨hl1, hl2, hl3⟩ := lngP_no hlg
  have hbn : bn = x.body.length := hreq.2.2.2.2.2.2.le.1
  have hl4 := (longP_no hl3).1
  have hsz : m.size + t.size ≤ 900000 := by omega
  have hEn := fun (W : World) (hb : Below w.heap.size w W) => ht.1.1.next hb
  have hSn := fun (W : World) (hb : Below w.heap.size w W) => ht.1.2.next hb
  have hTn := fun (W : World) (hb : Below w.heap.size w W) => ht.2.next hb
  have LB := hideL (fun (W : World) (hb : Below w.heap.size w W) => bytes_okC hm m t p q o ha hn hc ba bn bc W (hreq.below hb) hsz (hEn W hb) (hSn W hb) (hTn W hb))
  have hlen := bare_len hm
  obtain ⟨L, hL⟩ : ∃ L, wrtP (rawP x) = L := ⟨_, rfl⟩
  unfold BytOk at LB
  rw [hL] at LB hlen
  rw [hL] at hcq hbig
  have hb0' : x.body = [] := List.eq_nil_of_length_eq_zero (by omega)
  have i2 : ¬ (3000 : Int) < (L.length : Int) := by omega
  have i3 : (0 : Int) < (L.length : Int) := by omega
  have i4 : ((L.length : Int) == 0) = false := by rw [beq_eq_false_iff_ne]; omega
  obtain ⟨z, hz⟩ : ∃ z : Nat, max 0 at_ = (z : Int) := ⟨(max 0 at_).toNat, by omega⟩
  obtain ⟨qk, hKn⟩ : ∃ qk, z % L.length = qk := ⟨_, rfl⟩
  have hKl : qk < L.length := by rw [← hKn]; exact Nat.mod_lt _ hlen
  have hKd : Int.tmod (z : Int) (L.length : Int) = (qk : Int) := by rw [← hKn]; rfl
  have hKe : (z : Int) % (L.length : Int) = (qk : Int) := by rw [← hKn]; rfl
  have j3 : (0 : Int) ≤ (qk : Int) := by omega
  have j4 : (qk : Int) < (L.length : Int) := by omega
  have hKb : L.getD qk 0 = c := by rw [← hKn, show z = (max 0 at_).toNat by omega]; exact hcq
  have hT0 := ba_less_at hm hb0' hL hKl (by rw [hKb]; exact hcc)
  obtain ⟨k0, hk0, ho⟩ := none_shape hT0
  have hTl := Nat.le_trans (less_len (b := L) (k := qk)) (show L.length ≤ 200000 by omega)
  have hTK : HidL (L.take qk ++ L.drop (qk + 1) = L.take qk ++ L.drop (qk + 1)) := ⟨rfl⟩
  generalize hTe : L.take qk ++ L.drop (qk + 1) = T at hT0 ho hTl
  have LN := hideL new_anyC
  have LFd := hideL (fun (v2 : Value) (W : World) (hb : Below w.heap.size w W) (g : GAt KB W v2 T) => feed_newC T v2 W g hTl (hEn W hb) (hSn W hb))
  have LOn := hideL (fun (v2 : Value) (W : World) (hb : Below w.heap.size w W) (g : GAt KB W v2 T) => one_badC ho v2 W g hTl (hEn W hb) (hSn W hb))
  have HTN := hideL hT0
  have ik : ((k0 : Int) != 0) = true := by rw [bne_iff_ne]; omega
  have HTE := hideL hTe
  have hcut1 := fun (ao : Option Addr) (n cap : Nat) (h : qk ≤ cap) (w : World) => run_cut_h (P := Tryz.prog) Tryz.underlying22 sizeB ao n cap qk h w
  have hcut2 := fun (ao : Option Addr) (cap : Nat) (w : World) => run_cut_l (P := Tryz.prog) Tryz.underlying22 sizeB ao L.length cap (qk + 1) (by omega) w
  have hK1 : IntKind.i64.wrap ((qk : Int) + 1) = (qk : Int) + 1 := by rw [IntWalk.i64_in _ (by omega)]
  have hKcast : (((qk + 1 : Nat)) : Int) = (qk : Int) + 1 := by omega
  rw [hKcast] at hcut2
  have hbig2 : L.length ≤ 3000 := by omega
  have HBIG := hideL hbig2
  have HKL := hideL hKl
  rcases hcc with rfl | rfl
  · generalize hNL : L.length = n at *
    have HNL := hideL hNL
    clear hreq hmt ht hsa hlg hb0 hm hl1 hl2 hl3 hl4 hbn hsz hEn hSn hTn hlen hL hbig hbig2 hcq hKn hb0' hT0 ho hTl hTK hTe hk0
    go_enter Tryz.func10, Tryz.ntmps10
    go_upto_region 10 with (first
      | (go_at_call 21; (with_reducible refine (LL.out).mono ?_); rintro e w2 ⟨rfl, hB⟩
         have hz3 := hB
         have HX := hideL (HX.out.next hz3)
         have x0 := HX.out.c0
         have x1 := HX.out.c1
         have x2 := HX.out.c2
         have x3 := HX.out.c3
         have x4 := HX.out.c4
         have x5 := HX.out.c5
         have x6 := HX.out.c6
         have HB2 := hideL (HB1.out.trans (hz3.mono HB1.out.size))
         clear hB hz3)
      | (go_at_call 31; (with_reducible refine (LB.out _ HB2.out).mono ?_); rintro e w3 ⟨⟨r1, rfl, hbr⟩, hB⟩
         have hz3 := hB
         have HX := hideL (HX.out.next hz3)
         have x0 := HX.out.c0
         have x1 := HX.out.c1
         have x2 := HX.out.c2
         have x3 := HX.out.c3
         have x4 := HX.out.c4
         have x5 := HX.out.c5
         have x6 := HX.out.c6
         have HB3 := hideL (HB2.out.trans (hz3.mono HB2.out.size))
         obtain ⟨ra, rc, hrv⟩ := hbr.gAt.len
         rw [hrv] at hbr ⊢
         have HR := hideL hbr.gAt
         rw [HNL.out] at HR ⊢
         obtain ⟨bb, oo, hra, hlt, hcell⟩ := gat_byte HR.out (k := qk) hKl
         subst hra
         rw [hKb] at hcell
         have hle := HR.out.le.2
         have c1 := hcut1 (some ⟨bb, oo, none⟩) n rc (by omega)
         have c2 := hcut2 (some ⟨bb, oo, none⟩) rc
         have HC1 := hideL (HR.out.front (k := qk) (by omega))
         have HC2 := hideL (HR.out.piece (lo := qk + 1) (m := n - (qk + 1)) (by omega))
         clear hbr hrv
         clear hB hz3))
    refine wp_region_held_drew (S := fun w' => Below w3.heap.size w3 w') (by kernel_rfl) ((Below.refl _ _).drew) (fun hHeld => ?_)
    refine wpAnyH_take (i := 1) (oi := { dst := some 101, op := Op.move (Operand.tmp 7), type := 22, pos := "bare.go:22", after := #[], guard := none }) (v := ?_) rfl (by kernel_rfl) (by kernel_rfl) (by kernel_rfl) (fun _ _ _ h => h) (Or.inl ⟨by rfl, ?_⟩) hHeld ?_
    rotate_left
    · intro w hSw; (try dsimp only at hSw); go_simp; first | done | with_reducible rfl
    try simp only [Act.put, List.setIfInBounds_toArray, List.set_cons_zero, List.set_cons_succ]
    refine wpAnyH_take (i := 2) (oi := { dst := some 102, op := Op.move (Operand.tmp 9), type := 3, pos := "bare.go:22", after := #[], guard := none }) (v := ?_) rfl (by kernel_rfl) (by kernel_rfl) (by kernel_rfl) (fun _ _ _ h => h) (Or.inl ⟨by rfl, ?_⟩) hHeld ?_
    rotate_left
    · intro w hSw; (try dsimp only at hSw); go_simp; first | done | with_reducible rfl
    try simp only [Act.put, List.setIfInBounds_toArray, List.set_cons_zero, List.set_cons_succ]
    refine wpAnyH_take (i := 3) (oi := { dst := some 103, op := Op.slice 22 (Operand.tmp 101) none (some (Operand.tmp 102)) none, type := 22, pos := "bare.go:22", after := #[{ on := 1, ground := Ground.data }, { on := 2, ground := Ground.data }], guard := none }) (v := ?_) rfl (by kernel_rfl) (by kernel_rfl) (by kernel_rfl) (fun _ _ _ h => h) (Or.inl ⟨by rfl, ?_⟩) hHeld ?_
    rotate_left
    · intro w hSw; (try dsimp only at hSw); go_simp; first | done | with_reducible rfl
    try simp only [Act.put, List.setIfInBounds_toArray, List.set_cons_zero, List.set_cons_succ]
    refine wpAnyH_take (i := 5) (oi := { dst := some 105, op := Op.move (Operand.tmp 7), type := 22, pos := "bare.go:22", after := #[], guard := none }) (v := ?_) rfl (by kernel_rfl) (by kernel_rfl) (by kernel_rfl) (fun _ _ _ h => h) (Or.inl ⟨by rfl, ?_⟩) hHeld ?_
    rotate_left
    · intro w hSw; (try dsimp only at hSw); go_simp; first | done | with_reducible rfl
    try simp only [Act.put, List.setIfInBounds_toArray, List.set_cons_zero, List.set_cons_succ]
    refine wpAnyH_take (i := 6) (oi := { dst := some 106, op := Op.move (Operand.tmp 9), type := 3, pos := "bare.go:22", after := #[], guard := none }) (v := ?_) rfl (by kernel_rfl) (by kernel_rfl) (by kernel_rfl) (fun _ _ _ h => h) (Or.inl ⟨by rfl, ?_⟩) hHeld ?_
    rotate_left
    · intro w hSw; (try dsimp only at hSw); go_simp; first | done | with_reducible rfl
    try simp only [Act.put, List.setIfInBounds_toArray, List.set_cons_zero, List.set_cons_succ]
    refine wpAnyH_take (i := 7) (oi := { dst := some 107, op := Op.binOp BinOp.add 3 (Operand.tmp 106) (Operand.const (Value.int IntKind.i64 1)) 3, type := 3, pos := "bare.go:22", after := #[{ on := 6, ground := Ground.data }], guard := none }) (v := ?_) rfl (by kernel_rfl) (by kernel_rfl) (by kernel_rfl) (fun _ _ _ h => h) (Or.inl ⟨by rfl, ?_⟩) hHeld ?_
    rotate_left
    · intro w hSw; (try dsimp only at hSw); go_simp; first | done | with_reducible rfl
    try simp only [Act.put, List.setIfInBounds_toArray, List.set_cons_zero, List.set_cons_succ]
    refine wpAnyH_take (i := 8) (oi := { dst := some 108, op := Op.slice 22 (Operand.tmp 105) (some (Operand.tmp 107)) none none, type := 22, pos := "bare.go:22", after := #[{ on := 5, ground := Ground.data }, { on := 7, ground := Ground.data }], guard := none }) (v := ?_) rfl (by kernel_rfl) (by kernel_rfl) (by kernel_rfl) (fun _ _ _ h => h) (Or.inl ⟨by rfl, ?_⟩) hHeld ?_
    rotate_left
    · intro w hSw; (try dsimp only at hSw); go_simp; first | done | with_reducible rfl
    try simp only [Act.put, List.setIfInBounds_toArray, List.set_cons_zero, List.set_cons_succ]
    refine wpAnyH_ready (rs := [0]) (by kernel_rfl) (by simp) ?_
    refine AllReadyH.cons (o := { dst := some 100, op := Op.buildSlice 22 0 #[], type := 22, pos := "bare.go:22", after := #[], guard := none }) rfl (fun K hK => ?_) AllReadyH.nil
    clear hHeld
    go_simp
    have HZ0 := hideL (((Below.refl w3.heap.size w3).drew).alloc (Nat.le_refl _) (.cells #[] 5))
    have HA0 := hideL (nilQ w3.drew w3.heap.size (Nat.le_refl _))
    refine hK.out _ _ (HZ0.out) (fun hHeld => ?_)
    clear hK K
    try simp only [Act.put, List.setIfInBounds_toArray, List.set_cons_zero, List.set_cons_succ]
    refine wpAnyH_ready (rs := [4]) (by kernel_rfl) (by simp) ?_
    refine AllReadyH.cons (o := { dst := some 104, op := Op.call { callee := Callee.builtin Builtin.append, args := #[Operand.tmp 100, Operand.tmp 103], argTypes := #[22, 22] }, type := 22, pos := "bare.go:22", after := #[{ on := 0, ground := Ground.data }, { on := 3, ground := Ground.data }], guard := none }) rfl (fun K hK => ?_) AllReadyH.nil
    clear hHeld
    rw [if_pos (by rfl)]
    obtain ⟨v1, w30, q1, r1, k1, b1⟩ := cat_bk _ w3.heap.size _ _ HA0.out _ _ (HC1.out.below HZ0.out) (by have := HBIG.out; have := HNL.out; rw [List.length_take]; simp; omega) (by simp)
    refine wp_append_runQ _ _ _ _ _ rfl rfl _ _ v1 w30 rfl rfl q1 ?_
    have HZ1 := hideL (HZ0.out.trans b1)
    have HA1 := hideL r1
    clear q1 r1 k1 b1
    refine hK.out _ _ (HZ1.out) (fun hHeld => ?_)
    clear hK K
    try simp only [Act.put, List.setIfInBounds_toArray, List.set_cons_zero, List.set_cons_succ]
    refine wpAnyH_ready (rs := [9]) (by kernel_rfl) (by simp) ?_
    refine AllReadyH.cons (o := { dst := some 109, op := Op.call { callee := Callee.builtin Builtin.append, args := #[Operand.tmp 104, Operand.tmp 108], argTypes := #[22, 22] }, type := 22, pos := "bare.go:22", after := #[{ on := 4, ground := Ground.data }, { on := 8, ground := Ground.data }, { on := 4, ground := Ground.chain }], guard := none }) rfl (fun K hK => ?_) AllReadyH.nil
    clear hHeld
    rw [if_pos (by rfl)]
    obtain ⟨v2, w31, q2, r2, k2, b2⟩ := cat_bk _ w3.heap.size _ _ HA1.out _ _ (HC2.out.below HZ1.out) (by have := HBIG.out; have := HNL.out; simp; omega) HZ1.out.size
    refine wp_append_runQ _ _ _ _ _ rfl rfl _ _ v2 w31 rfl rfl q2 ?_
    have HZ2 := hideL (HZ1.out.trans b2)
    have HROW := hideL (show GAt KB w31 v2 T from by rw [← HTE.out]; have h := r2.gAt; rw [List.nil_append, List.take_of_length_le (l := L.drop (qk + 1)) (by rw [List.length_drop, HNL.out]; exact Nat.le_refl _)] at h; exact h)
    clear q2 r2 k2 b2
    refine hK.out _ _ (HZ2.out) (fun hHeld => ?_)
    clear hK K
    try simp only [Act.put, List.setIfInBounds_toArray, List.set_cons_zero, List.set_cons_succ]
    refine wpAnyH_take (i := 10) (oi := { dst := some 10, op := Op.assign (Operand.tmp 109), type := 22, pos := "bare.go:22", after := #[{ on := 9, ground := Ground.data }, { on := 9, ground := Ground.chain }, { on := 0, ground := Ground.phase }, { on := 1, ground := Ground.phase }, { on := 2, ground := Ground.phase }, { on := 3, ground := Ground.phase }, { on := 4, ground := Ground.phase }, { on := 5, ground := Ground.phase }, { on := 6, ground := Ground.phase }, { on := 7, ground := Ground.phase }, { on := 8, ground := Ground.phase }, { on := 9, ground := Ground.phase }], guard := none }) (v := ?_) rfl (by kernel_rfl) (by kernel_rfl) (by kernel_rfl) (fun _ _ _ h => h) (Or.inl ⟨by rfl, ?_⟩) hHeld ?_
    rotate_left
    · intro w hSw; (try dsimp only at hSw); go_simp; first | done | with_reducible rfl
    try simp only [Act.put, List.setIfInBounds_toArray, List.set_cons_zero, List.set_cons_succ]
    refine wpAnyH_done (by kernel_rfl) ?_ _
    clear hHeld
    have HB31 := hideL (HB3.out.trans (HZ2.out.mono HB3.out.size))
    go_wp2_with (first
      | (go_at_call 33; (with_reducible refine (LN.out _).mono ?_); rintro e w21 ⟨rfl, hB⟩
         have hz3 := hB
         have HB21 := hideL (HB31.out.trans (hz3.mono HB31.out.size))
         have HT1 := hideL (HROW.out.below hz3)
         have LF1 := hideL (LFd.out _ _ HB21.out HT1.out)
         clear hB hz3)
      | (go_at_call 32; (with_reducible refine (LF1.out).mono ?_); rintro e w22 ⟨⟨c0, c5, c6, c2, la, ln, lc, fha, fhn, fhc, fba, fbn, fbc, wa, wn, wc, rfl, hraws⟩, hB⟩
         have hz2 := (Below.refl w22.heap.size w22).alloc (Nat.le_refl _) (.cells #[.int .i64 c0, .slice la ln lc, .string c2, .slice fha fhn fhc, .slice fba fbn fbc, .int .i64 c5, .int .i64 c6] 30)
         have hz3 := hB.trans (hz2.mono hB.size)
         have hwn := row_head hraws
         rw [HTN.out] at hwn
         replace hwn : wn = 0 := hwn
         subst hwn
         have HB22 := hideL (HB21.out.trans (hz3.mono HB21.out.size))
         have HT2 := hideL (HT1.out.below hz3)
         have LO1 := hideL (LOn.out _ _ HB22.out HT2.out)
         clear hraws
         clear hB hz3 hz2)
      | (go_at_call 18; (with_reducible refine (LO1.out).mono ?_); rintro e w23 ⟨rfl, hB⟩
         have hz2 := (Below.refl w23.heap.size w23).alloc (Nat.le_refl _) (rqQ ⟨#[]⟩ ⟨#[]⟩ ⟨#[]⟩ ⟨#[]⟩ ⟨#[]⟩ (.slice none 0 0) (.slice none 0 0))
         have hz3 := hB.trans (hz2.mono hB.size)
         have HB23 := hideL (HB22.out.trans (hz3.mono HB22.out.size))
         clear hB hz3 hz2)
      | (go_at_call 12; (with_reducible refine (LA.out _ HB23.out).mono ?_); rintro e w24 ⟨rfl, hB⟩
         have hz3 := hB
         have HB24 := hideL (HB23.out.trans (hz3.mono HB23.out.size))
         clear hB hz3))
    go_ret
    exact ⟨rfl, HB24.out⟩
  · generalize hNL : L.length = n at *
    have HNL := hideL hNL
    clear hreq hmt ht hsa hlg hb0 hm hl1 hl2 hl3 hl4 hbn hsz hEn hSn hTn hlen hL hbig hbig2 hcq hKn hb0' hT0 ho hTl hTK hTe hk0
    go_enter Tryz.func10, Tryz.ntmps10
    go_upto_region 10 with (first
      | (go_at_call 21; (with_reducible refine (LL.out).mono ?_); rintro e w2 ⟨rfl, hB⟩
         have hz3 := hB
         have HX := hideL (HX.out.next hz3)
         have x0 := HX.out.c0
         have x1 := HX.out.c1
         have x2 := HX.out.c2
         have x3 := HX.out.c3
         have x4 := HX.out.c4
         have x5 := HX.out.c5
         have x6 := HX.out.c6
         have HB2 := hideL (HB1.out.trans (hz3.mono HB1.out.size))
         clear hB hz3)
      | (go_at_call 31; (with_reducible refine (LB.out _ HB2.out).mono ?_); rintro e w3 ⟨⟨r1, rfl, hbr⟩, hB⟩
         have hz3 := hB
         have HX := hideL (HX.out.next hz3)
         have x0 := HX.out.c0
         have x1 := HX.out.c1
         have x2 := HX.out.c2
         have x3 := HX.out.c3
         have x4 := HX.out.c4
         have x5 := HX.out.c5
         have x6 := HX.out.c6
         have HB3 := hideL (HB2.out.trans (hz3.mono HB2.out.size))
         obtain ⟨ra, rc, hrv⟩ := hbr.gAt.len
         rw [hrv] at hbr ⊢
         have HR := hideL hbr.gAt
         rw [HNL.out] at HR ⊢
         obtain ⟨bb, oo, hra, hlt, hcell⟩ := gat_byte HR.out (k := qk) hKl
         subst hra
         rw [hKb] at hcell
         have hle := HR.out.le.2
         have c1 := hcut1 (some ⟨bb, oo, none⟩) n rc (by omega)
         have c2 := hcut2 (some ⟨bb, oo, none⟩) rc
         have HC1 := hideL (HR.out.front (k := qk) (by omega))
         have HC2 := hideL (HR.out.piece (lo := qk + 1) (m := n - (qk + 1)) (by omega))
         clear hbr hrv
         clear hB hz3))
    refine wp_region_held_drew (S := fun w' => Below w3.heap.size w3 w') (by kernel_rfl) ((Below.refl _ _).drew) (fun hHeld => ?_)
    refine wpAnyH_take (i := 1) (oi := { dst := some 101, op := Op.move (Operand.tmp 7), type := 22, pos := "bare.go:22", after := #[], guard := none }) (v := ?_) rfl (by kernel_rfl) (by kernel_rfl) (by kernel_rfl) (fun _ _ _ h => h) (Or.inl ⟨by rfl, ?_⟩) hHeld ?_
    rotate_left
    · intro w hSw; (try dsimp only at hSw); go_simp; first | done | with_reducible rfl
    try simp only [Act.put, List.setIfInBounds_toArray, List.set_cons_zero, List.set_cons_succ]
    refine wpAnyH_take (i := 2) (oi := { dst := some 102, op := Op.move (Operand.tmp 9), type := 3, pos := "bare.go:22", after := #[], guard := none }) (v := ?_) rfl (by kernel_rfl) (by kernel_rfl) (by kernel_rfl) (fun _ _ _ h => h) (Or.inl ⟨by rfl, ?_⟩) hHeld ?_
    rotate_left
    · intro w hSw; (try dsimp only at hSw); go_simp; first | done | with_reducible rfl
    try simp only [Act.put, List.setIfInBounds_toArray, List.set_cons_zero, List.set_cons_succ]
    refine wpAnyH_take (i := 3) (oi := { dst := some 103, op := Op.slice 22 (Operand.tmp 101) none (some (Operand.tmp 102)) none, type := 22, pos := "bare.go:22", after := #[{ on := 1, ground := Ground.data }, { on := 2, ground := Ground.data }], guard := none }) (v := ?_) rfl (by kernel_rfl) (by kernel_rfl) (by kernel_rfl) (fun _ _ _ h => h) (Or.inl ⟨by rfl, ?_⟩) hHeld ?_
    rotate_left
    · intro w hSw; (try dsimp only at hSw); go_simp; first | done | with_reducible rfl
    try simp only [Act.put, List.setIfInBounds_toArray, List.set_cons_zero, List.set_cons_succ]
    refine wpAnyH_take (i := 5) (oi := { dst := some 105, op := Op.move (Operand.tmp 7), type := 22, pos := "bare.go:22", after := #[], guard := none }) (v := ?_) rfl (by kernel_rfl) (by kernel_rfl) (by kernel_rfl) (fun _ _ _ h => h) (Or.inl ⟨by rfl, ?_⟩) hHeld ?_
    rotate_left
    · intro w hSw; (try dsimp only at hSw); go_simp; first | done | with_reducible rfl
    try simp only [Act.put, List.setIfInBounds_toArray, List.set_cons_zero, List.set_cons_succ]
    refine wpAnyH_take (i := 6) (oi := { dst := some 106, op := Op.move (Operand.tmp 9), type := 3, pos := "bare.go:22", after := #[], guard := none }) (v := ?_) rfl (by kernel_rfl) (by kernel_rfl) (by kernel_rfl) (fun _ _ _ h => h) (Or.inl ⟨by rfl, ?_⟩) hHeld ?_
    rotate_left
    · intro w hSw; (try dsimp only at hSw); go_simp; first | done | with_reducible rfl
    try simp only [Act.put, List.setIfInBounds_toArray, List.set_cons_zero, List.set_cons_succ]
    refine wpAnyH_take (i := 7) (oi := { dst := some 107, op := Op.binOp BinOp.add 3 (Operand.tmp 106) (Operand.const (Value.int IntKind.i64 1)) 3, type := 3, pos := "bare.go:22", after := #[{ on := 6, ground := Ground.data }], guard := none }) (v := ?_) rfl (by kernel_rfl) (by kernel_rfl) (by kernel_rfl) (fun _ _ _ h => h) (Or.inl ⟨by rfl, ?_⟩) hHeld ?_
    rotate_left
    · intro w hSw; (try dsimp only at hSw); go_simp; first | done | with_reducible rfl
    try simp only [Act.put, List.setIfInBounds_toArray, List.set_cons_zero, List.set_cons_succ]
    refine wpAnyH_take (i := 8) (oi := { dst := some 108, op := Op.slice 22 (Operand.tmp 105) (some (Operand.tmp 107)) none none, type := 22, pos := "bare.go:22", after := #[{ on := 5, ground := Ground.data }, { on := 7, ground := Ground.data }], guard := none }) (v := ?_) rfl (by kernel_rfl) (by kernel_rfl) (by kernel_rfl) (fun _ _ _ h => h) (Or.inl ⟨by rfl, ?_⟩) hHeld ?_
    rotate_left
    · intro w hSw; (try dsimp only at hSw); go_simp; first | done | with_reducible rfl
    try simp only [Act.put, List.setIfInBounds_toArray, List.set_cons_zero, List.set_cons_succ]
    refine wpAnyH_ready (rs := [0]) (by kernel_rfl) (by simp) ?_
    refine AllReadyH.cons (o := { dst := some 100, op := Op.buildSlice 22 0 #[], type := 22, pos := "bare.go:22", after := #[], guard := none }) rfl (fun K hK => ?_) AllReadyH.nil
    clear hHeld
    go_simp
    have HZ0 := hideL (((Below.refl w3.heap.size w3).drew).alloc (Nat.le_refl _) (.cells #[] 5))
    have HA0 := hideL (nilQ w3.drew w3.heap.size (Nat.le_refl _))
    refine hK.out _ _ (HZ0.out) (fun hHeld => ?_)
    clear hK K
    try simp only [Act.put, List.setIfInBounds_toArray, List.set_cons_zero, List.set_cons_succ]
    refine wpAnyH_ready (rs := [4]) (by kernel_rfl) (by simp) ?_
    refine AllReadyH.cons (o := { dst := some 104, op := Op.call { callee := Callee.builtin Builtin.append, args := #[Operand.tmp 100, Operand.tmp 103], argTypes := #[22, 22] }, type := 22, pos := "bare.go:22", after := #[{ on := 0, ground := Ground.data }, { on := 3, ground := Ground.data }], guard := none }) rfl (fun K hK => ?_) AllReadyH.nil
    clear hHeld
    rw [if_pos (by rfl)]
    obtain ⟨v1, w30, q1, r1, k1, b1⟩ := cat_bk _ w3.heap.size _ _ HA0.out _ _ (HC1.out.below HZ0.out) (by have := HBIG.out; have := HNL.out; rw [List.length_take]; simp; omega) (by simp)
    refine wp_append_runQ _ _ _ _ _ rfl rfl _ _ v1 w30 rfl rfl q1 ?_
    have HZ1 := hideL (HZ0.out.trans b1)
    have HA1 := hideL r1
    clear q1 r1 k1 b1
    refine hK.out _ _ (HZ1.out) (fun hHeld => ?_)
    clear hK K
    try simp only [Act.put, List.setIfInBounds_toArray, List.set_cons_zero, List.set_cons_succ]
    refine wpAnyH_ready (rs := [9]) (by kernel_rfl) (by simp) ?_
    refine AllReadyH.cons (o := { dst := some 109, op := Op.call { callee := Callee.builtin Builtin.append, args := #[Operand.tmp 104, Operand.tmp 108], argTypes := #[22, 22] }, type := 22, pos := "bare.go:22", after := #[{ on := 4, ground := Ground.data }, { on := 8, ground := Ground.data }, { on := 4, ground := Ground.chain }], guard := none }) rfl (fun K hK => ?_) AllReadyH.nil
    clear hHeld
    rw [if_pos (by rfl)]
    obtain ⟨v2, w31, q2, r2, k2, b2⟩ := cat_bk _ w3.heap.size _ _ HA1.out _ _ (HC2.out.below HZ1.out) (by have := HBIG.out; have := HNL.out; simp; omega) HZ1.out.size
    refine wp_append_runQ _ _ _ _ _ rfl rfl _ _ v2 w31 rfl rfl q2 ?_
    have HZ2 := hideL (HZ1.out.trans b2)
    have HROW := hideL (show GAt KB w31 v2 T from by rw [← HTE.out]; have h := r2.gAt; rw [List.nil_append, List.take_of_length_le (l := L.drop (qk + 1)) (by rw [List.length_drop, HNL.out]; exact Nat.le_refl _)] at h; exact h)
    clear q2 r2 k2 b2
    refine hK.out _ _ (HZ2.out) (fun hHeld => ?_)
    clear hK K
    try simp only [Act.put, List.setIfInBounds_toArray, List.set_cons_zero, List.set_cons_succ]
    refine wpAnyH_take (i := 10) (oi := { dst := some 10, op := Op.assign (Operand.tmp 109), type := 22, pos := "bare.go:22", after := #[{ on := 9, ground := Ground.data }, { on := 9, ground := Ground.chain }, { on := 0, ground := Ground.phase }, { on := 1, ground := Ground.phase }, { on := 2, ground := Ground.phase }, { on := 3, ground := Ground.phase }, { on := 4, ground := Ground.phase }, { on := 5, ground := Ground.phase }, { on := 6, ground := Ground.phase }, { on := 7, ground := Ground.phase }, { on := 8, ground := Ground.phase }, { on := 9, ground := Ground.phase }], guard := none }) (v := ?_) rfl (by kernel_rfl) (by kernel_rfl) (by kernel_rfl) (fun _ _ _ h => h) (Or.inl ⟨by rfl, ?_⟩) hHeld ?_
    rotate_left
    · intro w hSw; (try dsimp only at hSw); go_simp; first | done | with_reducible rfl
    try simp only [Act.put, List.setIfInBounds_toArray, List.set_cons_zero, List.set_cons_succ]
    refine wpAnyH_done (by kernel_rfl) ?_ _
    clear hHeld
    have HB31 := hideL (HB3.out.trans (HZ2.out.mono HB3.out.size))
    go_wp2_with (first
      | (go_at_call 33; (with_reducible refine (LN.out _).mono ?_); rintro e w21 ⟨rfl, hB⟩
         have hz3 := hB
         have HB21 := hideL (HB31.out.trans (hz3.mono HB31.out.size))
         have HT1 := hideL (HROW.out.below hz3)
         have LF1 := hideL (LFd.out _ _ HB21.out HT1.out)
         clear hB hz3)
      | (go_at_call 32; (with_reducible refine (LF1.out).mono ?_); rintro e w22 ⟨⟨c0, c5, c6, c2, la, ln, lc, fha, fhn, fhc, fba, fbn, fbc, wa, wn, wc, rfl, hraws⟩, hB⟩
         have hz2 := (Below.refl w22.heap.size w22).alloc (Nat.le_refl _) (.cells #[.int .i64 c0, .slice la ln lc, .string c2, .slice fha fhn fhc, .slice fba fbn fbc, .int .i64 c5, .int .i64 c6] 30)
         have hz3 := hB.trans (hz2.mono hB.size)
         have hwn := row_head hraws
         rw [HTN.out] at hwn
         replace hwn : wn = 0 := hwn
         subst hwn
         have HB22 := hideL (HB21.out.trans (hz3.mono HB21.out.size))
         have HT2 := hideL (HT1.out.below hz3)
         have LO1 := hideL (LOn.out _ _ HB22.out HT2.out)
         clear hraws
         clear hB hz3 hz2)
      | (go_at_call 18; (with_reducible refine (LO1.out).mono ?_); rintro e w23 ⟨rfl, hB⟩
         have hz2 := (Below.refl w23.heap.size w23).alloc (Nat.le_refl _) (rqQ ⟨#[]⟩ ⟨#[]⟩ ⟨#[]⟩ ⟨#[]⟩ ⟨#[]⟩ (.slice none 0 0) (.slice none 0 0))
         have hz3 := hB.trans (hz2.mono hB.size)
         have HB23 := hideL (HB22.out.trans (hz3.mono HB22.out.size))
         clear hB hz3 hz2)
      | (go_at_call 12; (with_reducible refine (LA.out _ HB23.out).mono ?_); rintro e w24 ⟨rfl, hB⟩
         have hz3 := hB
         have HB24 := hideL (HB23.out.trans (hz3.mono HB23.out.size))
         clear hB hz3))
    go_ret
    exact ⟨rfl, HB24.out⟩
end Go.Proofs.YtfpdcokdponojaaGreatDoor
