/- The law NameMay (P5.1 to P5.3). -/
import Derived.Test.YtjbfaaoeoggkpaaNmAwake
import Derived.Test.YtjbfaaoeoggkpaaNmArg
import Derived.Deep.RegionHeld3
namespace Go.Proofs.Ytjbfaaoeoggkpaa
open Go.RowKit Go.Lib

theorem cmp_below (a b : Nm) (w : World) : Calls Try.prog 13 #[.agg #[.string a.ns, .string a.sa], .agg #[.string b.ns, .string b.sa]] w (fun e w' => e = .returned (.int .i64 (cmpN a b)) ∧ Below w.heap.size w w') :=
  (cmp_any a b w).mono (by rintro e w' ⟨h, rfl⟩; exact ⟨h, ((Below.refl w.heap.size w).alloc (Nat.le_refl _) _).alloc (by simp) _⟩)

set_option maxRecDepth 100000 in
set_option maxHeartbeats 1000000 in
theorem nameMay_walk (s : ByteArray) (a b : Nm) (w0 : World) (hE : Env w0) (ms : s.size ≤ maxLen) (ha : a.ok) (hb : b.ok) : Calls Try.prog 3 #[.string s, .agg #[.string a.ns, .string a.sa], .agg #[.string b.ns, .string b.sa]] w0 (LawPost w0) := by
  unfold maxLen at ms
  unfold Nm.ok maxLen at ha hb
  obtain ⟨a1, a2⟩ := ha
  obtain ⟨b1, b2⟩ := hb
  have LM := hideL (label_any s (by omega))
  have LR := hideL (labelR_below s (by omega))
  have LMA := hideL (may_any a (by omega) (by omega))
  have LRA := hideL (mayNR_any a (by omega) (by omega))
  have LC := hideL (cmp_below a b)
  have LCR := hideL (cmpNR_any a b (by omega) (by omega) (by omega) (by omega))
  have LP := hideL (print_any a (by omega) (by omega))
  have LPR := hideL (fun (h1 : a.ns.size ≤ 10000) (h2 : a.sa.size ≤ 10000) => printNR_any a h1 h2)
  unfold priV at LP
  obtain ⟨pa, hpa⟩ : ∃ x, prN a = x := ⟨_, rfl⟩
  rw [hpa] at LP LPR
  obtain ⟨la, hla⟩ : ∃ x, labelS s.data.toList = x := ⟨_, rfl⟩
  rw [hla] at LM LR
  obtain ⟨ma, hma⟩ : ∃ x, mayN a = x := ⟨_, rfl⟩
  rw [hma] at LMA LRA LP
  obtain ⟨c, hc⟩ : ∃ x, cmpN a b = x := ⟨_, rfl⟩
  rw [hc] at LC LCR
  clear hpa hla hma hc
  obtain ⟨p0, p1⟩ := a
  obtain ⟨q0, q1⟩ := b
  dsimp only at LMA LRA LC LCR LP LPR a1 a2 b1 b2 ⊢
  have HB1 := (Below.refl w0.heap.size w0).alloc (Nat.le_refl _) (.cells #[.string p0, .string p1] 23)
  have HX := hideL ((NBox.new w0 p0 p1).next ((Below.refl _ _).alloc (Nat.le_refl _) (.cells #[.string q0, .string q1] 23)))
  have HY := NBox.new (w0.alloc (.cells #[.string p0, .string p1] 23)) q0 q1
  rw [World.size_alloc] at HY
  replace HY := hideL HY
  have HB := hideL (HB1.alloc HB1.size (.cells #[.string q0, .string q1] 23))
  have HE := hideL (hE.below HB.out)
  clear HB1 hE
  have X0 := HX.out.c0
  have X1 := HX.out.c1
  have Y0 := HY.out.c0
  have Y1 := HY.out.c1
  by_cases gs : (1000 : Int) < s.size
  · go_enter Try.func3, Try.ntmps3
    go_wp2_with (go_at_call 8; with_reducible refine (awake_any _ HE.out).mono ?_; rintro e w9 ⟨rfl, hB9⟩)
    go_ret
    exact ⟨rfl, HB.out.trans (hB9.mono HB.out.size)⟩
  by_cases gp0 : (1000 : Int) < p0.size
  · go_enter Try.func3, Try.ntmps3
    go_wp2_with (go_at_call 8; with_reducible refine (awake_any _ HE.out).mono ?_; rintro e w9 ⟨rfl, hB9⟩)
    go_ret
    exact ⟨rfl, HB.out.trans (hB9.mono HB.out.size)⟩
  by_cases gp1 : (1000 : Int) < p1.size
  · go_enter Try.func3, Try.ntmps3
    go_wp2_with (go_at_call 8; with_reducible refine (awake_any _ HE.out).mono ?_; rintro e w9 ⟨rfl, hB9⟩)
    go_ret
    exact ⟨rfl, HB.out.trans (hB9.mono HB.out.size)⟩
  by_cases gq0 : (1000 : Int) < q0.size
  · go_enter Try.func3, Try.ntmps3
    go_wp2_with (go_at_call 8; with_reducible refine (awake_any _ HE.out).mono ?_; rintro e w9 ⟨rfl, hB9⟩)
    go_ret
    exact ⟨rfl, HB.out.trans (hB9.mono HB.out.size)⟩
  by_cases gq1 : (1000 : Int) < q1.size
  · go_enter Try.func3, Try.ntmps3
    go_wp2_with (go_at_call 8; with_reducible refine (awake_any _ HE.out).mono ?_; rintro e w9 ⟨rfl, hB9⟩)
    go_ret
    exact ⟨rfl, HB.out.trans (hB9.mono HB.out.size)⟩
  replace LPR := hideL (LPR.out (by show p0.size ≤ 10000; omega) (by show p1.size ≤ 10000; omega))
  go_enter Try.func3, Try.ntmps3
  go_wp2_with fail
  clear X0 X1 Y0 Y1
  generalize hW1 : (w0.alloc (.cells #[.string p0, .string p1] 23)).alloc (.cells #[.string q0, .string q1] 23) = W1 at *
  have hlx := hideL HX.out.lt
  have hly := hideL HY.out.lt
  have hc0 := hideL HX.out.c0
  have hc1 := hideL HX.out.c1
  have hd0 := hideL HY.out.c0
  have hd1 := hideL HY.out.c1
  clear hW1 gs gp0 gp1 gq0 gq1
  refine wp_region_held_drew (S := fun w' => Below W1.heap.size W1 w') (by kernel_rfl) ((Below.refl _ _).drew) (fun hHeld => ?_)
  refine wpAnyH_take (i := 0) (oi := { dst := some 37, op := Op.move (Operand.tmp 0), type := 9, pos := "law.go:23", after := #[], guard := none }) (v := ?_) rfl (by kernel_rfl) (by kernel_rfl) (by kernel_rfl) (fun _ _ _ h => h) (Or.inl ⟨by rfl, ?_⟩) hHeld ?_
  rotate_left
  · intro w hSw; (try dsimp only at hSw); go_simp; first | done | with_reducible rfl
  try simp only [Act.put, List.setIfInBounds_toArray, List.set_cons_zero, List.set_cons_succ]
  refine wpAnyH_take (i := 2) (oi := { dst := some 39, op := Op.move (Operand.tmp 0), type := 9, pos := "law.go:23", after := #[], guard := none }) (v := ?_) rfl (by kernel_rfl) (by kernel_rfl) (by kernel_rfl) (fun _ _ _ h => h) (Or.inl ⟨by rfl, ?_⟩) hHeld ?_
  rotate_left
  · intro w hSw; (try dsimp only at hSw); go_simp; first | done | with_reducible rfl
  try simp only [Act.put, List.setIfInBounds_toArray, List.set_cons_zero, List.set_cons_succ]
  refine wpAnyH_ready (rs := [1]) (by kernel_rfl) (by simp) ?_
  refine AllReadyH.cons (o := { dst := some 38, op := Op.call { callee := Callee.value (Operand.func 9), args := #[Operand.tmp 37], argTypes := #[9] }, type := 4, pos := "law.go:23", after := #[{ on := 0, ground := Ground.data }], guard := none }) rfl (fun K hK => ?_) AllReadyH.nil
  clear hHeld
  go_simp
  refine (LM.out _).mono ?_
  rintro e wr1 ⟨rfl, hB⟩
  have HR1 := hide (((Below.refl W1.heap.size W1).drew).trans (hB.mono ((Below.refl W1.heap.size W1).drew).size))
  clear hB
  refine hK.out _ _ (HR1.out) (fun hHeld => ?_)
  clear hK K
  try simp only [Act.put, List.setIfInBounds_toArray, List.set_cons_zero, List.set_cons_succ]
  refine wpAnyH_ready (rs := [3]) (by kernel_rfl) (by simp) ?_
  refine AllReadyH.cons (o := { dst := some 40, op := Op.call { callee := Callee.value (Operand.func 10), args := #[Operand.tmp 39], argTypes := #[9] }, type := 4, pos := "law.go:23", after := #[{ on := 2, ground := Ground.data }, { on := 1, ground := Ground.chain }], guard := none }) rfl (fun K hK => ?_) AllReadyH.nil
  clear hHeld
  go_simp
  refine (LR.out _).mono ?_
  rintro e wr2 ⟨rfl, hB⟩
  have HR2 := hide (HR1.out.trans (hB.mono HR1.out.size))
  clear hB
  refine hK.out _ _ (HR2.out) (fun hHeld => ?_)
  clear hK K
  try simp only [Act.put, List.setIfInBounds_toArray, List.set_cons_zero, List.set_cons_succ]
  refine wpAnyH_take (i := 4) (oi := { dst := some 41, op := Op.binOp BinOp.neq 4 (Operand.tmp 38) (Operand.tmp 40) 4, type := 4, pos := "law.go:23", after := #[{ on := 1, ground := Ground.data }, { on := 3, ground := Ground.data }], guard := none }) (v := ?_) rfl (by kernel_rfl) (by kernel_rfl) (by kernel_rfl) (fun _ _ _ h => h) (Or.inl ⟨by rfl, ?_⟩) hHeld ?_
  rotate_left
  · intro w hSw; (try dsimp only at hSw); go_simp; first | done | with_reducible rfl
  try simp only [Act.put, List.setIfInBounds_toArray, List.set_cons_zero, List.set_cons_succ]
  refine wpAnyH_take (i := 5) (oi := { dst := some 42, op := Op.move (Operand.tmp 41), type := 4, pos := "law.go:23", after := #[{ on := 4, ground := Ground.data }, { on := 3, ground := Ground.chain }], guard := none }) (v := ?_) rfl (by kernel_rfl) (by kernel_rfl) (by kernel_rfl) (fun _ _ _ h => h) (Or.inl ⟨by rfl, ?_⟩) hHeld ?_
  rotate_left
  · intro w hSw; (try dsimp only at hSw); go_simp; first | done | with_reducible rfl
  try simp only [Act.put, List.setIfInBounds_toArray, List.set_cons_zero, List.set_cons_succ]
  refine wpAnyH_take (i := 6) (oi := { dst := some 43, op := Op.load 23 (Operand.tmp 4), type := 23, pos := "law.go:23", after := #[{ on := 5, ground := Ground.guard }], guard := some (5, false) }) (v := ?_) rfl (by kernel_rfl) (by kernel_rfl) (by kernel_rfl) (fun _ _ _ h => h) (Or.inl ⟨by rfl, ?_⟩) hHeld ?_
  rotate_left
  · intro w hSw; (try dsimp only at hSw); have e0 := (hSw.cell (p := ⟨w0.heap.size, 0, none⟩) hlx.out).trans hc0.out; have e1 := (hSw.cell (p := ⟨w0.heap.size, 1, none⟩) hlx.out).trans hc1.out; have e2 := (hSw.cell (p := ⟨w0.heap.size + 1, 0, none⟩) hly.out).trans hd0.out; have e3 := (hSw.cell (p := ⟨w0.heap.size + 1, 1, none⟩) hly.out).trans hd1.out; go_simp; first | done | with_reducible rfl
  try simp only [Act.put, List.setIfInBounds_toArray, List.set_cons_zero, List.set_cons_succ]
  refine wpAnyH_take (i := 8) (oi := { dst := some 45, op := Op.load 23 (Operand.tmp 4), type := 23, pos := "law.go:23", after := #[{ on := 5, ground := Ground.guard }], guard := some (5, false) }) (v := ?_) rfl (by kernel_rfl) (by kernel_rfl) (by kernel_rfl) (fun _ _ _ h => h) (Or.inl ⟨by rfl, ?_⟩) hHeld ?_
  rotate_left
  · intro w hSw; (try dsimp only at hSw); have e0 := (hSw.cell (p := ⟨w0.heap.size, 0, none⟩) hlx.out).trans hc0.out; have e1 := (hSw.cell (p := ⟨w0.heap.size, 1, none⟩) hlx.out).trans hc1.out; have e2 := (hSw.cell (p := ⟨w0.heap.size + 1, 0, none⟩) hly.out).trans hd0.out; have e3 := (hSw.cell (p := ⟨w0.heap.size + 1, 1, none⟩) hly.out).trans hd1.out; go_simp; first | done | with_reducible rfl
  try simp only [Act.put, List.setIfInBounds_toArray, List.set_cons_zero, List.set_cons_succ]
  refine wpAnyH_ready (rs := [7]) (by kernel_rfl) (by simp) ?_
  refine AllReadyH.cons (o := { dst := some 44, op := Op.call { callee := Callee.value (Operand.func 11), args := #[Operand.tmp 43], argTypes := #[23] }, type := 4, pos := "law.go:23", after := #[{ on := 6, ground := Ground.data }, { on := 5, ground := Ground.chain }, { on := 5, ground := Ground.guard }], guard := some (5, false) }) rfl (fun K hK => ?_) AllReadyH.nil
  clear hHeld
  go_simp
  refine (LMA.out _).mono ?_
  rintro e wr3 ⟨rfl, hB⟩
  have HR3 := hide (HR2.out.trans (hB.mono HR2.out.size))
  clear hB
  refine hK.out _ _ (HR3.out) (fun hHeld => ?_)
  clear hK K
  try simp only [Act.put, List.setIfInBounds_toArray, List.set_cons_zero, List.set_cons_succ]
  refine wpAnyH_ready (rs := [9]) (by kernel_rfl) (by simp) ?_
  refine AllReadyH.cons (o := { dst := some 46, op := Op.call { callee := Callee.value (Operand.func 12), args := #[Operand.tmp 45], argTypes := #[23] }, type := 4, pos := "law.go:23", after := #[{ on := 8, ground := Ground.data }, { on := 7, ground := Ground.chain }, { on := 5, ground := Ground.guard }], guard := some (5, false) }) rfl (fun K hK => ?_) AllReadyH.nil
  clear hHeld
  go_simp
  refine (LRA.out _).mono ?_
  rintro e wr4 ⟨rfl, hB⟩
  have HR4 := hide (HR3.out.trans (hB.mono HR3.out.size))
  clear hB
  refine hK.out _ _ (HR4.out) (fun hHeld => ?_)
  clear hK K
  try simp only [Act.put, List.setIfInBounds_toArray, List.set_cons_zero, List.set_cons_succ]
  refine wpAnyH_take (i := 10) (oi := { dst := some 47, op := Op.binOp BinOp.neq 4 (Operand.tmp 44) (Operand.tmp 46) 4, type := 4, pos := "law.go:23", after := #[{ on := 7, ground := Ground.data }, { on := 9, ground := Ground.data }, { on := 5, ground := Ground.guard }], guard := some (5, false) }) (v := ?_) rfl (by kernel_rfl) (by kernel_rfl) (by kernel_rfl) (fun _ _ _ h => h) (Or.inl ⟨by rfl, ?_⟩) hHeld ?_
  rotate_left
  · intro w hSw; (try dsimp only at hSw); go_simp; first | done | with_reducible rfl
  try simp only [Act.put, List.setIfInBounds_toArray, List.set_cons_zero, List.set_cons_succ]
  refine wpAnyH_take (i := 11) (oi := { dst := some 48, op := Op.pick (Operand.tmp 42) (Operand.const (Value.bool true)) (Operand.tmp 47), type := 4, pos := "law.go:23", after := #[{ on := 5, ground := Ground.data }, { on := 10, ground := Ground.data }], guard := none }) (v := ?_) rfl (by kernel_rfl) (by kernel_rfl) (by kernel_rfl) (fun _ _ _ h => h) (Or.inl ⟨by rfl, ?_⟩) hHeld ?_
  rotate_left
  · intro w hSw; (try dsimp only at hSw); go_simp; first | done | with_reducible rfl
  try simp only [Act.put, List.setIfInBounds_toArray, List.set_cons_zero, List.set_cons_succ]
  refine wpAnyH_take (i := 12) (oi := { dst := some 49, op := Op.move (Operand.tmp 48), type := 4, pos := "law.go:23", after := #[{ on := 11, ground := Ground.data }, { on := 9, ground := Ground.chain }], guard := none }) (v := ?_) rfl (by kernel_rfl) (by kernel_rfl) (by kernel_rfl) (fun _ _ _ h => h) (Or.inl ⟨by rfl, ?_⟩) hHeld ?_
  rotate_left
  · intro w hSw; (try dsimp only at hSw); go_simp; first | done | with_reducible rfl
  try simp only [Act.put, List.setIfInBounds_toArray, List.set_cons_zero, List.set_cons_succ]
  refine wpAnyH_take (i := 13) (oi := { dst := some 50, op := Op.load 23 (Operand.tmp 4), type := 23, pos := "law.go:23", after := #[{ on := 12, ground := Ground.guard }], guard := some (12, false) }) (v := ?_) rfl (by kernel_rfl) (by kernel_rfl) (by kernel_rfl) (fun _ _ _ h => h) (Or.inl ⟨by rfl, ?_⟩) hHeld ?_
  rotate_left
  · intro w hSw; (try dsimp only at hSw); have e0 := (hSw.cell (p := ⟨w0.heap.size, 0, none⟩) hlx.out).trans hc0.out; have e1 := (hSw.cell (p := ⟨w0.heap.size, 1, none⟩) hlx.out).trans hc1.out; have e2 := (hSw.cell (p := ⟨w0.heap.size + 1, 0, none⟩) hly.out).trans hd0.out; have e3 := (hSw.cell (p := ⟨w0.heap.size + 1, 1, none⟩) hly.out).trans hd1.out; go_simp; first | done | with_reducible rfl
  try simp only [Act.put, List.setIfInBounds_toArray, List.set_cons_zero, List.set_cons_succ]
  refine wpAnyH_take (i := 14) (oi := { dst := some 51, op := Op.load 23 (Operand.tmp 5), type := 23, pos := "law.go:23", after := #[{ on := 12, ground := Ground.guard }], guard := some (12, false) }) (v := ?_) rfl (by kernel_rfl) (by kernel_rfl) (by kernel_rfl) (fun _ _ _ h => h) (Or.inl ⟨by rfl, ?_⟩) hHeld ?_
  rotate_left
  · intro w hSw; (try dsimp only at hSw); have e0 := (hSw.cell (p := ⟨w0.heap.size, 0, none⟩) hlx.out).trans hc0.out; have e1 := (hSw.cell (p := ⟨w0.heap.size, 1, none⟩) hlx.out).trans hc1.out; have e2 := (hSw.cell (p := ⟨w0.heap.size + 1, 0, none⟩) hly.out).trans hd0.out; have e3 := (hSw.cell (p := ⟨w0.heap.size + 1, 1, none⟩) hly.out).trans hd1.out; go_simp; first | done | with_reducible rfl
  try simp only [Act.put, List.setIfInBounds_toArray, List.set_cons_zero, List.set_cons_succ]
  refine wpAnyH_take (i := 16) (oi := { dst := some 53, op := Op.load 23 (Operand.tmp 4), type := 23, pos := "law.go:23", after := #[{ on := 12, ground := Ground.guard }], guard := some (12, false) }) (v := ?_) rfl (by kernel_rfl) (by kernel_rfl) (by kernel_rfl) (fun _ _ _ h => h) (Or.inl ⟨by rfl, ?_⟩) hHeld ?_
  rotate_left
  · intro w hSw; (try dsimp only at hSw); have e0 := (hSw.cell (p := ⟨w0.heap.size, 0, none⟩) hlx.out).trans hc0.out; have e1 := (hSw.cell (p := ⟨w0.heap.size, 1, none⟩) hlx.out).trans hc1.out; have e2 := (hSw.cell (p := ⟨w0.heap.size + 1, 0, none⟩) hly.out).trans hd0.out; have e3 := (hSw.cell (p := ⟨w0.heap.size + 1, 1, none⟩) hly.out).trans hd1.out; go_simp; first | done | with_reducible rfl
  try simp only [Act.put, List.setIfInBounds_toArray, List.set_cons_zero, List.set_cons_succ]
  refine wpAnyH_take (i := 17) (oi := { dst := some 54, op := Op.load 23 (Operand.tmp 5), type := 23, pos := "law.go:23", after := #[{ on := 12, ground := Ground.guard }], guard := some (12, false) }) (v := ?_) rfl (by kernel_rfl) (by kernel_rfl) (by kernel_rfl) (fun _ _ _ h => h) (Or.inl ⟨by rfl, ?_⟩) hHeld ?_
  rotate_left
  · intro w hSw; (try dsimp only at hSw); have e0 := (hSw.cell (p := ⟨w0.heap.size, 0, none⟩) hlx.out).trans hc0.out; have e1 := (hSw.cell (p := ⟨w0.heap.size, 1, none⟩) hlx.out).trans hc1.out; have e2 := (hSw.cell (p := ⟨w0.heap.size + 1, 0, none⟩) hly.out).trans hd0.out; have e3 := (hSw.cell (p := ⟨w0.heap.size + 1, 1, none⟩) hly.out).trans hd1.out; go_simp; first | done | with_reducible rfl
  try simp only [Act.put, List.setIfInBounds_toArray, List.set_cons_zero, List.set_cons_succ]
  refine wpAnyH_ready (rs := [15]) (by kernel_rfl) (by simp) ?_
  refine AllReadyH.cons (o := { dst := some 52, op := Op.call { callee := Callee.value (Operand.func 13), args := #[Operand.tmp 50, Operand.tmp 51], argTypes := #[23, 23] }, type := 3, pos := "law.go:23", after := #[{ on := 13, ground := Ground.data }, { on := 14, ground := Ground.data }, { on := 12, ground := Ground.chain }, { on := 12, ground := Ground.guard }], guard := some (12, false) }) rfl (fun K hK => ?_) AllReadyH.nil
  clear hHeld
  go_simp
  refine (LC.out _).mono ?_
  rintro e wr5 ⟨rfl, hB⟩
  have HR5 := hide (HR4.out.trans (hB.mono HR4.out.size))
  clear hB
  refine hK.out _ _ (HR5.out) (fun hHeld => ?_)
  clear hK K
  try simp only [Act.put, List.setIfInBounds_toArray, List.set_cons_zero, List.set_cons_succ]
  refine wpAnyH_ready (rs := [18]) (by kernel_rfl) (by simp) ?_
  refine AllReadyH.cons (o := { dst := some 55, op := Op.call { callee := Callee.value (Operand.func 14), args := #[Operand.tmp 53, Operand.tmp 54], argTypes := #[23, 23] }, type := 3, pos := "law.go:23", after := #[{ on := 16, ground := Ground.data }, { on := 17, ground := Ground.data }, { on := 15, ground := Ground.chain }, { on := 12, ground := Ground.guard }], guard := some (12, false) }) rfl (fun K hK => ?_) AllReadyH.nil
  clear hHeld
  go_simp
  refine (LCR.out _).mono ?_
  rintro e wr6 ⟨rfl, hB⟩
  have HR6 := hide (HR5.out.trans (hB.mono HR5.out.size))
  clear hB
  refine hK.out _ _ (HR6.out) (fun hHeld => ?_)
  clear hK K
  try simp only [Act.put, List.setIfInBounds_toArray, List.set_cons_zero, List.set_cons_succ]
  refine wpAnyH_take (i := 19) (oi := { dst := some 56, op := Op.binOp BinOp.neq 3 (Operand.tmp 52) (Operand.tmp 55) 3, type := 4, pos := "law.go:23", after := #[{ on := 15, ground := Ground.data }, { on := 18, ground := Ground.data }, { on := 12, ground := Ground.guard }], guard := some (12, false) }) (v := ?_) rfl (by kernel_rfl) (by kernel_rfl) (by kernel_rfl) (fun _ _ _ h => h) (Or.inl ⟨by rfl, ?_⟩) hHeld ?_
  rotate_left
  · intro w hSw; (try dsimp only at hSw); go_simp; first | done | with_reducible rfl
  try simp only [Act.put, List.setIfInBounds_toArray, List.set_cons_zero, List.set_cons_succ]
  refine wpAnyH_take (i := 20) (oi := { dst := some 57, op := Op.pick (Operand.tmp 49) (Operand.const (Value.bool true)) (Operand.tmp 56), type := 4, pos := "law.go:23", after := #[{ on := 12, ground := Ground.data }, { on := 19, ground := Ground.data }], guard := none }) (v := ?_) rfl (by kernel_rfl) (by kernel_rfl) (by kernel_rfl) (fun _ _ _ h => h) (Or.inl ⟨by rfl, ?_⟩) hHeld ?_
  rotate_left
  · intro w hSw; (try dsimp only at hSw); go_simp; first | done | with_reducible rfl
  try simp only [Act.put, List.setIfInBounds_toArray, List.set_cons_zero, List.set_cons_succ]
  refine wpAnyH_done (by kernel_rfl) ?_ _
  clear hHeld
  have HZ := hideL (HR6.out)
  have HX2 := hideL (HX.out.next HZ.out)
  have x0 := HX2.out.c0
  have x1 := HX2.out.c1
  have HB2 := hideL (HB.out.trans (HZ.out.mono HB.out.size))
  have HE2 := hideL (HE.out.below HZ.out)
  clear HX HY hlx hly hc0 hc1 hd0 hd1 LM LR LMA LC LCR HB HE
  cases ma with
  | false =>
    have he : ((ByteArray.empty).toList == ([] : List UInt8)) = true := by rw [ByteArray.toList_eq]; rfl
    go_wp2_with (first
      | (go_at_call 15; with_reducible refine (LP.out _).mono ?_; rintro e w7 ⟨rfl, hB7⟩; have y0 := (HX2.out.next hB7).c0; have y1 := (HX2.out.next hB7).c1)
      | (go_at_call 12; with_reducible refine (LRA.out _).mono ?_; rintro e w8 ⟨rfl, hB8⟩)
      | (go_at_call 8; with_reducible refine (awake_any _ ((HE2.out.below hB7).below hB8)).mono ?_; rintro e w9 ⟨rfl, hB9⟩))
    go_ret
    have e1 := HB2.out.trans (hB7.mono HB2.out.size)
    have e2 := e1.trans (hB8.mono e1.size)
    exact ⟨rfl, e2.trans (hB9.mono e2.size)⟩
  | true =>
    have he : (pa.toList == pa.toList) = true := beq_self_eq_true _
    go_wp2_with (first
      | (go_at_call 15; with_reducible refine (LP.out _).mono ?_; rintro e w7 ⟨rfl, hB7⟩; have HX7 := hideL (HX2.out.next hB7); have y0 := HX7.out.c0; have y1 := HX7.out.c1)
      | (go_at_call 12; with_reducible refine (LRA.out _).mono ?_; rintro e w8 ⟨rfl, hB8⟩; have z0 := (HX7.out.next hB8).c0; have z1 := (HX7.out.next hB8).c1)
      | (go_at_call 16; with_reducible refine (LPR.out _).mono ?_; rintro e w6 ⟨rfl, hB6⟩)
      | (go_at_call 8; with_reducible refine (awake_any _ (((HE2.out.below hB7).below hB8).below hB6)).mono ?_; rintro e w9 ⟨rfl, hB9⟩))
    go_ret
    have e1 := HB2.out.trans (hB7.mono HB2.out.size)
    have e2 := e1.trans (hB8.mono e1.size)
    have e3 := e2.trans (hB6.mono e2.size)
    exact ⟨rfl, e3.trans (hB9.mono e3.size)⟩
end Go.Proofs.Ytjbfaaoeoggkpaa
