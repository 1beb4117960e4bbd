/- The law AddrNets (P4.2). -/
import Derived.Test.YtgikkjjnoakhdaaDoorAddrEndsLaw
import Derived.Test.YtgikkjjnoakhdaaDoorAdRefC
namespace Go.Proofs.YtgikkjjnoakhdaaDoor
open Go.RowKit Go.Lib

/-- A fact that the walk does not see. -/
structure Tuck (p : Prop) : Prop where
  out : p
theorem eq_nets (a : Nat) (b : Int) (w : World) : (binOp BinOp.eql 24 (.agg #[.int .u32 (a : Int), .int .i64 b]) (.agg #[.int .u32 (a : Int), .int .i64 b])).run Tryd.prog w = .ok (.bool true) w := by rw [net_eql]; simp

set_option maxRecDepth 100000 in
set_option maxHeartbeats 8000000 in
theorem nets_any (bits : Int) (c : Net) (hc : c.a < 4294967296) (d : Net) (hd : d.a < 4294967296) (a : Nat) (ha : a < 4294967296) (w : World) (hE : Env w) : Calls Tryd.prog 4 #[.int .i64 bits, c.val, d.val, .int .u32 a] w (LawPost w) := by
  have HE := hide hE
  clear hE
  have HFI := hide (fun W => first_any c hc W)
  have HLA := hide (fun W => last_any c hc W)
  have HMR := hide (fun W => mayR_any c hc W)
  have HMC := hide (fun W => may_any c hc W)
  have HMA := hide (fun W => mask_any bits W)
  have HMB := hide (fun W => maskR_any bits W)
  have HIC := hide (fun W => in_any c hc a ha W)
  have HIR := hide (fun W => inR_any c hc a ha W)
  have HCD := hide (fun W => covers_any c d hc hd W)
  have HCR := hide (fun W => coversR_any c d hc hd W)
  have HLR := hide (fun (ho : Ok c) W => lastR_any c hc ho W)
  generalize 4294967296 - sz bits = mk at *
  generalize inB c a = ic at *
  generalize coversB c d = cd at *
  have HB0 : Hid (Below w.heap.size w ((w.alloc (.cells #[.int .u32 c.a, .int .i64 c.b] 24)).alloc (.cells #[.int .u32 d.a, .int .i64 d.b] 24))) := hide (((Below.refl _ _).alloc (Nat.le_refl _) _).alloc (by simp) _)
  have HX0 : Hid (BoxAt ((w.alloc (.cells #[.int .u32 c.a, .int .i64 c.b] 24)).alloc (.cells #[.int .u32 d.a, .int .i64 d.b] 24)) w.heap.size c.a c.b) := hide ((BoxAt.new w c.a c.b).below_b ((Below.refl _ _).alloc (Nat.le_refl _) _))
  have HY0 : Hid (BoxAt ((w.alloc (.cells #[.int .u32 c.a, .int .i64 c.b] 24)).alloc (.cells #[.int .u32 d.a, .int .i64 d.b] 24)) (w.heap.size + 1) d.a d.b) := hide (by
    have := BoxAt.new (w.alloc (.cells #[.int .u32 c.a, .int .i64 c.b] 24)) d.a d.b
    rw [World.size_alloc] at this
    exact this)
  have HHA : mayB c = true → c.b < 32 → Hid (∀ W : World, Calls Tryd.prog 22 #[c.val] W (fun e w' => ∃ v, e = .returned (.tuple #[v, .bool true]) ∧ Below W.heap.size W w' ∧ CRow w' W.heap.size v [lowOf c, highOf c])) := fun hm hb => hide (fun W => (halves_yes c hc ((mayB_iff c).1 hm) hb W).mono (by rintro e w' ⟨v, rfl, hR, hB⟩; exact ⟨v, rfl, hB, hR⟩))
  have HHN : mayB c = false ∨ c.b = 32 → Hid (∀ W : World, Calls Tryd.prog 22 #[c.val] W (fun e w' => e = .returned (.tuple #[.slice none 0 0, .bool false]) ∧ Below W.heap.size W w')) := fun h => hide (fun W => halves_no c hc h W)
  cases hm : mayB c with
  | false =>
    have HHQ := HHN (.inl hm)
    rw [hm] at HMR HMC HFI HLA
    clear HHA HHN hm HLR
    obtain ⟨ca, cb⟩ := c
    obtain ⟨da, db⟩ := d
    unfold Net.val at *
    dsimp only at *
    clear hc hd ha
    go_enter Tryd.func4, Tryd.ntmps4
    go_wp2_with fail
    have HXc := hide HX0.out
    have HXd := hide HY0.out
    have HBs := hide HB0.out
    clear HX0 HY0 HB0
    generalize ((w.alloc (.cells #[.int .u32 ca, .int .i64 cb] 24)).alloc (.cells #[.int .u32 da, .int .i64 db] 24)) = W0 at *
    obtain ⟨g, hg⟩ : ∃ g, w.heap.size = g := ⟨_, rfl⟩
    rw [hg] at HXc HXd ⊢
    clear hg
    simp only [Bool.false_eq_true, if_false] at HFI HLA
    have c0c := HXc.out.c0
    have c1c := HXc.out.c1
    refine (HFI.out _).mono ?_
    rintro e w1_ ⟨rfl, hB⟩
    clear c0c c1c
    have HXc1 := hide (HXc.out.below_b hB)
    have HXd1 := hide (HXd.out.below_b hB)
    have HB1_ := hide (HBs.out.trans (hB.mono HBs.out.size))
    clear hB
    have c0c := HXc1.out.c0
    have c1c := HXc1.out.c1
    go_wp2_with fail
    refine (HLA.out _).mono ?_
    rintro e w2_ ⟨rfl, hB⟩
    clear c0c c1c
    have HXc2 := hide (HXc1.out.below_b hB)
    have HXd2 := hide (HXd1.out.below_b hB)
    have HB2_ := hide (HB1_.out.trans (hB.mono HB1_.out.size))
    clear hB
    have c0c := HXc2.out.c0
    have c1c := HXc2.out.c1
    go_wp2_with fail
    refine (HHQ.out _).mono ?_
    rintro e w3_ ⟨rfl, hB⟩
    clear c0c c1c
    have HXc3 := hide (HXc2.out.below_b hB)
    have HXd3 := hide (HXd2.out.below_b hB)
    have HB3_ := hide (HB2_.out.trans (hB.mono HB2_.out.size))
    clear hB
    have c0c := HXc3.out.c0
    have c1c := HXc3.out.c1
    go_wp2_with fail
    refine (HMR.out _).mono ?_
    rintro e w4_ ⟨rfl, hB⟩
    clear c0c c1c
    have HXc4 := hide (HXc3.out.below_b hB)
    have HXd4 := hide (HXd3.out.below_b hB)
    have HB4_ := hide (HB3_.out.trans (hB.mono HB3_.out.size))
    clear hB
    go_wp2_with fail
    have HMP : Hid (∀ W : World, Calls Tryd.prog 24 #[.int .i64 bits] W (fun e w' => e = .returned (.int .u32 (mk : Nat)) ∧ Below W.heap.size W w')) := hide (fun W => (HMA.out W).mono (by rintro e w' ⟨rfl, rfl⟩; exact ⟨rfl, Below.refl _ _⟩))
    have HMQ : Hid (∀ W : World, Calls Tryd.prog 25 #[.int .i64 bits] W (fun e w' => e = .returned (.int .u32 (mk : Nat)) ∧ Below W.heap.size W w')) := hide (fun W => (HMB.out W).mono (by rintro e w' ⟨rfl, rfl⟩; exact ⟨rfl, Below.refl _ _⟩))
    refine wp_region_held_drew (S := fun w' => Below w4_.heap.size w4_ w') (by kernel_rfl) ((Below.refl _ _).drew) (fun hHeld => ?_)
    refine wpAnyH_take (i := 0) (oi := { dst := some 34, op := Op.move (Operand.tmp 0), type := 3, pos := "law.go:38", after := #[], guard := none }) (v := ?_) rfl (by kernel_rfl) (by kernel_rfl) (by kernel_rfl) (fun _ _ _ h => h) (Or.inl ⟨by rfl, ?_⟩) hHeld ?_
    rotate_left
    · intro w hSw; (try dsimp only at hSw); go_simp; first | done | with_reducible rfl
    try simp only [Act.put, List.setIfInBounds_toArray, List.set_cons_zero, List.set_cons_succ]
    refine wpAnyH_take (i := 2) (oi := { dst := some 36, op := Op.move (Operand.tmp 0), type := 3, pos := "law.go:38", after := #[], guard := none }) (v := ?_) rfl (by kernel_rfl) (by kernel_rfl) (by kernel_rfl) (fun _ _ _ h => h) (Or.inl ⟨by rfl, ?_⟩) hHeld ?_
    rotate_left
    · intro w hSw; (try dsimp only at hSw); go_simp; first | done | with_reducible rfl
    try simp only [Act.put, List.setIfInBounds_toArray, List.set_cons_zero, List.set_cons_succ]
    refine wpAnyH_ready (rs := [1]) (by kernel_rfl) (by simp) ?_
    refine AllReadyH.cons (o := { dst := some 35, op := Op.call { callee := Callee.value (Operand.func 24), args := #[Operand.tmp 34], argTypes := #[3] }, type := 22, pos := "law.go:38", after := #[{ on := 0, ground := Ground.data }], guard := none }) rfl (fun K hK => ?_) AllReadyH.nil
    clear hHeld
    go_simp
    refine (HMP.out _).mono ?_
    rintro e wr1 ⟨rfl, hB⟩
    have HR1 := hide (((Below.refl w4_.heap.size w4_).drew).trans (hB.mono ((Below.refl w4_.heap.size w4_).drew).size))
    clear hB
    refine hK.out _ _ (HR1.out) (fun hHeld => ?_)
    clear hK K
    try simp only [Act.put, List.setIfInBounds_toArray, List.set_cons_zero, List.set_cons_succ]
    refine wpAnyH_ready (rs := [3]) (by kernel_rfl) (by simp) ?_
    refine AllReadyH.cons (o := { dst := some 37, op := Op.call { callee := Callee.value (Operand.func 25), args := #[Operand.tmp 36], argTypes := #[3] }, type := 22, pos := "law.go:38", after := #[{ on := 2, ground := Ground.data }, { on := 1, ground := Ground.chain }], guard := none }) rfl (fun K hK => ?_) AllReadyH.nil
    clear hHeld
    go_simp
    refine (HMQ.out _).mono ?_
    rintro e wr2 ⟨rfl, hB⟩
    have HR2 := hide (HR1.out.trans (hB.mono HR1.out.size))
    clear hB
    refine hK.out _ _ (HR2.out) (fun hHeld => ?_)
    clear hK K
    try simp only [Act.put, List.setIfInBounds_toArray, List.set_cons_zero, List.set_cons_succ]
    refine wpAnyH_take (i := 4) (oi := { dst := some 38, op := Op.binOp BinOp.neq 22 (Operand.tmp 35) (Operand.tmp 37) 22, type := 4, pos := "law.go:38", after := #[{ on := 1, ground := Ground.data }, { on := 3, ground := Ground.data }], guard := none }) (v := ?_) rfl (by kernel_rfl) (by kernel_rfl) (by kernel_rfl) (fun _ _ _ h => h) (Or.inl ⟨by rfl, ?_⟩) hHeld ?_
    rotate_left
    · intro w hSw; (try dsimp only at hSw); go_simp; first | done | with_reducible rfl
    try simp only [Act.put, List.setIfInBounds_toArray, List.set_cons_zero, List.set_cons_succ]
    refine wpAnyH_take (i := 5) (oi := { dst := some 39, op := Op.move (Operand.tmp 38), type := 4, pos := "law.go:38", after := #[{ on := 4, ground := Ground.data }, { on := 3, ground := Ground.chain }], guard := none }) (v := ?_) rfl (by kernel_rfl) (by kernel_rfl) (by kernel_rfl) (fun _ _ _ h => h) (Or.inl ⟨by rfl, ?_⟩) hHeld ?_
    rotate_left
    · intro w hSw; (try dsimp only at hSw); go_simp; first | done | with_reducible rfl
    try simp only [Act.put, List.setIfInBounds_toArray, List.set_cons_zero, List.set_cons_succ]
    refine wpAnyH_take (i := 6) (oi := { dst := some 40, op := Op.load 24 (Operand.tmp 5), type := 24, pos := "law.go:38", after := #[{ on := 5, ground := Ground.guard }], guard := some (5, false) }) (v := ?_) rfl (by kernel_rfl) (by kernel_rfl) (by kernel_rfl) (fun _ _ _ h => h) (Or.inl ⟨by rfl, ?_⟩) hHeld ?_
    rotate_left
    · intro w hSw; (try dsimp only at hSw); have e0 := (hSw.cell (p := ⟨g, 0, none⟩) HXc4.out.lt).trans HXc4.out.c0; have e1 := (hSw.cell (p := ⟨g, 1, none⟩) HXc4.out.lt).trans HXc4.out.c1; have e2 := (hSw.cell (p := ⟨g + 1, 0, none⟩) HXd4.out.lt).trans HXd4.out.c0; have e3 := (hSw.cell (p := ⟨g + 1, 1, none⟩) HXd4.out.lt).trans HXd4.out.c1; go_simp; first | done | with_reducible rfl
    try simp only [Act.put, List.setIfInBounds_toArray, List.set_cons_zero, List.set_cons_succ]
    refine wpAnyH_take (i := 8) (oi := { dst := some 42, op := Op.move (Operand.tmp 15), type := 4, pos := "law.go:38", after := #[{ on := 5, ground := Ground.guard }], guard := some (5, false) }) (v := ?_) rfl (by kernel_rfl) (by kernel_rfl) (by kernel_rfl) (fun _ _ _ h => h) (Or.inl ⟨by rfl, ?_⟩) hHeld ?_
    rotate_left
    · intro w hSw; (try dsimp only at hSw); go_simp; first | done | with_reducible rfl
    try simp only [Act.put, List.setIfInBounds_toArray, List.set_cons_zero, List.set_cons_succ]
    refine wpAnyH_ready (rs := [7]) (by kernel_rfl) (by simp) ?_
    refine AllReadyH.cons (o := { dst := some 41, op := Op.call { callee := Callee.value (Operand.func 26), args := #[Operand.tmp 40], argTypes := #[24] }, type := 4, pos := "law.go:38", after := #[{ on := 6, ground := Ground.data }, { on := 5, ground := Ground.chain }, { on := 5, ground := Ground.guard }], guard := some (5, false) }) rfl (fun K hK => ?_) AllReadyH.nil
    clear hHeld
    go_simp
    refine (HMC.out _).mono ?_
    rintro e wr3 ⟨rfl, hB⟩
    have HR3 := hide (HR2.out.trans (hB.mono HR2.out.size))
    clear hB
    refine hK.out _ _ (HR3.out) (fun hHeld => ?_)
    clear hK K
    try simp only [Act.put, List.setIfInBounds_toArray, List.set_cons_zero, List.set_cons_succ]
    refine wpAnyH_take (i := 9) (oi := { dst := some 43, op := Op.binOp BinOp.neq 4 (Operand.tmp 41) (Operand.tmp 42) 4, type := 4, pos := "law.go:38", after := #[{ on := 7, ground := Ground.data }, { on := 8, ground := Ground.data }, { on := 5, ground := Ground.guard }], guard := some (5, false) }) (v := ?_) rfl (by kernel_rfl) (by kernel_rfl) (by kernel_rfl) (fun _ _ _ h => h) (Or.inl ⟨by rfl, ?_⟩) hHeld ?_
    rotate_left
    · intro w hSw; (try dsimp only at hSw); go_simp; first | done | with_reducible rfl
    try simp only [Act.put, List.setIfInBounds_toArray, List.set_cons_zero, List.set_cons_succ]
    refine wpAnyH_take (i := 10) (oi := { dst := some 44, op := Op.pick (Operand.tmp 39) (Operand.const (Value.bool true)) (Operand.tmp 43), type := 4, pos := "law.go:38", after := #[{ on := 5, ground := Ground.data }, { on := 9, ground := Ground.data }], guard := none }) (v := ?_) rfl (by kernel_rfl) (by kernel_rfl) (by kernel_rfl) (fun _ _ _ h => h) (Or.inl ⟨by rfl, ?_⟩) hHeld ?_
    rotate_left
    · intro w hSw; (try dsimp only at hSw); go_simp; first | done | with_reducible rfl
    try simp only [Act.put, List.setIfInBounds_toArray, List.set_cons_zero, List.set_cons_succ]
    refine wpAnyH_take (i := 11) (oi := { dst := some 45, op := Op.move (Operand.tmp 44), type := 4, pos := "law.go:38", after := #[{ on := 10, ground := Ground.data }, { on := 7, ground := Ground.chain }], guard := none }) (v := ?_) rfl (by kernel_rfl) (by kernel_rfl) (by kernel_rfl) (fun _ _ _ h => h) (Or.inl ⟨by rfl, ?_⟩) hHeld ?_
    rotate_left
    · intro w hSw; (try dsimp only at hSw); go_simp; first | done | with_reducible rfl
    try simp only [Act.put, List.setIfInBounds_toArray, List.set_cons_zero, List.set_cons_succ]
    refine wpAnyH_take (i := 12) (oi := { dst := some 46, op := Op.load 24 (Operand.tmp 5), type := 24, pos := "law.go:38", after := #[{ on := 11, ground := Ground.guard }], guard := some (11, false) }) (v := ?_) rfl (by kernel_rfl) (by kernel_rfl) (by kernel_rfl) (fun _ _ _ h => h) (Or.inl ⟨by rfl, ?_⟩) hHeld ?_
    rotate_left
    · intro w hSw; (try dsimp only at hSw); have e0 := (hSw.cell (p := ⟨g, 0, none⟩) HXc4.out.lt).trans HXc4.out.c0; have e1 := (hSw.cell (p := ⟨g, 1, none⟩) HXc4.out.lt).trans HXc4.out.c1; have e2 := (hSw.cell (p := ⟨g + 1, 0, none⟩) HXd4.out.lt).trans HXd4.out.c0; have e3 := (hSw.cell (p := ⟨g + 1, 1, none⟩) HXd4.out.lt).trans HXd4.out.c1; go_simp; first | done | with_reducible rfl
    try simp only [Act.put, List.setIfInBounds_toArray, List.set_cons_zero, List.set_cons_succ]
    refine wpAnyH_take (i := 13) (oi := { dst := some 47, op := Op.move (Operand.tmp 3), type := 22, pos := "law.go:38", after := #[{ on := 11, ground := Ground.guard }], guard := some (11, false) }) (v := ?_) rfl (by kernel_rfl) (by kernel_rfl) (by kernel_rfl) (fun _ _ _ h => h) (Or.inl ⟨by rfl, ?_⟩) hHeld ?_
    rotate_left
    · intro w hSw; (try dsimp only at hSw); go_simp; first | done | with_reducible rfl
    try simp only [Act.put, List.setIfInBounds_toArray, List.set_cons_zero, List.set_cons_succ]
    refine wpAnyH_take (i := 15) (oi := { dst := some 49, op := Op.load 24 (Operand.tmp 5), type := 24, pos := "law.go:38", after := #[{ on := 11, ground := Ground.guard }], guard := some (11, false) }) (v := ?_) rfl (by kernel_rfl) (by kernel_rfl) (by kernel_rfl) (fun _ _ _ h => h) (Or.inl ⟨by rfl, ?_⟩) hHeld ?_
    rotate_left
    · intro w hSw; (try dsimp only at hSw); have e0 := (hSw.cell (p := ⟨g, 0, none⟩) HXc4.out.lt).trans HXc4.out.c0; have e1 := (hSw.cell (p := ⟨g, 1, none⟩) HXc4.out.lt).trans HXc4.out.c1; have e2 := (hSw.cell (p := ⟨g + 1, 0, none⟩) HXd4.out.lt).trans HXd4.out.c0; have e3 := (hSw.cell (p := ⟨g + 1, 1, none⟩) HXd4.out.lt).trans HXd4.out.c1; go_simp; first | done | with_reducible rfl
    try simp only [Act.put, List.setIfInBounds_toArray, List.set_cons_zero, List.set_cons_succ]
    refine wpAnyH_take (i := 16) (oi := { dst := some 50, op := Op.move (Operand.tmp 3), type := 22, pos := "law.go:38", after := #[{ on := 11, ground := Ground.guard }], guard := some (11, false) }) (v := ?_) rfl (by kernel_rfl) (by kernel_rfl) (by kernel_rfl) (fun _ _ _ h => h) (Or.inl ⟨by rfl, ?_⟩) hHeld ?_
    rotate_left
    · intro w hSw; (try dsimp only at hSw); go_simp; first | done | with_reducible rfl
    try simp only [Act.put, List.setIfInBounds_toArray, List.set_cons_zero, List.set_cons_succ]
    refine wpAnyH_ready (rs := [14]) (by kernel_rfl) (by simp) ?_
    refine AllReadyH.cons (o := { dst := some 48, op := Op.call { callee := Callee.value (Operand.func 27), args := #[Operand.tmp 46, Operand.tmp 47], argTypes := #[24, 22] }, type := 4, pos := "law.go:38", after := #[{ on := 12, ground := Ground.data }, { on := 13, ground := Ground.data }, { on := 11, ground := Ground.chain }, { on := 11, ground := Ground.guard }], guard := some (11, false) }) rfl (fun K hK => ?_) AllReadyH.nil
    clear hHeld
    go_simp
    refine (HIC.out _).mono ?_
    rintro e wr4 ⟨rfl, hB⟩
    have HR4 := hide (HR3.out.trans (hB.mono HR3.out.size))
    clear hB
    refine hK.out _ _ (HR4.out) (fun hHeld => ?_)
    clear hK K
    try simp only [Act.put, List.setIfInBounds_toArray, List.set_cons_zero, List.set_cons_succ]
    refine wpAnyH_ready (rs := [17]) (by kernel_rfl) (by simp) ?_
    refine AllReadyH.cons (o := { dst := some 51, op := Op.call { callee := Callee.value (Operand.func 28), args := #[Operand.tmp 49, Operand.tmp 50], argTypes := #[24, 22] }, type := 4, pos := "law.go:38", after := #[{ on := 15, ground := Ground.data }, { on := 16, ground := Ground.data }, { on := 14, ground := Ground.chain }, { on := 11, ground := Ground.guard }], guard := some (11, false) }) rfl (fun K hK => ?_) AllReadyH.nil
    clear hHeld
    go_simp
    refine (HIR.out _).mono ?_
    rintro e wr5 ⟨rfl, hB⟩
    have HR5 := hide (HR4.out.trans (hB.mono HR4.out.size))
    clear hB
    refine hK.out _ _ (HR5.out) (fun hHeld => ?_)
    clear hK K
    try simp only [Act.put, List.setIfInBounds_toArray, List.set_cons_zero, List.set_cons_succ]
    refine wpAnyH_take (i := 18) (oi := { dst := some 52, op := Op.binOp BinOp.neq 4 (Operand.tmp 48) (Operand.tmp 51) 4, type := 4, pos := "law.go:38", after := #[{ on := 14, ground := Ground.data }, { on := 17, ground := Ground.data }, { on := 11, ground := Ground.guard }], guard := some (11, false) }) (v := ?_) rfl (by kernel_rfl) (by kernel_rfl) (by kernel_rfl) (fun _ _ _ h => h) (Or.inl ⟨by rfl, ?_⟩) hHeld ?_
    rotate_left
    · intro w hSw; (try dsimp only at hSw); go_simp; first | done | with_reducible rfl
    try simp only [Act.put, List.setIfInBounds_toArray, List.set_cons_zero, List.set_cons_succ]
    refine wpAnyH_take (i := 19) (oi := { dst := some 53, op := Op.pick (Operand.tmp 45) (Operand.const (Value.bool true)) (Operand.tmp 52), type := 4, pos := "law.go:38", after := #[{ on := 11, ground := Ground.data }, { on := 18, ground := Ground.data }], guard := none }) (v := ?_) rfl (by kernel_rfl) (by kernel_rfl) (by kernel_rfl) (fun _ _ _ h => h) (Or.inl ⟨by rfl, ?_⟩) hHeld ?_
    rotate_left
    · intro w hSw; (try dsimp only at hSw); go_simp; first | done | with_reducible rfl
    try simp only [Act.put, List.setIfInBounds_toArray, List.set_cons_zero, List.set_cons_succ]
    refine wpAnyH_take (i := 20) (oi := { dst := some 54, op := Op.move (Operand.tmp 53), type := 4, pos := "law.go:38", after := #[{ on := 19, ground := Ground.data }, { on := 17, ground := Ground.chain }], guard := none }) (v := ?_) rfl (by kernel_rfl) (by kernel_rfl) (by kernel_rfl) (fun _ _ _ h => h) (Or.inl ⟨by rfl, ?_⟩) hHeld ?_
    rotate_left
    · intro w hSw; (try dsimp only at hSw); go_simp; first | done | with_reducible rfl
    try simp only [Act.put, List.setIfInBounds_toArray, List.set_cons_zero, List.set_cons_succ]
    refine wpAnyH_take (i := 21) (oi := { dst := some 55, op := Op.load 24 (Operand.tmp 5), type := 24, pos := "law.go:38", after := #[{ on := 20, ground := Ground.guard }], guard := some (20, false) }) (v := ?_) rfl (by kernel_rfl) (by kernel_rfl) (by kernel_rfl) (fun _ _ _ h => h) (Or.inl ⟨by rfl, ?_⟩) hHeld ?_
    rotate_left
    · intro w hSw; (try dsimp only at hSw); have e0 := (hSw.cell (p := ⟨g, 0, none⟩) HXc4.out.lt).trans HXc4.out.c0; have e1 := (hSw.cell (p := ⟨g, 1, none⟩) HXc4.out.lt).trans HXc4.out.c1; have e2 := (hSw.cell (p := ⟨g + 1, 0, none⟩) HXd4.out.lt).trans HXd4.out.c0; have e3 := (hSw.cell (p := ⟨g + 1, 1, none⟩) HXd4.out.lt).trans HXd4.out.c1; go_simp; first | done | with_reducible rfl
    try simp only [Act.put, List.setIfInBounds_toArray, List.set_cons_zero, List.set_cons_succ]
    refine wpAnyH_take (i := 22) (oi := { dst := some 56, op := Op.load 24 (Operand.tmp 6), type := 24, pos := "law.go:38", after := #[{ on := 20, ground := Ground.guard }], guard := some (20, false) }) (v := ?_) rfl (by kernel_rfl) (by kernel_rfl) (by kernel_rfl) (fun _ _ _ h => h) (Or.inl ⟨by rfl, ?_⟩) hHeld ?_
    rotate_left
    · intro w hSw; (try dsimp only at hSw); have e0 := (hSw.cell (p := ⟨g, 0, none⟩) HXc4.out.lt).trans HXc4.out.c0; have e1 := (hSw.cell (p := ⟨g, 1, none⟩) HXc4.out.lt).trans HXc4.out.c1; have e2 := (hSw.cell (p := ⟨g + 1, 0, none⟩) HXd4.out.lt).trans HXd4.out.c0; have e3 := (hSw.cell (p := ⟨g + 1, 1, none⟩) HXd4.out.lt).trans HXd4.out.c1; go_simp; first | done | with_reducible rfl
    try simp only [Act.put, List.setIfInBounds_toArray, List.set_cons_zero, List.set_cons_succ]
    refine wpAnyH_take (i := 24) (oi := { dst := some 58, op := Op.load 24 (Operand.tmp 5), type := 24, pos := "law.go:38", after := #[{ on := 20, ground := Ground.guard }], guard := some (20, false) }) (v := ?_) rfl (by kernel_rfl) (by kernel_rfl) (by kernel_rfl) (fun _ _ _ h => h) (Or.inl ⟨by rfl, ?_⟩) hHeld ?_
    rotate_left
    · intro w hSw; (try dsimp only at hSw); have e0 := (hSw.cell (p := ⟨g, 0, none⟩) HXc4.out.lt).trans HXc4.out.c0; have e1 := (hSw.cell (p := ⟨g, 1, none⟩) HXc4.out.lt).trans HXc4.out.c1; have e2 := (hSw.cell (p := ⟨g + 1, 0, none⟩) HXd4.out.lt).trans HXd4.out.c0; have e3 := (hSw.cell (p := ⟨g + 1, 1, none⟩) HXd4.out.lt).trans HXd4.out.c1; go_simp; first | done | with_reducible rfl
    try simp only [Act.put, List.setIfInBounds_toArray, List.set_cons_zero, List.set_cons_succ]
    refine wpAnyH_take (i := 25) (oi := { dst := some 59, op := Op.load 24 (Operand.tmp 6), type := 24, pos := "law.go:38", after := #[{ on := 20, ground := Ground.guard }], guard := some (20, false) }) (v := ?_) rfl (by kernel_rfl) (by kernel_rfl) (by kernel_rfl) (fun _ _ _ h => h) (Or.inl ⟨by rfl, ?_⟩) hHeld ?_
    rotate_left
    · intro w hSw; (try dsimp only at hSw); have e0 := (hSw.cell (p := ⟨g, 0, none⟩) HXc4.out.lt).trans HXc4.out.c0; have e1 := (hSw.cell (p := ⟨g, 1, none⟩) HXc4.out.lt).trans HXc4.out.c1; have e2 := (hSw.cell (p := ⟨g + 1, 0, none⟩) HXd4.out.lt).trans HXd4.out.c0; have e3 := (hSw.cell (p := ⟨g + 1, 1, none⟩) HXd4.out.lt).trans HXd4.out.c1; go_simp; first | done | with_reducible rfl
    try simp only [Act.put, List.setIfInBounds_toArray, List.set_cons_zero, List.set_cons_succ]
    refine wpAnyH_ready (rs := [23]) (by kernel_rfl) (by simp) ?_
    refine AllReadyH.cons (o := { dst := some 57, op := Op.call { callee := Callee.value (Operand.func 29), args := #[Operand.tmp 55, Operand.tmp 56], argTypes := #[24, 24] }, type := 4, pos := "law.go:38", after := #[{ on := 21, ground := Ground.data }, { on := 22, ground := Ground.data }, { on := 20, ground := Ground.chain }, { on := 20, ground := Ground.guard }], guard := some (20, false) }) rfl (fun K hK => ?_) AllReadyH.nil
    clear hHeld
    go_simp
    refine (HCD.out _).mono ?_
    rintro e wr6 ⟨rfl, hB⟩
    have HR6 := hide (HR5.out.trans (hB.mono HR5.out.size))
    clear hB
    refine hK.out _ _ (HR6.out) (fun hHeld => ?_)
    clear hK K
    try simp only [Act.put, List.setIfInBounds_toArray, List.set_cons_zero, List.set_cons_succ]
    refine wpAnyH_ready (rs := [26]) (by kernel_rfl) (by simp) ?_
    refine AllReadyH.cons (o := { dst := some 60, op := Op.call { callee := Callee.value (Operand.func 30), args := #[Operand.tmp 58, Operand.tmp 59], argTypes := #[24, 24] }, type := 4, pos := "law.go:38", after := #[{ on := 24, ground := Ground.data }, { on := 25, ground := Ground.data }, { on := 23, ground := Ground.chain }, { on := 20, ground := Ground.guard }], guard := some (20, false) }) rfl (fun K hK => ?_) AllReadyH.nil
    clear hHeld
    go_simp
    refine (HCR.out _).mono ?_
    rintro e wr7 ⟨rfl, hB⟩
    have HR7 := hide (HR6.out.trans (hB.mono HR6.out.size))
    clear hB
    refine hK.out _ _ (HR7.out) (fun hHeld => ?_)
    clear hK K
    try simp only [Act.put, List.setIfInBounds_toArray, List.set_cons_zero, List.set_cons_succ]
    refine wpAnyH_take (i := 27) (oi := { dst := some 61, op := Op.binOp BinOp.neq 4 (Operand.tmp 57) (Operand.tmp 60) 4, type := 4, pos := "law.go:38", after := #[{ on := 23, ground := Ground.data }, { on := 26, ground := Ground.data }, { on := 20, ground := Ground.guard }], guard := some (20, false) }) (v := ?_) rfl (by kernel_rfl) (by kernel_rfl) (by kernel_rfl) (fun _ _ _ h => h) (Or.inl ⟨by rfl, ?_⟩) hHeld ?_
    rotate_left
    · intro w hSw; (try dsimp only at hSw); go_simp; first | done | with_reducible rfl
    try simp only [Act.put, List.setIfInBounds_toArray, List.set_cons_zero, List.set_cons_succ]
    refine wpAnyH_take (i := 28) (oi := { dst := some 62, op := Op.pick (Operand.tmp 54) (Operand.const (Value.bool true)) (Operand.tmp 61), type := 4, pos := "law.go:38", after := #[{ on := 20, ground := Ground.data }, { on := 27, ground := Ground.data }], guard := none }) (v := ?_) rfl (by kernel_rfl) (by kernel_rfl) (by kernel_rfl) (fun _ _ _ h => h) (Or.inl ⟨by rfl, ?_⟩) hHeld ?_
    rotate_left
    · intro w hSw; (try dsimp only at hSw); go_simp; first | done | with_reducible rfl
    try simp only [Act.put, List.setIfInBounds_toArray, List.set_cons_zero, List.set_cons_succ]
    refine wpAnyH_take (i := 29) (oi := { dst := some 63, op := Op.move (Operand.tmp 62), type := 4, pos := "law.go:38", after := #[{ on := 28, ground := Ground.data }, { on := 26, ground := Ground.chain }], guard := none }) (v := ?_) rfl (by kernel_rfl) (by kernel_rfl) (by kernel_rfl) (fun _ _ _ h => h) (Or.inl ⟨by rfl, ?_⟩) hHeld ?_
    rotate_left
    · intro w hSw; (try dsimp only at hSw); go_simp; first | done | with_reducible rfl
    try simp only [Act.put, List.setIfInBounds_toArray, List.set_cons_zero, List.set_cons_succ]
    refine wpAnyH_take (i := 30) (oi := { dst := some 64, op := Op.move (Operand.tmp 10), type := 4, pos := "law.go:38", after := #[{ on := 29, ground := Ground.guard }], guard := some (29, false) }) (v := ?_) rfl (by kernel_rfl) (by kernel_rfl) (by kernel_rfl) (fun _ _ _ h => h) (Or.inl ⟨by rfl, ?_⟩) hHeld ?_
    rotate_left
    · intro w hSw; (try dsimp only at hSw); go_simp; first | done | with_reducible rfl
    try simp only [Act.put, List.setIfInBounds_toArray, List.set_cons_zero, List.set_cons_succ]
    refine wpAnyH_take (i := 31) (oi := { dst := some 65, op := Op.move (Operand.tmp 15), type := 4, pos := "law.go:38", after := #[{ on := 29, ground := Ground.guard }], guard := some (29, false) }) (v := ?_) rfl (by kernel_rfl) (by kernel_rfl) (by kernel_rfl) (fun _ _ _ h => h) (Or.inl ⟨by rfl, ?_⟩) hHeld ?_
    rotate_left
    · intro w hSw; (try dsimp only at hSw); go_simp; first | done | with_reducible rfl
    try simp only [Act.put, List.setIfInBounds_toArray, List.set_cons_zero, List.set_cons_succ]
    refine wpAnyH_take (i := 32) (oi := { dst := some 66, op := Op.binOp BinOp.neq 4 (Operand.tmp 64) (Operand.tmp 65) 4, type := 4, pos := "law.go:38", after := #[{ on := 30, ground := Ground.data }, { on := 31, ground := Ground.data }, { on := 29, ground := Ground.guard }], guard := some (29, false) }) (v := ?_) rfl (by kernel_rfl) (by kernel_rfl) (by kernel_rfl) (fun _ _ _ h => h) (Or.inl ⟨by rfl, ?_⟩) hHeld ?_
    rotate_left
    · intro w hSw; (try dsimp only at hSw); go_simp; first | done | with_reducible rfl
    try simp only [Act.put, List.setIfInBounds_toArray, List.set_cons_zero, List.set_cons_succ]
    refine wpAnyH_take (i := 33) (oi := { dst := some 67, op := Op.pick (Operand.tmp 63) (Operand.const (Value.bool true)) (Operand.tmp 66), type := 4, pos := "law.go:38", after := #[{ on := 29, ground := Ground.data }, { on := 32, ground := Ground.data }], guard := none }) (v := ?_) rfl (by kernel_rfl) (by kernel_rfl) (by kernel_rfl) (fun _ _ _ h => h) (Or.inl ⟨by rfl, ?_⟩) hHeld ?_
    rotate_left
    · intro w hSw; (try dsimp only at hSw); go_simp; first | done | with_reducible rfl
    try simp only [Act.put, List.setIfInBounds_toArray, List.set_cons_zero, List.set_cons_succ]
    refine wpAnyH_take (i := 34) (oi := { dst := some 68, op := Op.move (Operand.tmp 67), type := 4, pos := "law.go:38", after := #[{ on := 33, ground := Ground.data }, { on := 29, ground := Ground.chain }], guard := none }) (v := ?_) rfl (by kernel_rfl) (by kernel_rfl) (by kernel_rfl) (fun _ _ _ h => h) (Or.inl ⟨by rfl, ?_⟩) hHeld ?_
    rotate_left
    · intro w hSw; (try dsimp only at hSw); go_simp; first | done | with_reducible rfl
    try simp only [Act.put, List.setIfInBounds_toArray, List.set_cons_zero, List.set_cons_succ]
    refine wpAnyH_take (i := 35) (oi := { dst := some 69, op := Op.move (Operand.tmp 12), type := 4, pos := "law.go:38", after := #[{ on := 34, ground := Ground.guard }], guard := some (34, false) }) (v := ?_) rfl (by kernel_rfl) (by kernel_rfl) (by kernel_rfl) (fun _ _ _ h => h) (Or.inl ⟨by rfl, ?_⟩) hHeld ?_
    rotate_left
    · intro w hSw; (try dsimp only at hSw); go_simp; first | done | with_reducible rfl
    try simp only [Act.put, List.setIfInBounds_toArray, List.set_cons_zero, List.set_cons_succ]
    refine wpAnyH_take (i := 36) (oi := { dst := some 70, op := Op.move (Operand.tmp 15), type := 4, pos := "law.go:38", after := #[{ on := 34, ground := Ground.guard }], guard := some (34, false) }) (v := ?_) rfl (by kernel_rfl) (by kernel_rfl) (by kernel_rfl) (fun _ _ _ h => h) (Or.inl ⟨by rfl, ?_⟩) hHeld ?_
    rotate_left
    · intro w hSw; (try dsimp only at hSw); go_simp; first | done | with_reducible rfl
    try simp only [Act.put, List.setIfInBounds_toArray, List.set_cons_zero, List.set_cons_succ]
    refine wpAnyH_take (i := 37) (oi := { dst := some 71, op := Op.binOp BinOp.neq 4 (Operand.tmp 69) (Operand.tmp 70) 4, type := 4, pos := "law.go:38", after := #[{ on := 35, ground := Ground.data }, { on := 36, ground := Ground.data }, { on := 34, ground := Ground.guard }], guard := some (34, false) }) (v := ?_) rfl (by kernel_rfl) (by kernel_rfl) (by kernel_rfl) (fun _ _ _ h => h) (Or.inl ⟨by rfl, ?_⟩) hHeld ?_
    rotate_left
    · intro w hSw; (try dsimp only at hSw); go_simp; first | done | with_reducible rfl
    try simp only [Act.put, List.setIfInBounds_toArray, List.set_cons_zero, List.set_cons_succ]
    refine wpAnyH_take (i := 38) (oi := { dst := some 72, op := Op.pick (Operand.tmp 68) (Operand.const (Value.bool true)) (Operand.tmp 71), type := 4, pos := "law.go:38", after := #[{ on := 34, ground := Ground.data }, { on := 37, ground := Ground.data }], guard := none }) (v := ?_) rfl (by kernel_rfl) (by kernel_rfl) (by kernel_rfl) (fun _ _ _ h => h) (Or.inl ⟨by rfl, ?_⟩) hHeld ?_
    rotate_left
    · intro w hSw; (try dsimp only at hSw); go_simp; first | done | with_reducible rfl
    try simp only [Act.put, List.setIfInBounds_toArray, List.set_cons_zero, List.set_cons_succ]
    refine wpAnyH_take (i := 39) (oi := { dst := some 73, op := Op.move (Operand.tmp 72), type := 4, pos := "law.go:38", after := #[{ on := 38, ground := Ground.data }, { on := 34, ground := Ground.chain }], guard := none }) (v := ?_) rfl (by kernel_rfl) (by kernel_rfl) (by kernel_rfl) (fun _ _ _ h => h) (Or.inl ⟨by rfl, ?_⟩) hHeld ?_
    rotate_left
    · intro w hSw; (try dsimp only at hSw); go_simp; first | done | with_reducible rfl
    try simp only [Act.put, List.setIfInBounds_toArray, List.set_cons_zero, List.set_cons_succ]
    refine wpAnyH_take (i := 40) (oi := { dst := some 74, op := Op.move (Operand.tmp 14), type := 4, pos := "law.go:38", after := #[{ on := 39, ground := Ground.guard }], guard := some (39, false) }) (v := ?_) rfl (by kernel_rfl) (by kernel_rfl) (by kernel_rfl) (fun _ _ _ h => h) (Or.inl ⟨by rfl, ?_⟩) hHeld ?_
    rotate_left
    · intro w hSw; (try dsimp only at hSw); go_simp; first | done | with_reducible rfl
    try simp only [Act.put, List.setIfInBounds_toArray, List.set_cons_zero, List.set_cons_succ]
    refine wpAnyH_take (i := 41) (oi := { dst := some 75, op := Op.move (Operand.tmp 15), type := 4, pos := "law.go:38", after := #[{ on := 39, ground := Ground.guard }], guard := some (39, false) }) (v := ?_) rfl (by kernel_rfl) (by kernel_rfl) (by kernel_rfl) (fun _ _ _ h => h) (Or.inl ⟨by rfl, ?_⟩) hHeld ?_
    rotate_left
    · intro w hSw; (try dsimp only at hSw); go_simp; first | done | with_reducible rfl
    try simp only [Act.put, List.setIfInBounds_toArray, List.set_cons_zero, List.set_cons_succ]
    refine wpAnyH_take (i := 42) (oi := { dst := some 76, op := Op.move (Operand.tmp 75), type := 4, pos := "law.go:38", after := #[{ on := 41, ground := Ground.data }, { on := 39, ground := Ground.chain }, { on := 39, ground := Ground.guard }], guard := some (39, false) }) (v := ?_) rfl (by kernel_rfl) (by kernel_rfl) (by kernel_rfl) (fun _ _ _ h => h) (Or.inl ⟨by rfl, ?_⟩) hHeld ?_
    rotate_left
    · intro w hSw; (try dsimp only at hSw); go_simp; first | done | with_reducible rfl
    try simp only [Act.put, List.setIfInBounds_toArray, List.set_cons_zero, List.set_cons_succ]
    refine wpAnyH_take (i := 43) (oi := { dst := some 77, op := Op.fieldAddr 24 (Operand.tmp 5) 1, type := 0, pos := "law.go:38", after := #[{ on := 42, ground := Ground.guard }], guard := some (42, true) }) (v := undef) rfl (by kernel_rfl) (by kernel_rfl) (by kernel_rfl) (fun _ _ _ h => h) (Or.inr ⟨by rfl, rfl⟩) hHeld ?_
    try simp only [Act.put, List.setIfInBounds_toArray, List.set_cons_zero, List.set_cons_succ]
    refine wpAnyH_take (i := 44) (oi := { dst := some 78, op := Op.load 3 (Operand.tmp 77), type := 3, pos := "law.go:38", after := #[{ on := 43, ground := Ground.data }, { on := 42, ground := Ground.guard }], guard := some (42, true) }) (v := undef) rfl (by kernel_rfl) (by kernel_rfl) (by kernel_rfl) (fun _ _ _ h => h) (Or.inr ⟨by rfl, rfl⟩) hHeld ?_
    try simp only [Act.put, List.setIfInBounds_toArray, List.set_cons_zero, List.set_cons_succ]
    refine wpAnyH_take (i := 45) (oi := { dst := some 79, op := Op.binOp BinOp.lss 3 (Operand.tmp 78) (Operand.const (Value.int IntKind.i64 32)) 3, type := 4, pos := "law.go:38", after := #[{ on := 44, ground := Ground.data }, { on := 42, ground := Ground.guard }], guard := some (42, true) }) (v := undef) rfl (by kernel_rfl) (by kernel_rfl) (by kernel_rfl) (fun _ _ _ h => h) (Or.inr ⟨by rfl, rfl⟩) hHeld ?_
    try simp only [Act.put, List.setIfInBounds_toArray, List.set_cons_zero, List.set_cons_succ]
    refine wpAnyH_take (i := 46) (oi := { dst := some 80, op := Op.pick (Operand.tmp 76) (Operand.tmp 79) (Operand.const (Value.bool false)), type := 4, pos := "law.go:38", after := #[{ on := 42, ground := Ground.data }, { on := 45, ground := Ground.data }, { on := 39, ground := Ground.guard }], guard := some (39, false) }) (v := ?_) rfl (by kernel_rfl) (by kernel_rfl) (by kernel_rfl) (fun _ _ _ h => h) (Or.inl ⟨by rfl, ?_⟩) hHeld ?_
    rotate_left
    · intro w hSw; (try dsimp only at hSw); go_simp; first | done | with_reducible rfl
    try simp only [Act.put, List.setIfInBounds_toArray, List.set_cons_zero, List.set_cons_succ]
    refine wpAnyH_take (i := 47) (oi := { dst := some 81, op := Op.binOp BinOp.neq 4 (Operand.tmp 74) (Operand.tmp 80) 4, type := 4, pos := "law.go:38", after := #[{ on := 40, ground := Ground.data }, { on := 46, ground := Ground.data }, { on := 39, ground := Ground.guard }], guard := some (39, false) }) (v := ?_) rfl (by kernel_rfl) (by kernel_rfl) (by kernel_rfl) (fun _ _ _ h => h) (Or.inl ⟨by rfl, ?_⟩) hHeld ?_
    rotate_left
    · intro w hSw; (try dsimp only at hSw); go_simp; first | done | with_reducible rfl
    try simp only [Act.put, List.setIfInBounds_toArray, List.set_cons_zero, List.set_cons_succ]
    refine wpAnyH_take (i := 48) (oi := { dst := some 82, op := Op.pick (Operand.tmp 73) (Operand.const (Value.bool true)) (Operand.tmp 81), type := 4, pos := "law.go:38", after := #[{ on := 39, ground := Ground.data }, { on := 47, ground := Ground.data }], guard := none }) (v := ?_) rfl (by kernel_rfl) (by kernel_rfl) (by kernel_rfl) (fun _ _ _ h => h) (Or.inl ⟨by rfl, ?_⟩) hHeld ?_
    rotate_left
    · intro w hSw; (try dsimp only at hSw); go_simp; first | done | with_reducible rfl
    try simp only [Act.put, List.setIfInBounds_toArray, List.set_cons_zero, List.set_cons_succ]
    refine wpAnyH_done (by kernel_rfl) ?_ _
    clear hHeld
    have HXc5 := hide (HXc4.out.below_b HR7.out)
    have HXd5 := hide (HXd4.out.below_b HR7.out)
    have HB5_ := hide (HB4_.out.trans (HR7.out.mono HB4_.out.size))
    go_wp2_with fail
    refine (awake_any _ (HE.out.below HB5_.out)).mono ?_
    rintro e w6_ ⟨rfl, hB⟩
    have HXc6 := hide (HXc5.out.below_b hB)
    have HXd6 := hide (HXd5.out.below_b hB)
    have HB6_ := hide (HB5_.out.trans (hB.mono HB5_.out.size))
    clear hB
    go_wp2_with fail
    go_ret
    exact ⟨rfl, HB6_.out⟩
  | true =>
    have ho := (mayB_iff c).1 hm
    have hcp := sz_pos c.b
    have HLR := hide (HLR.out ho)
    rw [hm] at HMR HMC HFI HLA
    simp only [if_true] at HFI HLA
    by_cases h32 : c.b < 32
    · have HHQ := HHA hm h32
      have hh := halves_ok ho h32
      have htop := ho.top hc
      have h32d : decide (c.b < 32) = true := by simpa using h32
      have HLL := hide (fun W => lastR_any (lowOf c) (halves_lt ho h32 hc).1 hh.1 W)
      obtain ⟨q1, q2, q3, q4, q5, q6, q7⟩ := hh
      have hlow : lowOf c = ⟨c.a, c.b + 1⟩ := Net.same q3 q6
      have hhigh : highOf c = ⟨c.a + sz (c.b + 1), c.b + 1⟩ := Net.same q4 q7
      rw [hlow, hhigh] at HHQ
      rw [hlow] at HLL
      have hzp := sz_pos (c.b + 1)
      have hw1 : IntKind.u32.wrap (((c.a + (sz (c.b + 1) - 1) : Nat) : Int) + 1) = ((c.a + sz (c.b + 1) : Nat) : Int) := by rw [IntWalk.u32_in _ (by omega)]; omega
      have hlo := ho.lo
      clear ho hlow hhigh q1 q2 q3 q4 q5 q6 q7 HHA HHN hm htop hcp hzp
      generalize c.a + (sz (c.b + 1) - 1) = y1 at *
      generalize c.a + sz (c.b + 1) = y2 at *
      generalize c.a + (sz c.b - 1) = y3 at *
      obtain ⟨ca, cb⟩ := c
      obtain ⟨da, db⟩ := d
      unfold Net.val at *
      dsimp only at *
      clear hc hd ha
      go_enter Tryd.func4, Tryd.ntmps4
      go_wp2_with fail
      have HXc := hide HX0.out
      have HXd := hide HY0.out
      have HBs := hide HB0.out
      clear HX0 HY0 HB0
      generalize ((w.alloc (.cells #[.int .u32 ca, .int .i64 cb] 24)).alloc (.cells #[.int .u32 da, .int .i64 db] 24)) = W0 at *
      obtain ⟨g, hg⟩ : ∃ g, w.heap.size = g := ⟨_, rfl⟩
      rw [hg] at HXc HXd ⊢
      clear hg
      have hb64 : IntKind.i64.wrap (cb + 1) = cb + 1 := IntWalk.i64_in _ (by omega)
      have c0c := HXc.out.c0
      have c1c := HXc.out.c1
      refine (HFI.out _).mono ?_
      rintro e w1_ ⟨rfl, hB⟩
      clear c0c c1c
      have HXc1 := hide (HXc.out.below_b hB)
      have HXd1 := hide (HXd.out.below_b hB)
      have HB1_ := hide (HBs.out.trans (hB.mono HBs.out.size))
      clear hB
      have c0c := HXc1.out.c0
      have c1c := HXc1.out.c1
      go_wp2_with fail
      refine (HLA.out _).mono ?_
      rintro e w2_ ⟨rfl, hB⟩
      clear c0c c1c
      have HXc2 := hide (HXc1.out.below_b hB)
      have HXd2 := hide (HXd1.out.below_b hB)
      have HB2_ := hide (HB1_.out.trans (hB.mono HB1_.out.size))
      clear hB
      have c0c := HXc2.out.c0
      have c1c := HXc2.out.c1
      go_wp2_with fail
      refine (HHQ.out _).mono ?_
      rintro e w9_ ⟨vl, rfl, hB, hrow⟩
      have HROW := hide hrow
      clear c0c c1c
      have HXc3 := hide (HXc2.out.below_b hB)
      have HXd3 := hide (HXd2.out.below_b hB)
      have HB3_ := hide (HB2_.out.trans (hB.mono HB2_.out.size))
      clear hB hrow
      have hT := HROW.out.cAt
      obtain ⟨aol, capl, hvl⟩ := hT.len
      subst hvl
      obtain ⟨gl, ol, hao, hbl, hm0, hm1⟩ := hT.at (k := 0) (by simp)
      obtain ⟨gl2, ol2, hao2, hbl2, hm2, hm3⟩ := hT.at (k := 1) (by simp)
      rw [hao] at hao2
      injection hao2 with hao2
      injection hao2 with q1 q2
      subst q1 q2 hao
      rw [Nat.zero_mul, Nat.add_zero] at hm0 hm1
      rw [Nat.one_mul] at hm2 hm3
      have D0 : Hid (w9_.cell? ⟨gl, ol, none⟩ = some (.int .u32 (ca : Int))) := hide hm0
      have D1 : Hid (w9_.cell? ⟨gl, ol + 1, none⟩ = some (.int .i64 (cb + 1))) := hide hm1
      have D2 : Hid (w9_.cell? ⟨gl, ol + 2, none⟩ = some (.int .u32 (y2 : Int))) := hide hm2
      have D3 : Hid (w9_.cell? ⟨gl, ol + 3, none⟩ = some (.int .i64 (cb + 1))) := hide hm3
      have HBL := hide hbl
      clear hT hm0 hm1 hm2 hm3 hbl hbl2
      simp only [List.length_cons, List.length_nil, Nat.zero_add]
      have HSr0 : Hid (Below w9_.heap.size w9_ w9_) := hide (Below.refl _ _)
      have c0c := HXc3.out.c0
      have c1c := HXc3.out.c1
      go_wp2_with fail
      refine (HMR.out _).mono ?_
      rintro e w4_ ⟨rfl, hB⟩
      clear c0c c1c
      have HXc4 := hide (HXc3.out.below_b hB)
      have HXd4 := hide (HXd3.out.below_b hB)
      have HB4_ := hide (HB3_.out.trans (hB.mono HB3_.out.size))
      have HSr4 := hide (HSr0.out.trans (hB.mono HSr0.out.size))
      clear hB
      go_wp2_with fail
      have HMP : Hid (∀ W : World, Calls Tryd.prog 24 #[.int .i64 bits] W (fun e w' => e = .returned (.int .u32 (mk : Nat)) ∧ Below W.heap.size W w')) := hide (fun W => (HMA.out W).mono (by rintro e w' ⟨rfl, rfl⟩; exact ⟨rfl, Below.refl _ _⟩))
      have HMQ : Hid (∀ W : World, Calls Tryd.prog 25 #[.int .i64 bits] W (fun e w' => e = .returned (.int .u32 (mk : Nat)) ∧ Below W.heap.size W w')) := hide (fun W => (HMB.out W).mono (by rintro e w' ⟨rfl, rfl⟩; exact ⟨rfl, Below.refl _ _⟩))
      refine wp_region_held_drew (S := fun w' => Below w4_.heap.size w4_ w') (by kernel_rfl) ((Below.refl _ _).drew) (fun hHeld => ?_)
      refine wpAnyH_take (i := 0) (oi := { dst := some 34, op := Op.move (Operand.tmp 0), type := 3, pos := "law.go:38", after := #[], guard := none }) (v := ?_) rfl (by kernel_rfl) (by kernel_rfl) (by kernel_rfl) (fun _ _ _ h => h) (Or.inl ⟨by rfl, ?_⟩) hHeld ?_
      rotate_left
      · intro w hSw; (try dsimp only at hSw); go_simp; first | done | with_reducible rfl
      try simp only [Act.put, List.setIfInBounds_toArray, List.set_cons_zero, List.set_cons_succ]
      refine wpAnyH_take (i := 2) (oi := { dst := some 36, op := Op.move (Operand.tmp 0), type := 3, pos := "law.go:38", after := #[], guard := none }) (v := ?_) rfl (by kernel_rfl) (by kernel_rfl) (by kernel_rfl) (fun _ _ _ h => h) (Or.inl ⟨by rfl, ?_⟩) hHeld ?_
      rotate_left
      · intro w hSw; (try dsimp only at hSw); go_simp; first | done | with_reducible rfl
      try simp only [Act.put, List.setIfInBounds_toArray, List.set_cons_zero, List.set_cons_succ]
      refine wpAnyH_ready (rs := [1]) (by kernel_rfl) (by simp) ?_
      refine AllReadyH.cons (o := { dst := some 35, op := Op.call { callee := Callee.value (Operand.func 24), args := #[Operand.tmp 34], argTypes := #[3] }, type := 22, pos := "law.go:38", after := #[{ on := 0, ground := Ground.data }], guard := none }) rfl (fun K hK => ?_) AllReadyH.nil
      clear hHeld
      go_simp
      refine (HMP.out _).mono ?_
      rintro e wr1 ⟨rfl, hB⟩
      have HR1 := hide (((Below.refl w4_.heap.size w4_).drew).trans (hB.mono ((Below.refl w4_.heap.size w4_).drew).size))
      clear hB
      refine hK.out _ _ (HR1.out) (fun hHeld => ?_)
      clear hK K
      try simp only [Act.put, List.setIfInBounds_toArray, List.set_cons_zero, List.set_cons_succ]
      refine wpAnyH_ready (rs := [3]) (by kernel_rfl) (by simp) ?_
      refine AllReadyH.cons (o := { dst := some 37, op := Op.call { callee := Callee.value (Operand.func 25), args := #[Operand.tmp 36], argTypes := #[3] }, type := 22, pos := "law.go:38", after := #[{ on := 2, ground := Ground.data }, { on := 1, ground := Ground.chain }], guard := none }) rfl (fun K hK => ?_) AllReadyH.nil
      clear hHeld
      go_simp
      refine (HMQ.out _).mono ?_
      rintro e wr2 ⟨rfl, hB⟩
      have HR2 := hide (HR1.out.trans (hB.mono HR1.out.size))
      clear hB
      refine hK.out _ _ (HR2.out) (fun hHeld => ?_)
      clear hK K
      try simp only [Act.put, List.setIfInBounds_toArray, List.set_cons_zero, List.set_cons_succ]
      refine wpAnyH_take (i := 4) (oi := { dst := some 38, op := Op.binOp BinOp.neq 22 (Operand.tmp 35) (Operand.tmp 37) 22, type := 4, pos := "law.go:38", after := #[{ on := 1, ground := Ground.data }, { on := 3, ground := Ground.data }], guard := none }) (v := ?_) rfl (by kernel_rfl) (by kernel_rfl) (by kernel_rfl) (fun _ _ _ h => h) (Or.inl ⟨by rfl, ?_⟩) hHeld ?_
      rotate_left
      · intro w hSw; (try dsimp only at hSw); go_simp; first | done | with_reducible rfl
      try simp only [Act.put, List.setIfInBounds_toArray, List.set_cons_zero, List.set_cons_succ]
      refine wpAnyH_take (i := 5) (oi := { dst := some 39, op := Op.move (Operand.tmp 38), type := 4, pos := "law.go:38", after := #[{ on := 4, ground := Ground.data }, { on := 3, ground := Ground.chain }], guard := none }) (v := ?_) rfl (by kernel_rfl) (by kernel_rfl) (by kernel_rfl) (fun _ _ _ h => h) (Or.inl ⟨by rfl, ?_⟩) hHeld ?_
      rotate_left
      · intro w hSw; (try dsimp only at hSw); go_simp; first | done | with_reducible rfl
      try simp only [Act.put, List.setIfInBounds_toArray, List.set_cons_zero, List.set_cons_succ]
      refine wpAnyH_take (i := 6) (oi := { dst := some 40, op := Op.load 24 (Operand.tmp 5), type := 24, pos := "law.go:38", after := #[{ on := 5, ground := Ground.guard }], guard := some (5, false) }) (v := ?_) rfl (by kernel_rfl) (by kernel_rfl) (by kernel_rfl) (fun _ _ _ h => h) (Or.inl ⟨by rfl, ?_⟩) hHeld ?_
      rotate_left
      · intro w hSw; (try dsimp only at hSw); have e0 := (hSw.cell (p := ⟨g, 0, none⟩) HXc4.out.lt).trans HXc4.out.c0; have e1 := (hSw.cell (p := ⟨g, 1, none⟩) HXc4.out.lt).trans HXc4.out.c1; have e2 := (hSw.cell (p := ⟨g + 1, 0, none⟩) HXd4.out.lt).trans HXd4.out.c0; have e3 := (hSw.cell (p := ⟨g + 1, 1, none⟩) HXd4.out.lt).trans HXd4.out.c1; go_simp; first | done | with_reducible rfl
      try simp only [Act.put, List.setIfInBounds_toArray, List.set_cons_zero, List.set_cons_succ]
      refine wpAnyH_take (i := 8) (oi := { dst := some 42, op := Op.move (Operand.tmp 15), type := 4, pos := "law.go:38", after := #[{ on := 5, ground := Ground.guard }], guard := some (5, false) }) (v := ?_) rfl (by kernel_rfl) (by kernel_rfl) (by kernel_rfl) (fun _ _ _ h => h) (Or.inl ⟨by rfl, ?_⟩) hHeld ?_
      rotate_left
      · intro w hSw; (try dsimp only at hSw); go_simp; first | done | with_reducible rfl
      try simp only [Act.put, List.setIfInBounds_toArray, List.set_cons_zero, List.set_cons_succ]
      refine wpAnyH_ready (rs := [7]) (by kernel_rfl) (by simp) ?_
      refine AllReadyH.cons (o := { dst := some 41, op := Op.call { callee := Callee.value (Operand.func 26), args := #[Operand.tmp 40], argTypes := #[24] }, type := 4, pos := "law.go:38", after := #[{ on := 6, ground := Ground.data }, { on := 5, ground := Ground.chain }, { on := 5, ground := Ground.guard }], guard := some (5, false) }) rfl (fun K hK => ?_) AllReadyH.nil
      clear hHeld
      go_simp
      refine (HMC.out _).mono ?_
      rintro e wr3 ⟨rfl, hB⟩
      have HR3 := hide (HR2.out.trans (hB.mono HR2.out.size))
      clear hB
      refine hK.out _ _ (HR3.out) (fun hHeld => ?_)
      clear hK K
      try simp only [Act.put, List.setIfInBounds_toArray, List.set_cons_zero, List.set_cons_succ]
      refine wpAnyH_take (i := 9) (oi := { dst := some 43, op := Op.binOp BinOp.neq 4 (Operand.tmp 41) (Operand.tmp 42) 4, type := 4, pos := "law.go:38", after := #[{ on := 7, ground := Ground.data }, { on := 8, ground := Ground.data }, { on := 5, ground := Ground.guard }], guard := some (5, false) }) (v := ?_) rfl (by kernel_rfl) (by kernel_rfl) (by kernel_rfl) (fun _ _ _ h => h) (Or.inl ⟨by rfl, ?_⟩) hHeld ?_
      rotate_left
      · intro w hSw; (try dsimp only at hSw); go_simp; first | done | with_reducible rfl
      try simp only [Act.put, List.setIfInBounds_toArray, List.set_cons_zero, List.set_cons_succ]
      refine wpAnyH_take (i := 10) (oi := { dst := some 44, op := Op.pick (Operand.tmp 39) (Operand.const (Value.bool true)) (Operand.tmp 43), type := 4, pos := "law.go:38", after := #[{ on := 5, ground := Ground.data }, { on := 9, ground := Ground.data }], guard := none }) (v := ?_) rfl (by kernel_rfl) (by kernel_rfl) (by kernel_rfl) (fun _ _ _ h => h) (Or.inl ⟨by rfl, ?_⟩) hHeld ?_
      rotate_left
      · intro w hSw; (try dsimp only at hSw); go_simp; first | done | with_reducible rfl
      try simp only [Act.put, List.setIfInBounds_toArray, List.set_cons_zero, List.set_cons_succ]
      refine wpAnyH_take (i := 11) (oi := { dst := some 45, op := Op.move (Operand.tmp 44), type := 4, pos := "law.go:38", after := #[{ on := 10, ground := Ground.data }, { on := 7, ground := Ground.chain }], guard := none }) (v := ?_) rfl (by kernel_rfl) (by kernel_rfl) (by kernel_rfl) (fun _ _ _ h => h) (Or.inl ⟨by rfl, ?_⟩) hHeld ?_
      rotate_left
      · intro w hSw; (try dsimp only at hSw); go_simp; first | done | with_reducible rfl
      try simp only [Act.put, List.setIfInBounds_toArray, List.set_cons_zero, List.set_cons_succ]
      refine wpAnyH_take (i := 12) (oi := { dst := some 46, op := Op.load 24 (Operand.tmp 5), type := 24, pos := "law.go:38", after := #[{ on := 11, ground := Ground.guard }], guard := some (11, false) }) (v := ?_) rfl (by kernel_rfl) (by kernel_rfl) (by kernel_rfl) (fun _ _ _ h => h) (Or.inl ⟨by rfl, ?_⟩) hHeld ?_
      rotate_left
      · intro w hSw; (try dsimp only at hSw); have e0 := (hSw.cell (p := ⟨g, 0, none⟩) HXc4.out.lt).trans HXc4.out.c0; have e1 := (hSw.cell (p := ⟨g, 1, none⟩) HXc4.out.lt).trans HXc4.out.c1; have e2 := (hSw.cell (p := ⟨g + 1, 0, none⟩) HXd4.out.lt).trans HXd4.out.c0; have e3 := (hSw.cell (p := ⟨g + 1, 1, none⟩) HXd4.out.lt).trans HXd4.out.c1; go_simp; first | done | with_reducible rfl
      try simp only [Act.put, List.setIfInBounds_toArray, List.set_cons_zero, List.set_cons_succ]
      refine wpAnyH_take (i := 13) (oi := { dst := some 47, op := Op.move (Operand.tmp 3), type := 22, pos := "law.go:38", after := #[{ on := 11, ground := Ground.guard }], guard := some (11, false) }) (v := ?_) rfl (by kernel_rfl) (by kernel_rfl) (by kernel_rfl) (fun _ _ _ h => h) (Or.inl ⟨by rfl, ?_⟩) hHeld ?_
      rotate_left
      · intro w hSw; (try dsimp only at hSw); go_simp; first | done | with_reducible rfl
      try simp only [Act.put, List.setIfInBounds_toArray, List.set_cons_zero, List.set_cons_succ]
      refine wpAnyH_take (i := 15) (oi := { dst := some 49, op := Op.load 24 (Operand.tmp 5), type := 24, pos := "law.go:38", after := #[{ on := 11, ground := Ground.guard }], guard := some (11, false) }) (v := ?_) rfl (by kernel_rfl) (by kernel_rfl) (by kernel_rfl) (fun _ _ _ h => h) (Or.inl ⟨by rfl, ?_⟩) hHeld ?_
      rotate_left
      · intro w hSw; (try dsimp only at hSw); have e0 := (hSw.cell (p := ⟨g, 0, none⟩) HXc4.out.lt).trans HXc4.out.c0; have e1 := (hSw.cell (p := ⟨g, 1, none⟩) HXc4.out.lt).trans HXc4.out.c1; have e2 := (hSw.cell (p := ⟨g + 1, 0, none⟩) HXd4.out.lt).trans HXd4.out.c0; have e3 := (hSw.cell (p := ⟨g + 1, 1, none⟩) HXd4.out.lt).trans HXd4.out.c1; go_simp; first | done | with_reducible rfl
      try simp only [Act.put, List.setIfInBounds_toArray, List.set_cons_zero, List.set_cons_succ]
      refine wpAnyH_take (i := 16) (oi := { dst := some 50, op := Op.move (Operand.tmp 3), type := 22, pos := "law.go:38", after := #[{ on := 11, ground := Ground.guard }], guard := some (11, false) }) (v := ?_) rfl (by kernel_rfl) (by kernel_rfl) (by kernel_rfl) (fun _ _ _ h => h) (Or.inl ⟨by rfl, ?_⟩) hHeld ?_
      rotate_left
      · intro w hSw; (try dsimp only at hSw); go_simp; first | done | with_reducible rfl
      try simp only [Act.put, List.setIfInBounds_toArray, List.set_cons_zero, List.set_cons_succ]
      refine wpAnyH_ready (rs := [14]) (by kernel_rfl) (by simp) ?_
      refine AllReadyH.cons (o := { dst := some 48, op := Op.call { callee := Callee.value (Operand.func 27), args := #[Operand.tmp 46, Operand.tmp 47], argTypes := #[24, 22] }, type := 4, pos := "law.go:38", after := #[{ on := 12, ground := Ground.data }, { on := 13, ground := Ground.data }, { on := 11, ground := Ground.chain }, { on := 11, ground := Ground.guard }], guard := some (11, false) }) rfl (fun K hK => ?_) AllReadyH.nil
      clear hHeld
      go_simp
      refine (HIC.out _).mono ?_
      rintro e wr4 ⟨rfl, hB⟩
      have HR4 := hide (HR3.out.trans (hB.mono HR3.out.size))
      clear hB
      refine hK.out _ _ (HR4.out) (fun hHeld => ?_)
      clear hK K
      try simp only [Act.put, List.setIfInBounds_toArray, List.set_cons_zero, List.set_cons_succ]
      refine wpAnyH_ready (rs := [17]) (by kernel_rfl) (by simp) ?_
      refine AllReadyH.cons (o := { dst := some 51, op := Op.call { callee := Callee.value (Operand.func 28), args := #[Operand.tmp 49, Operand.tmp 50], argTypes := #[24, 22] }, type := 4, pos := "law.go:38", after := #[{ on := 15, ground := Ground.data }, { on := 16, ground := Ground.data }, { on := 14, ground := Ground.chain }, { on := 11, ground := Ground.guard }], guard := some (11, false) }) rfl (fun K hK => ?_) AllReadyH.nil
      clear hHeld
      go_simp
      refine (HIR.out _).mono ?_
      rintro e wr5 ⟨rfl, hB⟩
      have HR5 := hide (HR4.out.trans (hB.mono HR4.out.size))
      clear hB
      refine hK.out _ _ (HR5.out) (fun hHeld => ?_)
      clear hK K
      try simp only [Act.put, List.setIfInBounds_toArray, List.set_cons_zero, List.set_cons_succ]
      refine wpAnyH_take (i := 18) (oi := { dst := some 52, op := Op.binOp BinOp.neq 4 (Operand.tmp 48) (Operand.tmp 51) 4, type := 4, pos := "law.go:38", after := #[{ on := 14, ground := Ground.data }, { on := 17, ground := Ground.data }, { on := 11, ground := Ground.guard }], guard := some (11, false) }) (v := ?_) rfl (by kernel_rfl) (by kernel_rfl) (by kernel_rfl) (fun _ _ _ h => h) (Or.inl ⟨by rfl, ?_⟩) hHeld ?_
      rotate_left
      · intro w hSw; (try dsimp only at hSw); go_simp; first | done | with_reducible rfl
      try simp only [Act.put, List.setIfInBounds_toArray, List.set_cons_zero, List.set_cons_succ]
      refine wpAnyH_take (i := 19) (oi := { dst := some 53, op := Op.pick (Operand.tmp 45) (Operand.const (Value.bool true)) (Operand.tmp 52), type := 4, pos := "law.go:38", after := #[{ on := 11, ground := Ground.data }, { on := 18, ground := Ground.data }], guard := none }) (v := ?_) rfl (by kernel_rfl) (by kernel_rfl) (by kernel_rfl) (fun _ _ _ h => h) (Or.inl ⟨by rfl, ?_⟩) hHeld ?_
      rotate_left
      · intro w hSw; (try dsimp only at hSw); go_simp; first | done | with_reducible rfl
      try simp only [Act.put, List.setIfInBounds_toArray, List.set_cons_zero, List.set_cons_succ]
      refine wpAnyH_take (i := 20) (oi := { dst := some 54, op := Op.move (Operand.tmp 53), type := 4, pos := "law.go:38", after := #[{ on := 19, ground := Ground.data }, { on := 17, ground := Ground.chain }], guard := none }) (v := ?_) rfl (by kernel_rfl) (by kernel_rfl) (by kernel_rfl) (fun _ _ _ h => h) (Or.inl ⟨by rfl, ?_⟩) hHeld ?_
      rotate_left
      · intro w hSw; (try dsimp only at hSw); go_simp; first | done | with_reducible rfl
      try simp only [Act.put, List.setIfInBounds_toArray, List.set_cons_zero, List.set_cons_succ]
      refine wpAnyH_take (i := 21) (oi := { dst := some 55, op := Op.load 24 (Operand.tmp 5), type := 24, pos := "law.go:38", after := #[{ on := 20, ground := Ground.guard }], guard := some (20, false) }) (v := ?_) rfl (by kernel_rfl) (by kernel_rfl) (by kernel_rfl) (fun _ _ _ h => h) (Or.inl ⟨by rfl, ?_⟩) hHeld ?_
      rotate_left
      · intro w hSw; (try dsimp only at hSw); have e0 := (hSw.cell (p := ⟨g, 0, none⟩) HXc4.out.lt).trans HXc4.out.c0; have e1 := (hSw.cell (p := ⟨g, 1, none⟩) HXc4.out.lt).trans HXc4.out.c1; have e2 := (hSw.cell (p := ⟨g + 1, 0, none⟩) HXd4.out.lt).trans HXd4.out.c0; have e3 := (hSw.cell (p := ⟨g + 1, 1, none⟩) HXd4.out.lt).trans HXd4.out.c1; go_simp; first | done | with_reducible rfl
      try simp only [Act.put, List.setIfInBounds_toArray, List.set_cons_zero, List.set_cons_succ]
      refine wpAnyH_take (i := 22) (oi := { dst := some 56, op := Op.load 24 (Operand.tmp 6), type := 24, pos := "law.go:38", after := #[{ on := 20, ground := Ground.guard }], guard := some (20, false) }) (v := ?_) rfl (by kernel_rfl) (by kernel_rfl) (by kernel_rfl) (fun _ _ _ h => h) (Or.inl ⟨by rfl, ?_⟩) hHeld ?_
      rotate_left
      · intro w hSw; (try dsimp only at hSw); have e0 := (hSw.cell (p := ⟨g, 0, none⟩) HXc4.out.lt).trans HXc4.out.c0; have e1 := (hSw.cell (p := ⟨g, 1, none⟩) HXc4.out.lt).trans HXc4.out.c1; have e2 := (hSw.cell (p := ⟨g + 1, 0, none⟩) HXd4.out.lt).trans HXd4.out.c0; have e3 := (hSw.cell (p := ⟨g + 1, 1, none⟩) HXd4.out.lt).trans HXd4.out.c1; go_simp; first | done | with_reducible rfl
      try simp only [Act.put, List.setIfInBounds_toArray, List.set_cons_zero, List.set_cons_succ]
      refine wpAnyH_take (i := 24) (oi := { dst := some 58, op := Op.load 24 (Operand.tmp 5), type := 24, pos := "law.go:38", after := #[{ on := 20, ground := Ground.guard }], guard := some (20, false) }) (v := ?_) rfl (by kernel_rfl) (by kernel_rfl) (by kernel_rfl) (fun _ _ _ h => h) (Or.inl ⟨by rfl, ?_⟩) hHeld ?_
      rotate_left
      · intro w hSw; (try dsimp only at hSw); have e0 := (hSw.cell (p := ⟨g, 0, none⟩) HXc4.out.lt).trans HXc4.out.c0; have e1 := (hSw.cell (p := ⟨g, 1, none⟩) HXc4.out.lt).trans HXc4.out.c1; have e2 := (hSw.cell (p := ⟨g + 1, 0, none⟩) HXd4.out.lt).trans HXd4.out.c0; have e3 := (hSw.cell (p := ⟨g + 1, 1, none⟩) HXd4.out.lt).trans HXd4.out.c1; go_simp; first | done | with_reducible rfl
      try simp only [Act.put, List.setIfInBounds_toArray, List.set_cons_zero, List.set_cons_succ]
      refine wpAnyH_take (i := 25) (oi := { dst := some 59, op := Op.load 24 (Operand.tmp 6), type := 24, pos := "law.go:38", after := #[{ on := 20, ground := Ground.guard }], guard := some (20, false) }) (v := ?_) rfl (by kernel_rfl) (by kernel_rfl) (by kernel_rfl) (fun _ _ _ h => h) (Or.inl ⟨by rfl, ?_⟩) hHeld ?_
      rotate_left
      · intro w hSw; (try dsimp only at hSw); have e0 := (hSw.cell (p := ⟨g, 0, none⟩) HXc4.out.lt).trans HXc4.out.c0; have e1 := (hSw.cell (p := ⟨g, 1, none⟩) HXc4.out.lt).trans HXc4.out.c1; have e2 := (hSw.cell (p := ⟨g + 1, 0, none⟩) HXd4.out.lt).trans HXd4.out.c0; have e3 := (hSw.cell (p := ⟨g + 1, 1, none⟩) HXd4.out.lt).trans HXd4.out.c1; go_simp; first | done | with_reducible rfl
      try simp only [Act.put, List.setIfInBounds_toArray, List.set_cons_zero, List.set_cons_succ]
      refine wpAnyH_ready (rs := [23]) (by kernel_rfl) (by simp) ?_
      refine AllReadyH.cons (o := { dst := some 57, op := Op.call { callee := Callee.value (Operand.func 29), args := #[Operand.tmp 55, Operand.tmp 56], argTypes := #[24, 24] }, type := 4, pos := "law.go:38", after := #[{ on := 21, ground := Ground.data }, { on := 22, ground := Ground.data }, { on := 20, ground := Ground.chain }, { on := 20, ground := Ground.guard }], guard := some (20, false) }) rfl (fun K hK => ?_) AllReadyH.nil
      clear hHeld
      go_simp
      refine (HCD.out _).mono ?_
      rintro e wr6 ⟨rfl, hB⟩
      have HR6 := hide (HR5.out.trans (hB.mono HR5.out.size))
      clear hB
      refine hK.out _ _ (HR6.out) (fun hHeld => ?_)
      clear hK K
      try simp only [Act.put, List.setIfInBounds_toArray, List.set_cons_zero, List.set_cons_succ]
      refine wpAnyH_ready (rs := [26]) (by kernel_rfl) (by simp) ?_
      refine AllReadyH.cons (o := { dst := some 60, op := Op.call { callee := Callee.value (Operand.func 30), args := #[Operand.tmp 58, Operand.tmp 59], argTypes := #[24, 24] }, type := 4, pos := "law.go:38", after := #[{ on := 24, ground := Ground.data }, { on := 25, ground := Ground.data }, { on := 23, ground := Ground.chain }, { on := 20, ground := Ground.guard }], guard := some (20, false) }) rfl (fun K hK => ?_) AllReadyH.nil
      clear hHeld
      go_simp
      refine (HCR.out _).mono ?_
      rintro e wr7 ⟨rfl, hB⟩
      have HR7 := hide (HR6.out.trans (hB.mono HR6.out.size))
      clear hB
      refine hK.out _ _ (HR7.out) (fun hHeld => ?_)
      clear hK K
      try simp only [Act.put, List.setIfInBounds_toArray, List.set_cons_zero, List.set_cons_succ]
      refine wpAnyH_take (i := 27) (oi := { dst := some 61, op := Op.binOp BinOp.neq 4 (Operand.tmp 57) (Operand.tmp 60) 4, type := 4, pos := "law.go:38", after := #[{ on := 23, ground := Ground.data }, { on := 26, ground := Ground.data }, { on := 20, ground := Ground.guard }], guard := some (20, false) }) (v := ?_) rfl (by kernel_rfl) (by kernel_rfl) (by kernel_rfl) (fun _ _ _ h => h) (Or.inl ⟨by rfl, ?_⟩) hHeld ?_
      rotate_left
      · intro w hSw; (try dsimp only at hSw); go_simp; first | done | with_reducible rfl
      try simp only [Act.put, List.setIfInBounds_toArray, List.set_cons_zero, List.set_cons_succ]
      refine wpAnyH_take (i := 28) (oi := { dst := some 62, op := Op.pick (Operand.tmp 54) (Operand.const (Value.bool true)) (Operand.tmp 61), type := 4, pos := "law.go:38", after := #[{ on := 20, ground := Ground.data }, { on := 27, ground := Ground.data }], guard := none }) (v := ?_) rfl (by kernel_rfl) (by kernel_rfl) (by kernel_rfl) (fun _ _ _ h => h) (Or.inl ⟨by rfl, ?_⟩) hHeld ?_
      rotate_left
      · intro w hSw; (try dsimp only at hSw); go_simp; first | done | with_reducible rfl
      try simp only [Act.put, List.setIfInBounds_toArray, List.set_cons_zero, List.set_cons_succ]
      refine wpAnyH_take (i := 29) (oi := { dst := some 63, op := Op.move (Operand.tmp 62), type := 4, pos := "law.go:38", after := #[{ on := 28, ground := Ground.data }, { on := 26, ground := Ground.chain }], guard := none }) (v := ?_) rfl (by kernel_rfl) (by kernel_rfl) (by kernel_rfl) (fun _ _ _ h => h) (Or.inl ⟨by rfl, ?_⟩) hHeld ?_
      rotate_left
      · intro w hSw; (try dsimp only at hSw); go_simp; first | done | with_reducible rfl
      try simp only [Act.put, List.setIfInBounds_toArray, List.set_cons_zero, List.set_cons_succ]
      refine wpAnyH_take (i := 30) (oi := { dst := some 64, op := Op.move (Operand.tmp 10), type := 4, pos := "law.go:38", after := #[{ on := 29, ground := Ground.guard }], guard := some (29, false) }) (v := ?_) rfl (by kernel_rfl) (by kernel_rfl) (by kernel_rfl) (fun _ _ _ h => h) (Or.inl ⟨by rfl, ?_⟩) hHeld ?_
      rotate_left
      · intro w hSw; (try dsimp only at hSw); go_simp; first | done | with_reducible rfl
      try simp only [Act.put, List.setIfInBounds_toArray, List.set_cons_zero, List.set_cons_succ]
      refine wpAnyH_take (i := 31) (oi := { dst := some 65, op := Op.move (Operand.tmp 15), type := 4, pos := "law.go:38", after := #[{ on := 29, ground := Ground.guard }], guard := some (29, false) }) (v := ?_) rfl (by kernel_rfl) (by kernel_rfl) (by kernel_rfl) (fun _ _ _ h => h) (Or.inl ⟨by rfl, ?_⟩) hHeld ?_
      rotate_left
      · intro w hSw; (try dsimp only at hSw); go_simp; first | done | with_reducible rfl
      try simp only [Act.put, List.setIfInBounds_toArray, List.set_cons_zero, List.set_cons_succ]
      refine wpAnyH_take (i := 32) (oi := { dst := some 66, op := Op.binOp BinOp.neq 4 (Operand.tmp 64) (Operand.tmp 65) 4, type := 4, pos := "law.go:38", after := #[{ on := 30, ground := Ground.data }, { on := 31, ground := Ground.data }, { on := 29, ground := Ground.guard }], guard := some (29, false) }) (v := ?_) rfl (by kernel_rfl) (by kernel_rfl) (by kernel_rfl) (fun _ _ _ h => h) (Or.inl ⟨by rfl, ?_⟩) hHeld ?_
      rotate_left
      · intro w hSw; (try dsimp only at hSw); go_simp; first | done | with_reducible rfl
      try simp only [Act.put, List.setIfInBounds_toArray, List.set_cons_zero, List.set_cons_succ]
      refine wpAnyH_take (i := 33) (oi := { dst := some 67, op := Op.pick (Operand.tmp 63) (Operand.const (Value.bool true)) (Operand.tmp 66), type := 4, pos := "law.go:38", after := #[{ on := 29, ground := Ground.data }, { on := 32, ground := Ground.data }], guard := none }) (v := ?_) rfl (by kernel_rfl) (by kernel_rfl) (by kernel_rfl) (fun _ _ _ h => h) (Or.inl ⟨by rfl, ?_⟩) hHeld ?_
      rotate_left
      · intro w hSw; (try dsimp only at hSw); go_simp; first | done | with_reducible rfl
      try simp only [Act.put, List.setIfInBounds_toArray, List.set_cons_zero, List.set_cons_succ]
      refine wpAnyH_take (i := 34) (oi := { dst := some 68, op := Op.move (Operand.tmp 67), type := 4, pos := "law.go:38", after := #[{ on := 33, ground := Ground.data }, { on := 29, ground := Ground.chain }], guard := none }) (v := ?_) rfl (by kernel_rfl) (by kernel_rfl) (by kernel_rfl) (fun _ _ _ h => h) (Or.inl ⟨by rfl, ?_⟩) hHeld ?_
      rotate_left
      · intro w hSw; (try dsimp only at hSw); go_simp; first | done | with_reducible rfl
      try simp only [Act.put, List.setIfInBounds_toArray, List.set_cons_zero, List.set_cons_succ]
      refine wpAnyH_take (i := 35) (oi := { dst := some 69, op := Op.move (Operand.tmp 12), type := 4, pos := "law.go:38", after := #[{ on := 34, ground := Ground.guard }], guard := some (34, false) }) (v := ?_) rfl (by kernel_rfl) (by kernel_rfl) (by kernel_rfl) (fun _ _ _ h => h) (Or.inl ⟨by rfl, ?_⟩) hHeld ?_
      rotate_left
      · intro w hSw; (try dsimp only at hSw); go_simp; first | done | with_reducible rfl
      try simp only [Act.put, List.setIfInBounds_toArray, List.set_cons_zero, List.set_cons_succ]
      refine wpAnyH_take (i := 36) (oi := { dst := some 70, op := Op.move (Operand.tmp 15), type := 4, pos := "law.go:38", after := #[{ on := 34, ground := Ground.guard }], guard := some (34, false) }) (v := ?_) rfl (by kernel_rfl) (by kernel_rfl) (by kernel_rfl) (fun _ _ _ h => h) (Or.inl ⟨by rfl, ?_⟩) hHeld ?_
      rotate_left
      · intro w hSw; (try dsimp only at hSw); go_simp; first | done | with_reducible rfl
      try simp only [Act.put, List.setIfInBounds_toArray, List.set_cons_zero, List.set_cons_succ]
      refine wpAnyH_take (i := 37) (oi := { dst := some 71, op := Op.binOp BinOp.neq 4 (Operand.tmp 69) (Operand.tmp 70) 4, type := 4, pos := "law.go:38", after := #[{ on := 35, ground := Ground.data }, { on := 36, ground := Ground.data }, { on := 34, ground := Ground.guard }], guard := some (34, false) }) (v := ?_) rfl (by kernel_rfl) (by kernel_rfl) (by kernel_rfl) (fun _ _ _ h => h) (Or.inl ⟨by rfl, ?_⟩) hHeld ?_
      rotate_left
      · intro w hSw; (try dsimp only at hSw); go_simp; first | done | with_reducible rfl
      try simp only [Act.put, List.setIfInBounds_toArray, List.set_cons_zero, List.set_cons_succ]
      refine wpAnyH_take (i := 38) (oi := { dst := some 72, op := Op.pick (Operand.tmp 68) (Operand.const (Value.bool true)) (Operand.tmp 71), type := 4, pos := "law.go:38", after := #[{ on := 34, ground := Ground.data }, { on := 37, ground := Ground.data }], guard := none }) (v := ?_) rfl (by kernel_rfl) (by kernel_rfl) (by kernel_rfl) (fun _ _ _ h => h) (Or.inl ⟨by rfl, ?_⟩) hHeld ?_
      rotate_left
      · intro w hSw; (try dsimp only at hSw); go_simp; first | done | with_reducible rfl
      try simp only [Act.put, List.setIfInBounds_toArray, List.set_cons_zero, List.set_cons_succ]
      refine wpAnyH_take (i := 39) (oi := { dst := some 73, op := Op.move (Operand.tmp 72), type := 4, pos := "law.go:38", after := #[{ on := 38, ground := Ground.data }, { on := 34, ground := Ground.chain }], guard := none }) (v := ?_) rfl (by kernel_rfl) (by kernel_rfl) (by kernel_rfl) (fun _ _ _ h => h) (Or.inl ⟨by rfl, ?_⟩) hHeld ?_
      rotate_left
      · intro w hSw; (try dsimp only at hSw); go_simp; first | done | with_reducible rfl
      try simp only [Act.put, List.setIfInBounds_toArray, List.set_cons_zero, List.set_cons_succ]
      refine wpAnyH_take (i := 40) (oi := { dst := some 74, op := Op.move (Operand.tmp 14), type := 4, pos := "law.go:38", after := #[{ on := 39, ground := Ground.guard }], guard := some (39, false) }) (v := ?_) rfl (by kernel_rfl) (by kernel_rfl) (by kernel_rfl) (fun _ _ _ h => h) (Or.inl ⟨by rfl, ?_⟩) hHeld ?_
      rotate_left
      · intro w hSw; (try dsimp only at hSw); go_simp; first | done | with_reducible rfl
      try simp only [Act.put, List.setIfInBounds_toArray, List.set_cons_zero, List.set_cons_succ]
      refine wpAnyH_take (i := 41) (oi := { dst := some 75, op := Op.move (Operand.tmp 15), type := 4, pos := "law.go:38", after := #[{ on := 39, ground := Ground.guard }], guard := some (39, false) }) (v := ?_) rfl (by kernel_rfl) (by kernel_rfl) (by kernel_rfl) (fun _ _ _ h => h) (Or.inl ⟨by rfl, ?_⟩) hHeld ?_
      rotate_left
      · intro w hSw; (try dsimp only at hSw); go_simp; first | done | with_reducible rfl
      try simp only [Act.put, List.setIfInBounds_toArray, List.set_cons_zero, List.set_cons_succ]
      refine wpAnyH_take (i := 42) (oi := { dst := some 76, op := Op.move (Operand.tmp 75), type := 4, pos := "law.go:38", after := #[{ on := 41, ground := Ground.data }, { on := 39, ground := Ground.chain }, { on := 39, ground := Ground.guard }], guard := some (39, false) }) (v := ?_) rfl (by kernel_rfl) (by kernel_rfl) (by kernel_rfl) (fun _ _ _ h => h) (Or.inl ⟨by rfl, ?_⟩) hHeld ?_
      rotate_left
      · intro w hSw; (try dsimp only at hSw); go_simp; first | done | with_reducible rfl
      try simp only [Act.put, List.setIfInBounds_toArray, List.set_cons_zero, List.set_cons_succ]
      refine wpAnyH_take (i := 43) (oi := { dst := some 77, op := Op.fieldAddr 24 (Operand.tmp 5) 1, type := 0, pos := "law.go:38", after := #[{ on := 42, ground := Ground.guard }], guard := some (42, true) }) (v := ?_) rfl (by kernel_rfl) (by kernel_rfl) (by kernel_rfl) (fun _ _ _ h => h) (Or.inl ⟨by rfl, ?_⟩) hHeld ?_
      rotate_left
      · intro w hSw; (try dsimp only at hSw); go_simp; first | done | with_reducible rfl
      try simp only [Act.put, List.setIfInBounds_toArray, List.set_cons_zero, List.set_cons_succ]
      refine wpAnyH_take (i := 44) (oi := { dst := some 78, op := Op.load 3 (Operand.tmp 77), type := 3, pos := "law.go:38", after := #[{ on := 43, ground := Ground.data }, { on := 42, ground := Ground.guard }], guard := some (42, true) }) (v := ?_) rfl (by kernel_rfl) (by kernel_rfl) (by kernel_rfl) (fun _ _ _ h => h) (Or.inl ⟨by rfl, ?_⟩) hHeld ?_
      rotate_left
      · intro w hSw; (try dsimp only at hSw); have e0 := (hSw.cell (p := ⟨g, 0, none⟩) HXc4.out.lt).trans HXc4.out.c0; have e1 := (hSw.cell (p := ⟨g, 1, none⟩) HXc4.out.lt).trans HXc4.out.c1; have e2 := (hSw.cell (p := ⟨g + 1, 0, none⟩) HXd4.out.lt).trans HXd4.out.c0; have e3 := (hSw.cell (p := ⟨g + 1, 1, none⟩) HXd4.out.lt).trans HXd4.out.c1; go_simp; first | done | with_reducible rfl
      try simp only [Act.put, List.setIfInBounds_toArray, List.set_cons_zero, List.set_cons_succ]
      refine wpAnyH_take (i := 45) (oi := { dst := some 79, op := Op.binOp BinOp.lss 3 (Operand.tmp 78) (Operand.const (Value.int IntKind.i64 32)) 3, type := 4, pos := "law.go:38", after := #[{ on := 44, ground := Ground.data }, { on := 42, ground := Ground.guard }], guard := some (42, true) }) (v := ?_) rfl (by kernel_rfl) (by kernel_rfl) (by kernel_rfl) (fun _ _ _ h => h) (Or.inl ⟨by rfl, ?_⟩) hHeld ?_
      rotate_left
      · intro w hSw; (try dsimp only at hSw); go_simp; first | done | with_reducible rfl
      try simp only [Act.put, List.setIfInBounds_toArray, List.set_cons_zero, List.set_cons_succ]
      refine wpAnyH_take (i := 46) (oi := { dst := some 80, op := Op.pick (Operand.tmp 76) (Operand.tmp 79) (Operand.const (Value.bool false)), type := 4, pos := "law.go:38", after := #[{ on := 42, ground := Ground.data }, { on := 45, ground := Ground.data }, { on := 39, ground := Ground.guard }], guard := some (39, false) }) (v := ?_) rfl (by kernel_rfl) (by kernel_rfl) (by kernel_rfl) (fun _ _ _ h => h) (Or.inl ⟨by rfl, ?_⟩) hHeld ?_
      rotate_left
      · intro w hSw; (try dsimp only at hSw); go_simp; first | done | with_reducible rfl
      try simp only [Act.put, List.setIfInBounds_toArray, List.set_cons_zero, List.set_cons_succ]
      refine wpAnyH_take (i := 47) (oi := { dst := some 81, op := Op.binOp BinOp.neq 4 (Operand.tmp 74) (Operand.tmp 80) 4, type := 4, pos := "law.go:38", after := #[{ on := 40, ground := Ground.data }, { on := 46, ground := Ground.data }, { on := 39, ground := Ground.guard }], guard := some (39, false) }) (v := ?_) rfl (by kernel_rfl) (by kernel_rfl) (by kernel_rfl) (fun _ _ _ h => h) (Or.inl ⟨by rfl, ?_⟩) hHeld ?_
      rotate_left
      · intro w hSw; (try dsimp only at hSw); go_simp; first | done | with_reducible rfl
      try simp only [Act.put, List.setIfInBounds_toArray, List.set_cons_zero, List.set_cons_succ]
      refine wpAnyH_take (i := 48) (oi := { dst := some 82, op := Op.pick (Operand.tmp 73) (Operand.const (Value.bool true)) (Operand.tmp 81), type := 4, pos := "law.go:38", after := #[{ on := 39, ground := Ground.data }, { on := 47, ground := Ground.data }], guard := none }) (v := ?_) rfl (by kernel_rfl) (by kernel_rfl) (by kernel_rfl) (fun _ _ _ h => h) (Or.inl ⟨by rfl, ?_⟩) hHeld ?_
      rotate_left
      · intro w hSw; (try dsimp only at hSw); go_simp; first | done | with_reducible rfl
      try simp only [Act.put, List.setIfInBounds_toArray, List.set_cons_zero, List.set_cons_succ]
      refine wpAnyH_done (by kernel_rfl) ?_ _
      clear hHeld
      have HXc5 := hide (HXc4.out.below_b HR7.out)
      have HXd5 := hide (HXd4.out.below_b HR7.out)
      have HB5_ := hide (HB4_.out.trans (HR7.out.mono HB4_.out.size))
      have HSr5 := hide (HSr4.out.trans (HR7.out.mono HSr4.out.size))
      have c0c := HXc5.out.c0
      have c1c := HXc5.out.c1
      have h32e : (cb == 32) = false := by simp; omega
      go_wp2_with fail
      refine (HLR.out _).mono ?_
      rintro e w6_ ⟨rfl, hB⟩
      clear c0c c1c
      have HXc6 := hide (HXc5.out.below_b hB)
      have HXd6 := hide (HXd5.out.below_b hB)
      have HB6_ := hide (HB5_.out.trans (hB.mono HB5_.out.size))
      have HSr6 := hide (HSr5.out.trans (hB.mono HSr5.out.size))
      clear hB
      have c0c := HXc6.out.c0
      have c1c := HXc6.out.c1
      go_wp2_with fail
      clear c0c c1c
      have HXc7 := hide (HXc6.out.below_b ((Below.refl w6_.heap.size w6_).alloc (Nat.le_refl _) (.cells #[.int .u32 ca, .int .i64 (cb + 1)] 24)))
      have HXd7 := hide (HXd6.out.below_b ((Below.refl w6_.heap.size w6_).alloc (Nat.le_refl _) (.cells #[.int .u32 ca, .int .i64 (cb + 1)] 24)))
      have HB7_ := hide (HB6_.out.trans (((Below.refl w6_.heap.size w6_).alloc (Nat.le_refl _) (.cells #[.int .u32 ca, .int .i64 (cb + 1)] 24)).mono HB6_.out.size))
      have HSr7 := hide (HSr6.out.trans (((Below.refl w6_.heap.size w6_).alloc (Nat.le_refl _) (.cells #[.int .u32 ca, .int .i64 (cb + 1)] 24)).mono HSr6.out.size))
      have HXl7 : Hid (BoxAt (w6_.alloc (.cells #[.int .u32 ca, .int .i64 (cb + 1)] 24)) w6_.heap.size ca (cb + 1)) := hide (BoxAt.new w6_ ca (cb + 1))
      have hgl := hide HXl7.out.lt
      obtain ⟨W14, hW14⟩ : ∃ W14, (w6_.alloc (.cells #[.int .u32 ca, .int .i64 (cb + 1)] 24)) = W14 := ⟨_, rfl⟩
      have HYc := hide HXc7.out
      have HYd := hide HXd7.out
      have HYl := hide HXl7.out
      have HB14 := hide HB7_.out
      have HS14 := hide HSr7.out
      rw [hW14] at HYc HYd HYl HB14 HS14 ⊢
      clear hW14 hgl
      refine wp_region_held_drew (S := fun w' => Below W14.heap.size W14 w') (by kernel_rfl) ((Below.refl _ _).drew) (fun hHeld => ?_)
      refine wpAnyH_take (i := 0) (oi := { dst := some 124, op := Op.move (Operand.tmp 13), type := 37, pos := "law.go:51", after := #[], guard := none }) (v := ?_) rfl (by kernel_rfl) (by kernel_rfl) (by kernel_rfl) (fun _ _ _ h => h) (Or.inl ⟨by rfl, ?_⟩) hHeld ?_
      rotate_left
      · intro w hSw; (try dsimp only at hSw); go_simp; first | done | with_reducible rfl
      try simp only [Act.put, List.setIfInBounds_toArray, List.set_cons_zero, List.set_cons_succ]
      refine wpAnyH_take (i := 1) (oi := { dst := some 125, op := Op.call { callee := Callee.builtin Builtin.len, args := #[Operand.tmp 124], argTypes := #[37] }, type := 3, pos := "law.go:51", after := #[{ on := 0, ground := Ground.data }], guard := none }) (v := ?_) rfl (by kernel_rfl) (by kernel_rfl) (by kernel_rfl) (fun _ _ _ h => h) (Or.inl ⟨by rfl, ?_⟩) hHeld ?_
      rotate_left
      · intro w hSw; (try dsimp only at hSw); go_simp; first | done | with_reducible rfl
      try simp only [Act.put, List.setIfInBounds_toArray, List.set_cons_zero, List.set_cons_succ]
      refine wpAnyH_take (i := 2) (oi := { dst := some 126, op := Op.binOp BinOp.eql 3 (Operand.tmp 125) (Operand.const (Value.int IntKind.i64 2)) 3, type := 4, pos := "law.go:51", after := #[{ on := 1, ground := Ground.data }], guard := none }) (v := ?_) rfl (by kernel_rfl) (by kernel_rfl) (by kernel_rfl) (fun _ _ _ h => h) (Or.inl ⟨by rfl, ?_⟩) hHeld ?_
      rotate_left
      · intro w hSw; (try dsimp only at hSw); go_simp; first | done | with_reducible rfl
      try simp only [Act.put, List.setIfInBounds_toArray, List.set_cons_zero, List.set_cons_succ]
      refine wpAnyH_take (i := 3) (oi := { dst := some 127, op := Op.move (Operand.tmp 126), type := 4, pos := "law.go:51", after := #[{ on := 2, ground := Ground.data }], guard := none }) (v := ?_) rfl (by kernel_rfl) (by kernel_rfl) (by kernel_rfl) (fun _ _ _ h => h) (Or.inl ⟨by rfl, ?_⟩) hHeld ?_
      rotate_left
      · intro w hSw; (try dsimp only at hSw); go_simp; first | done | with_reducible rfl
      try simp only [Act.put, List.setIfInBounds_toArray, List.set_cons_zero, List.set_cons_succ]
      refine wpAnyH_take (i := 4) (oi := { dst := some 128, op := Op.move (Operand.tmp 13), type := 37, pos := "law.go:51", after := #[{ on := 3, ground := Ground.guard }], guard := some (3, true) }) (v := ?_) rfl (by kernel_rfl) (by kernel_rfl) (by kernel_rfl) (fun _ _ _ h => h) (Or.inl ⟨by rfl, ?_⟩) hHeld ?_
      rotate_left
      · intro w hSw; (try dsimp only at hSw); go_simp; first | done | with_reducible rfl
      try simp only [Act.put, List.setIfInBounds_toArray, List.set_cons_zero, List.set_cons_succ]
      refine wpAnyH_take (i := 5) (oi := { dst := some 129, op := Op.indexAddr 37 (Operand.tmp 128) (Operand.const (Value.int IntKind.i64 0)), type := 0, pos := "law.go:51", after := #[{ on := 4, ground := Ground.data }, { on := 3, ground := Ground.guard }], guard := some (3, true) }) (v := ?_) rfl (by kernel_rfl) (by kernel_rfl) (by kernel_rfl) (fun _ _ _ h => h) (Or.inl ⟨by rfl, ?_⟩) hHeld ?_
      rotate_left
      · intro w hSw; (try dsimp only at hSw); go_simp; first | done | with_reducible rfl
      try simp only [Act.put, List.setIfInBounds_toArray, List.set_cons_zero, List.set_cons_succ]
      refine wpAnyH_take (i := 6) (oi := { dst := some 130, op := Op.load 24 (Operand.tmp 129), type := 24, pos := "law.go:51", after := #[{ on := 5, ground := Ground.data }, { on := 3, ground := Ground.guard }], guard := some (3, true) }) (v := ?_) rfl (by kernel_rfl) (by kernel_rfl) (by kernel_rfl) (fun _ _ _ h => h) (Or.inl ⟨by rfl, ?_⟩) hHeld ?_
      rotate_left
      · intro w hSw; (try dsimp only at hSw); have e0 := (hSw.cell (p := ⟨g, 0, none⟩) (HYc.out.lt)).trans (HYc.out.c0); have e1 := (hSw.cell (p := ⟨g, 1, none⟩) (HYc.out.lt)).trans (HYc.out.c1); have e2 := (hSw.cell (p := ⟨w6_.heap.size, 0, none⟩) (HYl.out.lt)).trans (HYl.out.c0); have e3 := (hSw.cell (p := ⟨w6_.heap.size, 1, none⟩) (HYl.out.lt)).trans (HYl.out.c1); have e4 := (hSw.cell (p := ⟨gl, ol, none⟩) (Nat.lt_of_lt_of_le HBL.out HS14.out.size)).trans ((HS14.out.cell (p := ⟨gl, ol, none⟩) HBL.out).trans D0.out); have e5 := (hSw.cell (p := ⟨gl, ol + 1, none⟩) (Nat.lt_of_lt_of_le HBL.out HS14.out.size)).trans ((HS14.out.cell (p := ⟨gl, ol + 1, none⟩) HBL.out).trans D1.out); have e6 := (hSw.cell (p := ⟨gl, ol + 2, none⟩) (Nat.lt_of_lt_of_le HBL.out HS14.out.size)).trans ((HS14.out.cell (p := ⟨gl, ol + 2, none⟩) HBL.out).trans D2.out); have e7 := (hSw.cell (p := ⟨gl, ol + 3, none⟩) (Nat.lt_of_lt_of_le HBL.out HS14.out.size)).trans ((HS14.out.cell (p := ⟨gl, ol + 3, none⟩) HBL.out).trans D3.out); go_simp; first | done | with_reducible rfl
      try simp only [Act.put, List.setIfInBounds_toArray, List.set_cons_zero, List.set_cons_succ]
      refine wpAnyH_take (i := 7) (oi := { dst := some 131, op := Op.load 24 (Operand.tmp 16), type := 24, pos := "law.go:51", after := #[{ on := 3, ground := Ground.guard }], guard := some (3, true) }) (v := ?_) rfl (by kernel_rfl) (by kernel_rfl) (by kernel_rfl) (fun _ _ _ h => h) (Or.inl ⟨by rfl, ?_⟩) hHeld ?_
      rotate_left
      · intro w hSw; (try dsimp only at hSw); have e0 := (hSw.cell (p := ⟨g, 0, none⟩) (HYc.out.lt)).trans (HYc.out.c0); have e1 := (hSw.cell (p := ⟨g, 1, none⟩) (HYc.out.lt)).trans (HYc.out.c1); have e2 := (hSw.cell (p := ⟨w6_.heap.size, 0, none⟩) (HYl.out.lt)).trans (HYl.out.c0); have e3 := (hSw.cell (p := ⟨w6_.heap.size, 1, none⟩) (HYl.out.lt)).trans (HYl.out.c1); have e4 := (hSw.cell (p := ⟨gl, ol, none⟩) (Nat.lt_of_lt_of_le HBL.out HS14.out.size)).trans ((HS14.out.cell (p := ⟨gl, ol, none⟩) HBL.out).trans D0.out); have e5 := (hSw.cell (p := ⟨gl, ol + 1, none⟩) (Nat.lt_of_lt_of_le HBL.out HS14.out.size)).trans ((HS14.out.cell (p := ⟨gl, ol + 1, none⟩) HBL.out).trans D1.out); have e6 := (hSw.cell (p := ⟨gl, ol + 2, none⟩) (Nat.lt_of_lt_of_le HBL.out HS14.out.size)).trans ((HS14.out.cell (p := ⟨gl, ol + 2, none⟩) HBL.out).trans D2.out); have e7 := (hSw.cell (p := ⟨gl, ol + 3, none⟩) (Nat.lt_of_lt_of_le HBL.out HS14.out.size)).trans ((HS14.out.cell (p := ⟨gl, ol + 3, none⟩) HBL.out).trans D3.out); go_simp; first | done | with_reducible rfl
      try simp only [Act.put, List.setIfInBounds_toArray, List.set_cons_zero, List.set_cons_succ]
      refine wpAnyH_take (i := 8) (oi := { dst := some 132, op := Op.binOp BinOp.eql 24 (Operand.tmp 130) (Operand.tmp 131) 24, type := 4, pos := "law.go:51", after := #[{ on := 6, ground := Ground.data }, { on := 7, ground := Ground.data }, { on := 3, ground := Ground.guard }], guard := some (3, true) }) (v := ?_) rfl (by kernel_rfl) (by kernel_rfl) (by kernel_rfl) (fun _ _ _ h => h) (Or.inl ⟨by rfl, ?_⟩) hHeld ?_
      rotate_left
      · intro w hSw; (try dsimp only at hSw); have h := eq_nets ca (cb + 1) w; go_simp; first | done | with_reducible rfl
      try simp only [Act.put, List.setIfInBounds_toArray, List.set_cons_zero, List.set_cons_succ]
      refine wpAnyH_take (i := 9) (oi := { dst := some 133, op := Op.pick (Operand.tmp 127) (Operand.tmp 132) (Operand.const (Value.bool false)), type := 4, pos := "law.go:51", after := #[{ on := 3, ground := Ground.data }, { on := 8, ground := Ground.data }], guard := none }) (v := ?_) rfl (by kernel_rfl) (by kernel_rfl) (by kernel_rfl) (fun _ _ _ h => h) (Or.inl ⟨by rfl, ?_⟩) hHeld ?_
      rotate_left
      · intro w hSw; (try dsimp only at hSw); go_simp; first | done | with_reducible rfl
      try simp only [Act.put, List.setIfInBounds_toArray, List.set_cons_zero, List.set_cons_succ]
      refine wpAnyH_take (i := 10) (oi := { dst := some 134, op := Op.move (Operand.tmp 133), type := 4, pos := "law.go:51", after := #[{ on := 9, ground := Ground.data }, { on := 3, ground := Ground.chain }], guard := none }) (v := ?_) rfl (by kernel_rfl) (by kernel_rfl) (by kernel_rfl) (fun _ _ _ h => h) (Or.inl ⟨by rfl, ?_⟩) hHeld ?_
      rotate_left
      · intro w hSw; (try dsimp only at hSw); go_simp; first | done | with_reducible rfl
      try simp only [Act.put, List.setIfInBounds_toArray, List.set_cons_zero, List.set_cons_succ]
      refine wpAnyH_take (i := 11) (oi := { dst := some 135, op := Op.move (Operand.tmp 13), type := 37, pos := "law.go:51", after := #[{ on := 10, ground := Ground.guard }], guard := some (10, true) }) (v := ?_) rfl (by kernel_rfl) (by kernel_rfl) (by kernel_rfl) (fun _ _ _ h => h) (Or.inl ⟨by rfl, ?_⟩) hHeld ?_
      rotate_left
      · intro w hSw; (try dsimp only at hSw); go_simp; first | done | with_reducible rfl
      try simp only [Act.put, List.setIfInBounds_toArray, List.set_cons_zero, List.set_cons_succ]
      refine wpAnyH_take (i := 12) (oi := { dst := some 136, op := Op.indexAddr 37 (Operand.tmp 135) (Operand.const (Value.int IntKind.i64 1)), type := 0, pos := "law.go:51", after := #[{ on := 11, ground := Ground.data }, { on := 10, ground := Ground.guard }], guard := some (10, true) }) (v := ?_) rfl (by kernel_rfl) (by kernel_rfl) (by kernel_rfl) (fun _ _ _ h => h) (Or.inl ⟨by rfl, ?_⟩) hHeld ?_
      rotate_left
      · intro w hSw; (try dsimp only at hSw); go_simp; first | done | with_reducible rfl
      try simp only [Act.put, List.setIfInBounds_toArray, List.set_cons_zero, List.set_cons_succ]
      refine wpAnyH_take (i := 13) (oi := { dst := some 137, op := Op.load 24 (Operand.tmp 136), type := 24, pos := "law.go:51", after := #[{ on := 12, ground := Ground.data }, { on := 10, ground := Ground.guard }], guard := some (10, true) }) (v := ?_) rfl (by kernel_rfl) (by kernel_rfl) (by kernel_rfl) (fun _ _ _ h => h) (Or.inl ⟨by rfl, ?_⟩) hHeld ?_
      rotate_left
      · intro w hSw; (try dsimp only at hSw); have e0 := (hSw.cell (p := ⟨g, 0, none⟩) (HYc.out.lt)).trans (HYc.out.c0); have e1 := (hSw.cell (p := ⟨g, 1, none⟩) (HYc.out.lt)).trans (HYc.out.c1); have e2 := (hSw.cell (p := ⟨w6_.heap.size, 0, none⟩) (HYl.out.lt)).trans (HYl.out.c0); have e3 := (hSw.cell (p := ⟨w6_.heap.size, 1, none⟩) (HYl.out.lt)).trans (HYl.out.c1); have e4 := (hSw.cell (p := ⟨gl, ol, none⟩) (Nat.lt_of_lt_of_le HBL.out HS14.out.size)).trans ((HS14.out.cell (p := ⟨gl, ol, none⟩) HBL.out).trans D0.out); have e5 := (hSw.cell (p := ⟨gl, ol + 1, none⟩) (Nat.lt_of_lt_of_le HBL.out HS14.out.size)).trans ((HS14.out.cell (p := ⟨gl, ol + 1, none⟩) HBL.out).trans D1.out); have e6 := (hSw.cell (p := ⟨gl, ol + 2, none⟩) (Nat.lt_of_lt_of_le HBL.out HS14.out.size)).trans ((HS14.out.cell (p := ⟨gl, ol + 2, none⟩) HBL.out).trans D2.out); have e7 := (hSw.cell (p := ⟨gl, ol + 3, none⟩) (Nat.lt_of_lt_of_le HBL.out HS14.out.size)).trans ((HS14.out.cell (p := ⟨gl, ol + 3, none⟩) HBL.out).trans D3.out); go_simp; first | done | with_reducible rfl
      try simp only [Act.put, List.setIfInBounds_toArray, List.set_cons_zero, List.set_cons_succ]
      refine wpAnyH_take (i := 14) (oi := { dst := some 138, op := Op.load 24 (Operand.tmp 16), type := 24, pos := "law.go:51", after := #[{ on := 10, ground := Ground.guard }], guard := some (10, true) }) (v := ?_) rfl (by kernel_rfl) (by kernel_rfl) (by kernel_rfl) (fun _ _ _ h => h) (Or.inl ⟨by rfl, ?_⟩) hHeld ?_
      rotate_left
      · intro w hSw; (try dsimp only at hSw); have e0 := (hSw.cell (p := ⟨g, 0, none⟩) (HYc.out.lt)).trans (HYc.out.c0); have e1 := (hSw.cell (p := ⟨g, 1, none⟩) (HYc.out.lt)).trans (HYc.out.c1); have e2 := (hSw.cell (p := ⟨w6_.heap.size, 0, none⟩) (HYl.out.lt)).trans (HYl.out.c0); have e3 := (hSw.cell (p := ⟨w6_.heap.size, 1, none⟩) (HYl.out.lt)).trans (HYl.out.c1); have e4 := (hSw.cell (p := ⟨gl, ol, none⟩) (Nat.lt_of_lt_of_le HBL.out HS14.out.size)).trans ((HS14.out.cell (p := ⟨gl, ol, none⟩) HBL.out).trans D0.out); have e5 := (hSw.cell (p := ⟨gl, ol + 1, none⟩) (Nat.lt_of_lt_of_le HBL.out HS14.out.size)).trans ((HS14.out.cell (p := ⟨gl, ol + 1, none⟩) HBL.out).trans D1.out); have e6 := (hSw.cell (p := ⟨gl, ol + 2, none⟩) (Nat.lt_of_lt_of_le HBL.out HS14.out.size)).trans ((HS14.out.cell (p := ⟨gl, ol + 2, none⟩) HBL.out).trans D2.out); have e7 := (hSw.cell (p := ⟨gl, ol + 3, none⟩) (Nat.lt_of_lt_of_le HBL.out HS14.out.size)).trans ((HS14.out.cell (p := ⟨gl, ol + 3, none⟩) HBL.out).trans D3.out); go_simp; first | done | with_reducible rfl
      try simp only [Act.put, List.setIfInBounds_toArray, List.set_cons_zero, List.set_cons_succ]
      refine wpAnyH_take (i := 17) (oi := { dst := some 141, op := Op.fieldAddr 24 (Operand.tmp 5) 1, type := 0, pos := "law.go:51", after := #[{ on := 10, ground := Ground.guard }], guard := some (10, true) }) (v := ?_) rfl (by kernel_rfl) (by kernel_rfl) (by kernel_rfl) (fun _ _ _ h => h) (Or.inl ⟨by rfl, ?_⟩) hHeld ?_
      rotate_left
      · intro w hSw; (try dsimp only at hSw); go_simp; first | done | with_reducible rfl
      try simp only [Act.put, List.setIfInBounds_toArray, List.set_cons_zero, List.set_cons_succ]
      refine wpAnyH_take (i := 18) (oi := { dst := some 142, op := Op.load 3 (Operand.tmp 141), type := 3, pos := "law.go:51", after := #[{ on := 17, ground := Ground.data }, { on := 10, ground := Ground.guard }], guard := some (10, true) }) (v := ?_) rfl (by kernel_rfl) (by kernel_rfl) (by kernel_rfl) (fun _ _ _ h => h) (Or.inl ⟨by rfl, ?_⟩) hHeld ?_
      rotate_left
      · intro w hSw; (try dsimp only at hSw); have e0 := (hSw.cell (p := ⟨g, 0, none⟩) (HYc.out.lt)).trans (HYc.out.c0); have e1 := (hSw.cell (p := ⟨g, 1, none⟩) (HYc.out.lt)).trans (HYc.out.c1); have e2 := (hSw.cell (p := ⟨w6_.heap.size, 0, none⟩) (HYl.out.lt)).trans (HYl.out.c0); have e3 := (hSw.cell (p := ⟨w6_.heap.size, 1, none⟩) (HYl.out.lt)).trans (HYl.out.c1); have e4 := (hSw.cell (p := ⟨gl, ol, none⟩) (Nat.lt_of_lt_of_le HBL.out HS14.out.size)).trans ((HS14.out.cell (p := ⟨gl, ol, none⟩) HBL.out).trans D0.out); have e5 := (hSw.cell (p := ⟨gl, ol + 1, none⟩) (Nat.lt_of_lt_of_le HBL.out HS14.out.size)).trans ((HS14.out.cell (p := ⟨gl, ol + 1, none⟩) HBL.out).trans D1.out); have e6 := (hSw.cell (p := ⟨gl, ol + 2, none⟩) (Nat.lt_of_lt_of_le HBL.out HS14.out.size)).trans ((HS14.out.cell (p := ⟨gl, ol + 2, none⟩) HBL.out).trans D2.out); have e7 := (hSw.cell (p := ⟨gl, ol + 3, none⟩) (Nat.lt_of_lt_of_le HBL.out HS14.out.size)).trans ((HS14.out.cell (p := ⟨gl, ol + 3, none⟩) HBL.out).trans D3.out); go_simp; first | done | with_reducible rfl
      try simp only [Act.put, List.setIfInBounds_toArray, List.set_cons_zero, List.set_cons_succ]
      refine wpAnyH_take (i := 19) (oi := { dst := some 143, op := Op.binOp BinOp.add 3 (Operand.tmp 142) (Operand.const (Value.int IntKind.i64 1)) 3, type := 3, pos := "law.go:51", after := #[{ on := 18, ground := Ground.data }, { on := 10, ground := Ground.guard }], guard := some (10, true) }) (v := ?_) rfl (by kernel_rfl) (by kernel_rfl) (by kernel_rfl) (fun _ _ _ h => h) (Or.inl ⟨by rfl, ?_⟩) hHeld ?_
      rotate_left
      · intro w hSw; (try dsimp only at hSw); have h := hb64; go_simp; first | done | with_reducible rfl
      try simp only [Act.put, List.setIfInBounds_toArray, List.set_cons_zero, List.set_cons_succ]
      refine wpAnyH_ready (rs := [15]) (by kernel_rfl) (by simp) ?_
      refine AllReadyH.cons (o := { dst := some 139, op := Op.call { callee := Callee.value (Operand.func 31), args := #[Operand.tmp 138], argTypes := #[24] }, type := 22, pos := "law.go:51", after := #[{ on := 14, ground := Ground.data }, { on := 10, ground := Ground.chain }, { on := 10, ground := Ground.guard }], guard := some (10, true) }) rfl (fun K hK => ?_) AllReadyH.nil
      clear hHeld
      go_simp
      refine (HLL.out _).mono ?_
      rintro e wr1 ⟨rfl, hB⟩
      have HR1 := hide (((Below.refl W14.heap.size W14).drew).trans (hB.mono ((Below.refl W14.heap.size W14).drew).size))
      clear hB
      refine hK.out _ _ (HR1.out) (fun hHeld => ?_)
      clear hK K
      try simp only [Act.put, List.setIfInBounds_toArray, List.set_cons_zero, List.set_cons_succ]
      refine wpAnyH_take (i := 16) (oi := { dst := some 140, op := Op.binOp BinOp.add 22 (Operand.tmp 139) (Operand.const (Value.int IntKind.u32 1)) 22, type := 22, pos := "law.go:51", after := #[{ on := 15, ground := Ground.data }, { on := 10, ground := Ground.guard }], guard := some (10, true) }) (v := ?_) rfl (by kernel_rfl) (by kernel_rfl) (by kernel_rfl) (fun _ _ _ h => h) (Or.inl ⟨by rfl, ?_⟩) hHeld ?_
      rotate_left
      · intro w hSw; (try dsimp only at hSw); have h := hw1; go_simp; first | done | with_reducible rfl
      try simp only [Act.put, List.setIfInBounds_toArray, List.set_cons_zero, List.set_cons_succ]
      refine wpAnyH_take (i := 20) (oi := { dst := some 144, op := Op.build 24 #[(0, Operand.tmp 140), (1, Operand.tmp 143)], type := 24, pos := "law.go:51", after := #[{ on := 16, ground := Ground.data }, { on := 19, ground := Ground.data }, { on := 10, ground := Ground.guard }], guard := some (10, true) }) (v := ?_) rfl (by kernel_rfl) (by kernel_rfl) (by kernel_rfl) (fun _ _ _ h => h) (Or.inl ⟨by rfl, ?_⟩) hHeld ?_
      rotate_left
      · intro w hSw; (try dsimp only at hSw); go_simp; first | done | with_reducible rfl
      try simp only [Act.put, List.setIfInBounds_toArray, List.set_cons_zero, List.set_cons_succ]
      refine wpAnyH_take (i := 21) (oi := { dst := some 145, op := Op.binOp BinOp.eql 24 (Operand.tmp 137) (Operand.tmp 144) 24, type := 4, pos := "law.go:51", after := #[{ on := 13, ground := Ground.data }, { on := 20, ground := Ground.data }, { on := 10, ground := Ground.guard }], guard := some (10, true) }) (v := ?_) rfl (by kernel_rfl) (by kernel_rfl) (by kernel_rfl) (fun _ _ _ h => h) (Or.inl ⟨by rfl, ?_⟩) hHeld ?_
      rotate_left
      · intro w hSw; (try dsimp only at hSw); have h := eq_nets y2 (cb + 1) w; go_simp; first | done | with_reducible rfl
      try simp only [Act.put, List.setIfInBounds_toArray, List.set_cons_zero, List.set_cons_succ]
      refine wpAnyH_take (i := 22) (oi := { dst := some 146, op := Op.pick (Operand.tmp 134) (Operand.tmp 145) (Operand.const (Value.bool false)), type := 4, pos := "law.go:51", after := #[{ on := 10, ground := Ground.data }, { on := 21, ground := Ground.data }], guard := none }) (v := ?_) rfl (by kernel_rfl) (by kernel_rfl) (by kernel_rfl) (fun _ _ _ h => h) (Or.inl ⟨by rfl, ?_⟩) hHeld ?_
      rotate_left
      · intro w hSw; (try dsimp only at hSw); go_simp; first | done | with_reducible rfl
      try simp only [Act.put, List.setIfInBounds_toArray, List.set_cons_zero, List.set_cons_succ]
      refine wpAnyH_take (i := 23) (oi := { dst := some 147, op := Op.move (Operand.tmp 146), type := 4, pos := "law.go:51", after := #[{ on := 22, ground := Ground.data }, { on := 15, ground := Ground.chain }], guard := none }) (v := ?_) rfl (by kernel_rfl) (by kernel_rfl) (by kernel_rfl) (fun _ _ _ h => h) (Or.inl ⟨by rfl, ?_⟩) hHeld ?_
      rotate_left
      · intro w hSw; (try dsimp only at hSw); go_simp; first | done | with_reducible rfl
      try simp only [Act.put, List.setIfInBounds_toArray, List.set_cons_zero, List.set_cons_succ]
      refine wpAnyH_ready (rs := [24]) (by kernel_rfl) (by simp) ?_
      refine AllReadyH.cons (o := { dst := some 148, op := Op.call { callee := Callee.value (Operand.func 10), args := #[], argTypes := #[] }, type := 4, pos := "law.go:51", after := #[{ on := 23, ground := Ground.chain }, { on := 23, ground := Ground.guard }], guard := some (23, true) }) rfl (fun K hK => ?_) AllReadyH.nil
      clear hHeld
      go_simp
      refine (awake_any _ (HE.out.below (HB14.out.trans (HR1.out.mono HB14.out.size)))).mono ?_
      rintro e wr2 ⟨rfl, hB⟩
      have HR2 := hide (HR1.out.trans (hB.mono HR1.out.size))
      clear hB
      refine hK.out _ _ (HR2.out) (fun hHeld => ?_)
      clear hK K
      try simp only [Act.put, List.setIfInBounds_toArray, List.set_cons_zero, List.set_cons_succ]
      refine wpAnyH_take (i := 25) (oi := { dst := some 149, op := Op.pick (Operand.tmp 147) (Operand.tmp 148) (Operand.const (Value.bool false)), type := 4, pos := "law.go:51", after := #[{ on := 23, ground := Ground.data }, { on := 24, ground := Ground.data }], guard := none }) (v := ?_) rfl (by kernel_rfl) (by kernel_rfl) (by kernel_rfl) (fun _ _ _ h => h) (Or.inl ⟨by rfl, ?_⟩) hHeld ?_
      rotate_left
      · intro w hSw; (try dsimp only at hSw); go_simp; first | done | with_reducible rfl
      try simp only [Act.put, List.setIfInBounds_toArray, List.set_cons_zero, List.set_cons_succ]
      refine wpAnyH_take (i := 26) (oi := { dst := some 8, op := Op.assign (Operand.tmp 149), type := 4, pos := "law.go:51", after := #[{ on := 25, ground := Ground.data }, { on := 24, ground := Ground.chain }, { on := 0, ground := Ground.phase }, { on := 1, ground := Ground.phase }, { on := 2, ground := Ground.phase }, { on := 3, ground := Ground.phase }, { on := 4, ground := Ground.phase }, { on := 5, ground := Ground.phase }, { on := 6, ground := Ground.phase }, { on := 7, ground := Ground.phase }, { on := 8, ground := Ground.phase }, { on := 9, ground := Ground.phase }, { on := 10, ground := Ground.phase }, { on := 11, ground := Ground.phase }, { on := 12, ground := Ground.phase }, { on := 13, ground := Ground.phase }, { on := 14, ground := Ground.phase }, { on := 15, ground := Ground.phase }, { on := 16, ground := Ground.phase }, { on := 17, ground := Ground.phase }, { on := 18, ground := Ground.phase }, { on := 19, ground := Ground.phase }, { on := 20, ground := Ground.phase }, { on := 21, ground := Ground.phase }, { on := 22, ground := Ground.phase }, { on := 23, ground := Ground.phase }, { on := 24, ground := Ground.phase }, { on := 25, ground := Ground.phase }], guard := none }) (v := ?_) rfl (by kernel_rfl) (by kernel_rfl) (by kernel_rfl) (fun _ _ _ h => h) (Or.inl ⟨by rfl, ?_⟩) hHeld ?_
      rotate_left
      · intro w hSw; (try dsimp only at hSw); go_simp; first | done | with_reducible rfl
      try simp only [Act.put, List.setIfInBounds_toArray, List.set_cons_zero, List.set_cons_succ]
      refine wpAnyH_done (by kernel_rfl) ?_ _
      clear hHeld
      go_wp2_with fail
      go_ret
      exact ⟨rfl, HB14.out.trans (HR2.out.mono HB14.out.size)⟩
    · have h32b : c.b = 32 := by have := ho.hi; omega
      have HHQ := HHN (.inr h32b)
      have h32d : decide (c.b < 32) = false := by simpa using h32
      have HB32 := Tuck.mk h32b
      clear ho HHA HHN hm hcp h32 h32b
      generalize c.a + (sz c.b - 1) = y3 at *
      obtain ⟨ca, cb⟩ := c
      obtain ⟨da, db⟩ := d
      unfold Net.val at *
      dsimp only at *
      clear hc hd ha
      go_enter Tryd.func4, Tryd.ntmps4
      go_wp2_with fail
      have HXc := hide HX0.out
      have HXd := hide HY0.out
      have HBs := hide HB0.out
      clear HX0 HY0 HB0
      generalize ((w.alloc (.cells #[.int .u32 ca, .int .i64 cb] 24)).alloc (.cells #[.int .u32 da, .int .i64 db] 24)) = W0 at *
      obtain ⟨g, hg⟩ : ∃ g, w.heap.size = g := ⟨_, rfl⟩
      rw [hg] at HXc HXd ⊢
      clear hg
      have c0c := HXc.out.c0
      have c1c := HXc.out.c1
      refine (HFI.out _).mono ?_
      rintro e w1_ ⟨rfl, hB⟩
      clear c0c c1c
      have HXc1 := hide (HXc.out.below_b hB)
      have HXd1 := hide (HXd.out.below_b hB)
      have HB1_ := hide (HBs.out.trans (hB.mono HBs.out.size))
      clear hB
      have c0c := HXc1.out.c0
      have c1c := HXc1.out.c1
      go_wp2_with fail
      refine (HLA.out _).mono ?_
      rintro e w2_ ⟨rfl, hB⟩
      clear c0c c1c
      have HXc2 := hide (HXc1.out.below_b hB)
      have HXd2 := hide (HXd1.out.below_b hB)
      have HB2_ := hide (HB1_.out.trans (hB.mono HB1_.out.size))
      clear hB
      have c0c := HXc2.out.c0
      have c1c := HXc2.out.c1
      go_wp2_with fail
      refine (HHQ.out _).mono ?_
      rintro e w3_ ⟨rfl, hB⟩
      clear c0c c1c
      have HXc3 := hide (HXc2.out.below_b hB)
      have HXd3 := hide (HXd2.out.below_b hB)
      have HB3_ := hide (HB2_.out.trans (hB.mono HB2_.out.size))
      clear hB
      have c0c := HXc3.out.c0
      have c1c := HXc3.out.c1
      go_wp2_with fail
      refine (HMR.out _).mono ?_
      rintro e w4_ ⟨rfl, hB⟩
      clear c0c c1c
      have HXc4 := hide (HXc3.out.below_b hB)
      have HXd4 := hide (HXd3.out.below_b hB)
      have HB4_ := hide (HB3_.out.trans (hB.mono HB3_.out.size))
      clear hB
      go_wp2_with fail
      have HMP : Hid (∀ W : World, Calls Tryd.prog 24 #[.int .i64 bits] W (fun e w' => e = .returned (.int .u32 (mk : Nat)) ∧ Below W.heap.size W w')) := hide (fun W => (HMA.out W).mono (by rintro e w' ⟨rfl, rfl⟩; exact ⟨rfl, Below.refl _ _⟩))
      have HMQ : Hid (∀ W : World, Calls Tryd.prog 25 #[.int .i64 bits] W (fun e w' => e = .returned (.int .u32 (mk : Nat)) ∧ Below W.heap.size W w')) := hide (fun W => (HMB.out W).mono (by rintro e w' ⟨rfl, rfl⟩; exact ⟨rfl, Below.refl _ _⟩))
      refine wp_region_held_drew (S := fun w' => Below w4_.heap.size w4_ w') (by kernel_rfl) ((Below.refl _ _).drew) (fun hHeld => ?_)
      refine wpAnyH_take (i := 0) (oi := { dst := some 34, op := Op.move (Operand.tmp 0), type := 3, pos := "law.go:38", after := #[], guard := none }) (v := ?_) rfl (by kernel_rfl) (by kernel_rfl) (by kernel_rfl) (fun _ _ _ h => h) (Or.inl ⟨by rfl, ?_⟩) hHeld ?_
      rotate_left
      · intro w hSw; (try dsimp only at hSw); go_simp; first | done | with_reducible rfl
      try simp only [Act.put, List.setIfInBounds_toArray, List.set_cons_zero, List.set_cons_succ]
      refine wpAnyH_take (i := 2) (oi := { dst := some 36, op := Op.move (Operand.tmp 0), type := 3, pos := "law.go:38", after := #[], guard := none }) (v := ?_) rfl (by kernel_rfl) (by kernel_rfl) (by kernel_rfl) (fun _ _ _ h => h) (Or.inl ⟨by rfl, ?_⟩) hHeld ?_
      rotate_left
      · intro w hSw; (try dsimp only at hSw); go_simp; first | done | with_reducible rfl
      try simp only [Act.put, List.setIfInBounds_toArray, List.set_cons_zero, List.set_cons_succ]
      refine wpAnyH_ready (rs := [1]) (by kernel_rfl) (by simp) ?_
      refine AllReadyH.cons (o := { dst := some 35, op := Op.call { callee := Callee.value (Operand.func 24), args := #[Operand.tmp 34], argTypes := #[3] }, type := 22, pos := "law.go:38", after := #[{ on := 0, ground := Ground.data }], guard := none }) rfl (fun K hK => ?_) AllReadyH.nil
      clear hHeld
      go_simp
      refine (HMP.out _).mono ?_
      rintro e wr1 ⟨rfl, hB⟩
      have HR1 := hide (((Below.refl w4_.heap.size w4_).drew).trans (hB.mono ((Below.refl w4_.heap.size w4_).drew).size))
      clear hB
      refine hK.out _ _ (HR1.out) (fun hHeld => ?_)
      clear hK K
      try simp only [Act.put, List.setIfInBounds_toArray, List.set_cons_zero, List.set_cons_succ]
      refine wpAnyH_ready (rs := [3]) (by kernel_rfl) (by simp) ?_
      refine AllReadyH.cons (o := { dst := some 37, op := Op.call { callee := Callee.value (Operand.func 25), args := #[Operand.tmp 36], argTypes := #[3] }, type := 22, pos := "law.go:38", after := #[{ on := 2, ground := Ground.data }, { on := 1, ground := Ground.chain }], guard := none }) rfl (fun K hK => ?_) AllReadyH.nil
      clear hHeld
      go_simp
      refine (HMQ.out _).mono ?_
      rintro e wr2 ⟨rfl, hB⟩
      have HR2 := hide (HR1.out.trans (hB.mono HR1.out.size))
      clear hB
      refine hK.out _ _ (HR2.out) (fun hHeld => ?_)
      clear hK K
      try simp only [Act.put, List.setIfInBounds_toArray, List.set_cons_zero, List.set_cons_succ]
      refine wpAnyH_take (i := 4) (oi := { dst := some 38, op := Op.binOp BinOp.neq 22 (Operand.tmp 35) (Operand.tmp 37) 22, type := 4, pos := "law.go:38", after := #[{ on := 1, ground := Ground.data }, { on := 3, ground := Ground.data }], guard := none }) (v := ?_) rfl (by kernel_rfl) (by kernel_rfl) (by kernel_rfl) (fun _ _ _ h => h) (Or.inl ⟨by rfl, ?_⟩) hHeld ?_
      rotate_left
      · intro w hSw; (try dsimp only at hSw); go_simp; first | done | with_reducible rfl
      try simp only [Act.put, List.setIfInBounds_toArray, List.set_cons_zero, List.set_cons_succ]
      refine wpAnyH_take (i := 5) (oi := { dst := some 39, op := Op.move (Operand.tmp 38), type := 4, pos := "law.go:38", after := #[{ on := 4, ground := Ground.data }, { on := 3, ground := Ground.chain }], guard := none }) (v := ?_) rfl (by kernel_rfl) (by kernel_rfl) (by kernel_rfl) (fun _ _ _ h => h) (Or.inl ⟨by rfl, ?_⟩) hHeld ?_
      rotate_left
      · intro w hSw; (try dsimp only at hSw); go_simp; first | done | with_reducible rfl
      try simp only [Act.put, List.setIfInBounds_toArray, List.set_cons_zero, List.set_cons_succ]
      refine wpAnyH_take (i := 6) (oi := { dst := some 40, op := Op.load 24 (Operand.tmp 5), type := 24, pos := "law.go:38", after := #[{ on := 5, ground := Ground.guard }], guard := some (5, false) }) (v := ?_) rfl (by kernel_rfl) (by kernel_rfl) (by kernel_rfl) (fun _ _ _ h => h) (Or.inl ⟨by rfl, ?_⟩) hHeld ?_
      rotate_left
      · intro w hSw; (try dsimp only at hSw); have e0 := (hSw.cell (p := ⟨g, 0, none⟩) HXc4.out.lt).trans HXc4.out.c0; have e1 := (hSw.cell (p := ⟨g, 1, none⟩) HXc4.out.lt).trans HXc4.out.c1; have e2 := (hSw.cell (p := ⟨g + 1, 0, none⟩) HXd4.out.lt).trans HXd4.out.c0; have e3 := (hSw.cell (p := ⟨g + 1, 1, none⟩) HXd4.out.lt).trans HXd4.out.c1; go_simp; first | done | with_reducible rfl
      try simp only [Act.put, List.setIfInBounds_toArray, List.set_cons_zero, List.set_cons_succ]
      refine wpAnyH_take (i := 8) (oi := { dst := some 42, op := Op.move (Operand.tmp 15), type := 4, pos := "law.go:38", after := #[{ on := 5, ground := Ground.guard }], guard := some (5, false) }) (v := ?_) rfl (by kernel_rfl) (by kernel_rfl) (by kernel_rfl) (fun _ _ _ h => h) (Or.inl ⟨by rfl, ?_⟩) hHeld ?_
      rotate_left
      · intro w hSw; (try dsimp only at hSw); go_simp; first | done | with_reducible rfl
      try simp only [Act.put, List.setIfInBounds_toArray, List.set_cons_zero, List.set_cons_succ]
      refine wpAnyH_ready (rs := [7]) (by kernel_rfl) (by simp) ?_
      refine AllReadyH.cons (o := { dst := some 41, op := Op.call { callee := Callee.value (Operand.func 26), args := #[Operand.tmp 40], argTypes := #[24] }, type := 4, pos := "law.go:38", after := #[{ on := 6, ground := Ground.data }, { on := 5, ground := Ground.chain }, { on := 5, ground := Ground.guard }], guard := some (5, false) }) rfl (fun K hK => ?_) AllReadyH.nil
      clear hHeld
      go_simp
      refine (HMC.out _).mono ?_
      rintro e wr3 ⟨rfl, hB⟩
      have HR3 := hide (HR2.out.trans (hB.mono HR2.out.size))
      clear hB
      refine hK.out _ _ (HR3.out) (fun hHeld => ?_)
      clear hK K
      try simp only [Act.put, List.setIfInBounds_toArray, List.set_cons_zero, List.set_cons_succ]
      refine wpAnyH_take (i := 9) (oi := { dst := some 43, op := Op.binOp BinOp.neq 4 (Operand.tmp 41) (Operand.tmp 42) 4, type := 4, pos := "law.go:38", after := #[{ on := 7, ground := Ground.data }, { on := 8, ground := Ground.data }, { on := 5, ground := Ground.guard }], guard := some (5, false) }) (v := ?_) rfl (by kernel_rfl) (by kernel_rfl) (by kernel_rfl) (fun _ _ _ h => h) (Or.inl ⟨by rfl, ?_⟩) hHeld ?_
      rotate_left
      · intro w hSw; (try dsimp only at hSw); go_simp; first | done | with_reducible rfl
      try simp only [Act.put, List.setIfInBounds_toArray, List.set_cons_zero, List.set_cons_succ]
      refine wpAnyH_take (i := 10) (oi := { dst := some 44, op := Op.pick (Operand.tmp 39) (Operand.const (Value.bool true)) (Operand.tmp 43), type := 4, pos := "law.go:38", after := #[{ on := 5, ground := Ground.data }, { on := 9, ground := Ground.data }], guard := none }) (v := ?_) rfl (by kernel_rfl) (by kernel_rfl) (by kernel_rfl) (fun _ _ _ h => h) (Or.inl ⟨by rfl, ?_⟩) hHeld ?_
      rotate_left
      · intro w hSw; (try dsimp only at hSw); go_simp; first | done | with_reducible rfl
      try simp only [Act.put, List.setIfInBounds_toArray, List.set_cons_zero, List.set_cons_succ]
      refine wpAnyH_take (i := 11) (oi := { dst := some 45, op := Op.move (Operand.tmp 44), type := 4, pos := "law.go:38", after := #[{ on := 10, ground := Ground.data }, { on := 7, ground := Ground.chain }], guard := none }) (v := ?_) rfl (by kernel_rfl) (by kernel_rfl) (by kernel_rfl) (fun _ _ _ h => h) (Or.inl ⟨by rfl, ?_⟩) hHeld ?_
      rotate_left
      · intro w hSw; (try dsimp only at hSw); go_simp; first | done | with_reducible rfl
      try simp only [Act.put, List.setIfInBounds_toArray, List.set_cons_zero, List.set_cons_succ]
      refine wpAnyH_take (i := 12) (oi := { dst := some 46, op := Op.load 24 (Operand.tmp 5), type := 24, pos := "law.go:38", after := #[{ on := 11, ground := Ground.guard }], guard := some (11, false) }) (v := ?_) rfl (by kernel_rfl) (by kernel_rfl) (by kernel_rfl) (fun _ _ _ h => h) (Or.inl ⟨by rfl, ?_⟩) hHeld ?_
      rotate_left
      · intro w hSw; (try dsimp only at hSw); have e0 := (hSw.cell (p := ⟨g, 0, none⟩) HXc4.out.lt).trans HXc4.out.c0; have e1 := (hSw.cell (p := ⟨g, 1, none⟩) HXc4.out.lt).trans HXc4.out.c1; have e2 := (hSw.cell (p := ⟨g + 1, 0, none⟩) HXd4.out.lt).trans HXd4.out.c0; have e3 := (hSw.cell (p := ⟨g + 1, 1, none⟩) HXd4.out.lt).trans HXd4.out.c1; go_simp; first | done | with_reducible rfl
      try simp only [Act.put, List.setIfInBounds_toArray, List.set_cons_zero, List.set_cons_succ]
      refine wpAnyH_take (i := 13) (oi := { dst := some 47, op := Op.move (Operand.tmp 3), type := 22, pos := "law.go:38", after := #[{ on := 11, ground := Ground.guard }], guard := some (11, false) }) (v := ?_) rfl (by kernel_rfl) (by kernel_rfl) (by kernel_rfl) (fun _ _ _ h => h) (Or.inl ⟨by rfl, ?_⟩) hHeld ?_
      rotate_left
      · intro w hSw; (try dsimp only at hSw); go_simp; first | done | with_reducible rfl
      try simp only [Act.put, List.setIfInBounds_toArray, List.set_cons_zero, List.set_cons_succ]
      refine wpAnyH_take (i := 15) (oi := { dst := some 49, op := Op.load 24 (Operand.tmp 5), type := 24, pos := "law.go:38", after := #[{ on := 11, ground := Ground.guard }], guard := some (11, false) }) (v := ?_) rfl (by kernel_rfl) (by kernel_rfl) (by kernel_rfl) (fun _ _ _ h => h) (Or.inl ⟨by rfl, ?_⟩) hHeld ?_
      rotate_left
      · intro w hSw; (try dsimp only at hSw); have e0 := (hSw.cell (p := ⟨g, 0, none⟩) HXc4.out.lt).trans HXc4.out.c0; have e1 := (hSw.cell (p := ⟨g, 1, none⟩) HXc4.out.lt).trans HXc4.out.c1; have e2 := (hSw.cell (p := ⟨g + 1, 0, none⟩) HXd4.out.lt).trans HXd4.out.c0; have e3 := (hSw.cell (p := ⟨g + 1, 1, none⟩) HXd4.out.lt).trans HXd4.out.c1; go_simp; first | done | with_reducible rfl
      try simp only [Act.put, List.setIfInBounds_toArray, List.set_cons_zero, List.set_cons_succ]
      refine wpAnyH_take (i := 16) (oi := { dst := some 50, op := Op.move (Operand.tmp 3), type := 22, pos := "law.go:38", after := #[{ on := 11, ground := Ground.guard }], guard := some (11, false) }) (v := ?_) rfl (by kernel_rfl) (by kernel_rfl) (by kernel_rfl) (fun _ _ _ h => h) (Or.inl ⟨by rfl, ?_⟩) hHeld ?_
      rotate_left
      · intro w hSw; (try dsimp only at hSw); go_simp; first | done | with_reducible rfl
      try simp only [Act.put, List.setIfInBounds_toArray, List.set_cons_zero, List.set_cons_succ]
      refine wpAnyH_ready (rs := [14]) (by kernel_rfl) (by simp) ?_
      refine AllReadyH.cons (o := { dst := some 48, op := Op.call { callee := Callee.value (Operand.func 27), args := #[Operand.tmp 46, Operand.tmp 47], argTypes := #[24, 22] }, type := 4, pos := "law.go:38", after := #[{ on := 12, ground := Ground.data }, { on := 13, ground := Ground.data }, { on := 11, ground := Ground.chain }, { on := 11, ground := Ground.guard }], guard := some (11, false) }) rfl (fun K hK => ?_) AllReadyH.nil
      clear hHeld
      go_simp
      refine (HIC.out _).mono ?_
      rintro e wr4 ⟨rfl, hB⟩
      have HR4 := hide (HR3.out.trans (hB.mono HR3.out.size))
      clear hB
      refine hK.out _ _ (HR4.out) (fun hHeld => ?_)
      clear hK K
      try simp only [Act.put, List.setIfInBounds_toArray, List.set_cons_zero, List.set_cons_succ]
      refine wpAnyH_ready (rs := [17]) (by kernel_rfl) (by simp) ?_
      refine AllReadyH.cons (o := { dst := some 51, op := Op.call { callee := Callee.value (Operand.func 28), args := #[Operand.tmp 49, Operand.tmp 50], argTypes := #[24, 22] }, type := 4, pos := "law.go:38", after := #[{ on := 15, ground := Ground.data }, { on := 16, ground := Ground.data }, { on := 14, ground := Ground.chain }, { on := 11, ground := Ground.guard }], guard := some (11, false) }) rfl (fun K hK => ?_) AllReadyH.nil
      clear hHeld
      go_simp
      refine (HIR.out _).mono ?_
      rintro e wr5 ⟨rfl, hB⟩
      have HR5 := hide (HR4.out.trans (hB.mono HR4.out.size))
      clear hB
      refine hK.out _ _ (HR5.out) (fun hHeld => ?_)
      clear hK K
      try simp only [Act.put, List.setIfInBounds_toArray, List.set_cons_zero, List.set_cons_succ]
      refine wpAnyH_take (i := 18) (oi := { dst := some 52, op := Op.binOp BinOp.neq 4 (Operand.tmp 48) (Operand.tmp 51) 4, type := 4, pos := "law.go:38", after := #[{ on := 14, ground := Ground.data }, { on := 17, ground := Ground.data }, { on := 11, ground := Ground.guard }], guard := some (11, false) }) (v := ?_) rfl (by kernel_rfl) (by kernel_rfl) (by kernel_rfl) (fun _ _ _ h => h) (Or.inl ⟨by rfl, ?_⟩) hHeld ?_
      rotate_left
      · intro w hSw; (try dsimp only at hSw); go_simp; first | done | with_reducible rfl
      try simp only [Act.put, List.setIfInBounds_toArray, List.set_cons_zero, List.set_cons_succ]
      refine wpAnyH_take (i := 19) (oi := { dst := some 53, op := Op.pick (Operand.tmp 45) (Operand.const (Value.bool true)) (Operand.tmp 52), type := 4, pos := "law.go:38", after := #[{ on := 11, ground := Ground.data }, { on := 18, ground := Ground.data }], guard := none }) (v := ?_) rfl (by kernel_rfl) (by kernel_rfl) (by kernel_rfl) (fun _ _ _ h => h) (Or.inl ⟨by rfl, ?_⟩) hHeld ?_
      rotate_left
      · intro w hSw; (try dsimp only at hSw); go_simp; first | done | with_reducible rfl
      try simp only [Act.put, List.setIfInBounds_toArray, List.set_cons_zero, List.set_cons_succ]
      refine wpAnyH_take (i := 20) (oi := { dst := some 54, op := Op.move (Operand.tmp 53), type := 4, pos := "law.go:38", after := #[{ on := 19, ground := Ground.data }, { on := 17, ground := Ground.chain }], guard := none }) (v := ?_) rfl (by kernel_rfl) (by kernel_rfl) (by kernel_rfl) (fun _ _ _ h => h) (Or.inl ⟨by rfl, ?_⟩) hHeld ?_
      rotate_left
      · intro w hSw; (try dsimp only at hSw); go_simp; first | done | with_reducible rfl
      try simp only [Act.put, List.setIfInBounds_toArray, List.set_cons_zero, List.set_cons_succ]
      refine wpAnyH_take (i := 21) (oi := { dst := some 55, op := Op.load 24 (Operand.tmp 5), type := 24, pos := "law.go:38", after := #[{ on := 20, ground := Ground.guard }], guard := some (20, false) }) (v := ?_) rfl (by kernel_rfl) (by kernel_rfl) (by kernel_rfl) (fun _ _ _ h => h) (Or.inl ⟨by rfl, ?_⟩) hHeld ?_
      rotate_left
      · intro w hSw; (try dsimp only at hSw); have e0 := (hSw.cell (p := ⟨g, 0, none⟩) HXc4.out.lt).trans HXc4.out.c0; have e1 := (hSw.cell (p := ⟨g, 1, none⟩) HXc4.out.lt).trans HXc4.out.c1; have e2 := (hSw.cell (p := ⟨g + 1, 0, none⟩) HXd4.out.lt).trans HXd4.out.c0; have e3 := (hSw.cell (p := ⟨g + 1, 1, none⟩) HXd4.out.lt).trans HXd4.out.c1; go_simp; first | done | with_reducible rfl
      try simp only [Act.put, List.setIfInBounds_toArray, List.set_cons_zero, List.set_cons_succ]
      refine wpAnyH_take (i := 22) (oi := { dst := some 56, op := Op.load 24 (Operand.tmp 6), type := 24, pos := "law.go:38", after := #[{ on := 20, ground := Ground.guard }], guard := some (20, false) }) (v := ?_) rfl (by kernel_rfl) (by kernel_rfl) (by kernel_rfl) (fun _ _ _ h => h) (Or.inl ⟨by rfl, ?_⟩) hHeld ?_
      rotate_left
      · intro w hSw; (try dsimp only at hSw); have e0 := (hSw.cell (p := ⟨g, 0, none⟩) HXc4.out.lt).trans HXc4.out.c0; have e1 := (hSw.cell (p := ⟨g, 1, none⟩) HXc4.out.lt).trans HXc4.out.c1; have e2 := (hSw.cell (p := ⟨g + 1, 0, none⟩) HXd4.out.lt).trans HXd4.out.c0; have e3 := (hSw.cell (p := ⟨g + 1, 1, none⟩) HXd4.out.lt).trans HXd4.out.c1; go_simp; first | done | with_reducible rfl
      try simp only [Act.put, List.setIfInBounds_toArray, List.set_cons_zero, List.set_cons_succ]
      refine wpAnyH_take (i := 24) (oi := { dst := some 58, op := Op.load 24 (Operand.tmp 5), type := 24, pos := "law.go:38", after := #[{ on := 20, ground := Ground.guard }], guard := some (20, false) }) (v := ?_) rfl (by kernel_rfl) (by kernel_rfl) (by kernel_rfl) (fun _ _ _ h => h) (Or.inl ⟨by rfl, ?_⟩) hHeld ?_
      rotate_left
      · intro w hSw; (try dsimp only at hSw); have e0 := (hSw.cell (p := ⟨g, 0, none⟩) HXc4.out.lt).trans HXc4.out.c0; have e1 := (hSw.cell (p := ⟨g, 1, none⟩) HXc4.out.lt).trans HXc4.out.c1; have e2 := (hSw.cell (p := ⟨g + 1, 0, none⟩) HXd4.out.lt).trans HXd4.out.c0; have e3 := (hSw.cell (p := ⟨g + 1, 1, none⟩) HXd4.out.lt).trans HXd4.out.c1; go_simp; first | done | with_reducible rfl
      try simp only [Act.put, List.setIfInBounds_toArray, List.set_cons_zero, List.set_cons_succ]
      refine wpAnyH_take (i := 25) (oi := { dst := some 59, op := Op.load 24 (Operand.tmp 6), type := 24, pos := "law.go:38", after := #[{ on := 20, ground := Ground.guard }], guard := some (20, false) }) (v := ?_) rfl (by kernel_rfl) (by kernel_rfl) (by kernel_rfl) (fun _ _ _ h => h) (Or.inl ⟨by rfl, ?_⟩) hHeld ?_
      rotate_left
      · intro w hSw; (try dsimp only at hSw); have e0 := (hSw.cell (p := ⟨g, 0, none⟩) HXc4.out.lt).trans HXc4.out.c0; have e1 := (hSw.cell (p := ⟨g, 1, none⟩) HXc4.out.lt).trans HXc4.out.c1; have e2 := (hSw.cell (p := ⟨g + 1, 0, none⟩) HXd4.out.lt).trans HXd4.out.c0; have e3 := (hSw.cell (p := ⟨g + 1, 1, none⟩) HXd4.out.lt).trans HXd4.out.c1; go_simp; first | done | with_reducible rfl
      try simp only [Act.put, List.setIfInBounds_toArray, List.set_cons_zero, List.set_cons_succ]
      refine wpAnyH_ready (rs := [23]) (by kernel_rfl) (by simp) ?_
      refine AllReadyH.cons (o := { dst := some 57, op := Op.call { callee := Callee.value (Operand.func 29), args := #[Operand.tmp 55, Operand.tmp 56], argTypes := #[24, 24] }, type := 4, pos := "law.go:38", after := #[{ on := 21, ground := Ground.data }, { on := 22, ground := Ground.data }, { on := 20, ground := Ground.chain }, { on := 20, ground := Ground.guard }], guard := some (20, false) }) rfl (fun K hK => ?_) AllReadyH.nil
      clear hHeld
      go_simp
      refine (HCD.out _).mono ?_
      rintro e wr6 ⟨rfl, hB⟩
      have HR6 := hide (HR5.out.trans (hB.mono HR5.out.size))
      clear hB
      refine hK.out _ _ (HR6.out) (fun hHeld => ?_)
      clear hK K
      try simp only [Act.put, List.setIfInBounds_toArray, List.set_cons_zero, List.set_cons_succ]
      refine wpAnyH_ready (rs := [26]) (by kernel_rfl) (by simp) ?_
      refine AllReadyH.cons (o := { dst := some 60, op := Op.call { callee := Callee.value (Operand.func 30), args := #[Operand.tmp 58, Operand.tmp 59], argTypes := #[24, 24] }, type := 4, pos := "law.go:38", after := #[{ on := 24, ground := Ground.data }, { on := 25, ground := Ground.data }, { on := 23, ground := Ground.chain }, { on := 20, ground := Ground.guard }], guard := some (20, false) }) rfl (fun K hK => ?_) AllReadyH.nil
      clear hHeld
      go_simp
      refine (HCR.out _).mono ?_
      rintro e wr7 ⟨rfl, hB⟩
      have HR7 := hide (HR6.out.trans (hB.mono HR6.out.size))
      clear hB
      refine hK.out _ _ (HR7.out) (fun hHeld => ?_)
      clear hK K
      try simp only [Act.put, List.setIfInBounds_toArray, List.set_cons_zero, List.set_cons_succ]
      refine wpAnyH_take (i := 27) (oi := { dst := some 61, op := Op.binOp BinOp.neq 4 (Operand.tmp 57) (Operand.tmp 60) 4, type := 4, pos := "law.go:38", after := #[{ on := 23, ground := Ground.data }, { on := 26, ground := Ground.data }, { on := 20, ground := Ground.guard }], guard := some (20, false) }) (v := ?_) rfl (by kernel_rfl) (by kernel_rfl) (by kernel_rfl) (fun _ _ _ h => h) (Or.inl ⟨by rfl, ?_⟩) hHeld ?_
      rotate_left
      · intro w hSw; (try dsimp only at hSw); go_simp; first | done | with_reducible rfl
      try simp only [Act.put, List.setIfInBounds_toArray, List.set_cons_zero, List.set_cons_succ]
      refine wpAnyH_take (i := 28) (oi := { dst := some 62, op := Op.pick (Operand.tmp 54) (Operand.const (Value.bool true)) (Operand.tmp 61), type := 4, pos := "law.go:38", after := #[{ on := 20, ground := Ground.data }, { on := 27, ground := Ground.data }], guard := none }) (v := ?_) rfl (by kernel_rfl) (by kernel_rfl) (by kernel_rfl) (fun _ _ _ h => h) (Or.inl ⟨by rfl, ?_⟩) hHeld ?_
      rotate_left
      · intro w hSw; (try dsimp only at hSw); go_simp; first | done | with_reducible rfl
      try simp only [Act.put, List.setIfInBounds_toArray, List.set_cons_zero, List.set_cons_succ]
      refine wpAnyH_take (i := 29) (oi := { dst := some 63, op := Op.move (Operand.tmp 62), type := 4, pos := "law.go:38", after := #[{ on := 28, ground := Ground.data }, { on := 26, ground := Ground.chain }], guard := none }) (v := ?_) rfl (by kernel_rfl) (by kernel_rfl) (by kernel_rfl) (fun _ _ _ h => h) (Or.inl ⟨by rfl, ?_⟩) hHeld ?_
      rotate_left
      · intro w hSw; (try dsimp only at hSw); go_simp; first | done | with_reducible rfl
      try simp only [Act.put, List.setIfInBounds_toArray, List.set_cons_zero, List.set_cons_succ]
      refine wpAnyH_take (i := 30) (oi := { dst := some 64, op := Op.move (Operand.tmp 10), type := 4, pos := "law.go:38", after := #[{ on := 29, ground := Ground.guard }], guard := some (29, false) }) (v := ?_) rfl (by kernel_rfl) (by kernel_rfl) (by kernel_rfl) (fun _ _ _ h => h) (Or.inl ⟨by rfl, ?_⟩) hHeld ?_
      rotate_left
      · intro w hSw; (try dsimp only at hSw); go_simp; first | done | with_reducible rfl
      try simp only [Act.put, List.setIfInBounds_toArray, List.set_cons_zero, List.set_cons_succ]
      refine wpAnyH_take (i := 31) (oi := { dst := some 65, op := Op.move (Operand.tmp 15), type := 4, pos := "law.go:38", after := #[{ on := 29, ground := Ground.guard }], guard := some (29, false) }) (v := ?_) rfl (by kernel_rfl) (by kernel_rfl) (by kernel_rfl) (fun _ _ _ h => h) (Or.inl ⟨by rfl, ?_⟩) hHeld ?_
      rotate_left
      · intro w hSw; (try dsimp only at hSw); go_simp; first | done | with_reducible rfl
      try simp only [Act.put, List.setIfInBounds_toArray, List.set_cons_zero, List.set_cons_succ]
      refine wpAnyH_take (i := 32) (oi := { dst := some 66, op := Op.binOp BinOp.neq 4 (Operand.tmp 64) (Operand.tmp 65) 4, type := 4, pos := "law.go:38", after := #[{ on := 30, ground := Ground.data }, { on := 31, ground := Ground.data }, { on := 29, ground := Ground.guard }], guard := some (29, false) }) (v := ?_) rfl (by kernel_rfl) (by kernel_rfl) (by kernel_rfl) (fun _ _ _ h => h) (Or.inl ⟨by rfl, ?_⟩) hHeld ?_
      rotate_left
      · intro w hSw; (try dsimp only at hSw); go_simp; first | done | with_reducible rfl
      try simp only [Act.put, List.setIfInBounds_toArray, List.set_cons_zero, List.set_cons_succ]
      refine wpAnyH_take (i := 33) (oi := { dst := some 67, op := Op.pick (Operand.tmp 63) (Operand.const (Value.bool true)) (Operand.tmp 66), type := 4, pos := "law.go:38", after := #[{ on := 29, ground := Ground.data }, { on := 32, ground := Ground.data }], guard := none }) (v := ?_) rfl (by kernel_rfl) (by kernel_rfl) (by kernel_rfl) (fun _ _ _ h => h) (Or.inl ⟨by rfl, ?_⟩) hHeld ?_
      rotate_left
      · intro w hSw; (try dsimp only at hSw); go_simp; first | done | with_reducible rfl
      try simp only [Act.put, List.setIfInBounds_toArray, List.set_cons_zero, List.set_cons_succ]
      refine wpAnyH_take (i := 34) (oi := { dst := some 68, op := Op.move (Operand.tmp 67), type := 4, pos := "law.go:38", after := #[{ on := 33, ground := Ground.data }, { on := 29, ground := Ground.chain }], guard := none }) (v := ?_) rfl (by kernel_rfl) (by kernel_rfl) (by kernel_rfl) (fun _ _ _ h => h) (Or.inl ⟨by rfl, ?_⟩) hHeld ?_
      rotate_left
      · intro w hSw; (try dsimp only at hSw); go_simp; first | done | with_reducible rfl
      try simp only [Act.put, List.setIfInBounds_toArray, List.set_cons_zero, List.set_cons_succ]
      refine wpAnyH_take (i := 35) (oi := { dst := some 69, op := Op.move (Operand.tmp 12), type := 4, pos := "law.go:38", after := #[{ on := 34, ground := Ground.guard }], guard := some (34, false) }) (v := ?_) rfl (by kernel_rfl) (by kernel_rfl) (by kernel_rfl) (fun _ _ _ h => h) (Or.inl ⟨by rfl, ?_⟩) hHeld ?_
      rotate_left
      · intro w hSw; (try dsimp only at hSw); go_simp; first | done | with_reducible rfl
      try simp only [Act.put, List.setIfInBounds_toArray, List.set_cons_zero, List.set_cons_succ]
      refine wpAnyH_take (i := 36) (oi := { dst := some 70, op := Op.move (Operand.tmp 15), type := 4, pos := "law.go:38", after := #[{ on := 34, ground := Ground.guard }], guard := some (34, false) }) (v := ?_) rfl (by kernel_rfl) (by kernel_rfl) (by kernel_rfl) (fun _ _ _ h => h) (Or.inl ⟨by rfl, ?_⟩) hHeld ?_
      rotate_left
      · intro w hSw; (try dsimp only at hSw); go_simp; first | done | with_reducible rfl
      try simp only [Act.put, List.setIfInBounds_toArray, List.set_cons_zero, List.set_cons_succ]
      refine wpAnyH_take (i := 37) (oi := { dst := some 71, op := Op.binOp BinOp.neq 4 (Operand.tmp 69) (Operand.tmp 70) 4, type := 4, pos := "law.go:38", after := #[{ on := 35, ground := Ground.data }, { on := 36, ground := Ground.data }, { on := 34, ground := Ground.guard }], guard := some (34, false) }) (v := ?_) rfl (by kernel_rfl) (by kernel_rfl) (by kernel_rfl) (fun _ _ _ h => h) (Or.inl ⟨by rfl, ?_⟩) hHeld ?_
      rotate_left
      · intro w hSw; (try dsimp only at hSw); go_simp; first | done | with_reducible rfl
      try simp only [Act.put, List.setIfInBounds_toArray, List.set_cons_zero, List.set_cons_succ]
      refine wpAnyH_take (i := 38) (oi := { dst := some 72, op := Op.pick (Operand.tmp 68) (Operand.const (Value.bool true)) (Operand.tmp 71), type := 4, pos := "law.go:38", after := #[{ on := 34, ground := Ground.data }, { on := 37, ground := Ground.data }], guard := none }) (v := ?_) rfl (by kernel_rfl) (by kernel_rfl) (by kernel_rfl) (fun _ _ _ h => h) (Or.inl ⟨by rfl, ?_⟩) hHeld ?_
      rotate_left
      · intro w hSw; (try dsimp only at hSw); go_simp; first | done | with_reducible rfl
      try simp only [Act.put, List.setIfInBounds_toArray, List.set_cons_zero, List.set_cons_succ]
      refine wpAnyH_take (i := 39) (oi := { dst := some 73, op := Op.move (Operand.tmp 72), type := 4, pos := "law.go:38", after := #[{ on := 38, ground := Ground.data }, { on := 34, ground := Ground.chain }], guard := none }) (v := ?_) rfl (by kernel_rfl) (by kernel_rfl) (by kernel_rfl) (fun _ _ _ h => h) (Or.inl ⟨by rfl, ?_⟩) hHeld ?_
      rotate_left
      · intro w hSw; (try dsimp only at hSw); go_simp; first | done | with_reducible rfl
      try simp only [Act.put, List.setIfInBounds_toArray, List.set_cons_zero, List.set_cons_succ]
      refine wpAnyH_take (i := 40) (oi := { dst := some 74, op := Op.move (Operand.tmp 14), type := 4, pos := "law.go:38", after := #[{ on := 39, ground := Ground.guard }], guard := some (39, false) }) (v := ?_) rfl (by kernel_rfl) (by kernel_rfl) (by kernel_rfl) (fun _ _ _ h => h) (Or.inl ⟨by rfl, ?_⟩) hHeld ?_
      rotate_left
      · intro w hSw; (try dsimp only at hSw); go_simp; first | done | with_reducible rfl
      try simp only [Act.put, List.setIfInBounds_toArray, List.set_cons_zero, List.set_cons_succ]
      refine wpAnyH_take (i := 41) (oi := { dst := some 75, op := Op.move (Operand.tmp 15), type := 4, pos := "law.go:38", after := #[{ on := 39, ground := Ground.guard }], guard := some (39, false) }) (v := ?_) rfl (by kernel_rfl) (by kernel_rfl) (by kernel_rfl) (fun _ _ _ h => h) (Or.inl ⟨by rfl, ?_⟩) hHeld ?_
      rotate_left
      · intro w hSw; (try dsimp only at hSw); go_simp; first | done | with_reducible rfl
      try simp only [Act.put, List.setIfInBounds_toArray, List.set_cons_zero, List.set_cons_succ]
      refine wpAnyH_take (i := 42) (oi := { dst := some 76, op := Op.move (Operand.tmp 75), type := 4, pos := "law.go:38", after := #[{ on := 41, ground := Ground.data }, { on := 39, ground := Ground.chain }, { on := 39, ground := Ground.guard }], guard := some (39, false) }) (v := ?_) rfl (by kernel_rfl) (by kernel_rfl) (by kernel_rfl) (fun _ _ _ h => h) (Or.inl ⟨by rfl, ?_⟩) hHeld ?_
      rotate_left
      · intro w hSw; (try dsimp only at hSw); go_simp; first | done | with_reducible rfl
      try simp only [Act.put, List.setIfInBounds_toArray, List.set_cons_zero, List.set_cons_succ]
      refine wpAnyH_take (i := 43) (oi := { dst := some 77, op := Op.fieldAddr 24 (Operand.tmp 5) 1, type := 0, pos := "law.go:38", after := #[{ on := 42, ground := Ground.guard }], guard := some (42, true) }) (v := ?_) rfl (by kernel_rfl) (by kernel_rfl) (by kernel_rfl) (fun _ _ _ h => h) (Or.inl ⟨by rfl, ?_⟩) hHeld ?_
      rotate_left
      · intro w hSw; (try dsimp only at hSw); go_simp; first | done | with_reducible rfl
      try simp only [Act.put, List.setIfInBounds_toArray, List.set_cons_zero, List.set_cons_succ]
      refine wpAnyH_take (i := 44) (oi := { dst := some 78, op := Op.load 3 (Operand.tmp 77), type := 3, pos := "law.go:38", after := #[{ on := 43, ground := Ground.data }, { on := 42, ground := Ground.guard }], guard := some (42, true) }) (v := ?_) rfl (by kernel_rfl) (by kernel_rfl) (by kernel_rfl) (fun _ _ _ h => h) (Or.inl ⟨by rfl, ?_⟩) hHeld ?_
      rotate_left
      · intro w hSw; (try dsimp only at hSw); have e0 := (hSw.cell (p := ⟨g, 0, none⟩) HXc4.out.lt).trans HXc4.out.c0; have e1 := (hSw.cell (p := ⟨g, 1, none⟩) HXc4.out.lt).trans HXc4.out.c1; have e2 := (hSw.cell (p := ⟨g + 1, 0, none⟩) HXd4.out.lt).trans HXd4.out.c0; have e3 := (hSw.cell (p := ⟨g + 1, 1, none⟩) HXd4.out.lt).trans HXd4.out.c1; go_simp; first | done | with_reducible rfl
      try simp only [Act.put, List.setIfInBounds_toArray, List.set_cons_zero, List.set_cons_succ]
      refine wpAnyH_take (i := 45) (oi := { dst := some 79, op := Op.binOp BinOp.lss 3 (Operand.tmp 78) (Operand.const (Value.int IntKind.i64 32)) 3, type := 4, pos := "law.go:38", after := #[{ on := 44, ground := Ground.data }, { on := 42, ground := Ground.guard }], guard := some (42, true) }) (v := ?_) rfl (by kernel_rfl) (by kernel_rfl) (by kernel_rfl) (fun _ _ _ h => h) (Or.inl ⟨by rfl, ?_⟩) hHeld ?_
      rotate_left
      · intro w hSw; (try dsimp only at hSw); go_simp; first | done | with_reducible rfl
      try simp only [Act.put, List.setIfInBounds_toArray, List.set_cons_zero, List.set_cons_succ]
      refine wpAnyH_take (i := 46) (oi := { dst := some 80, op := Op.pick (Operand.tmp 76) (Operand.tmp 79) (Operand.const (Value.bool false)), type := 4, pos := "law.go:38", after := #[{ on := 42, ground := Ground.data }, { on := 45, ground := Ground.data }, { on := 39, ground := Ground.guard }], guard := some (39, false) }) (v := ?_) rfl (by kernel_rfl) (by kernel_rfl) (by kernel_rfl) (fun _ _ _ h => h) (Or.inl ⟨by rfl, ?_⟩) hHeld ?_
      rotate_left
      · intro w hSw; (try dsimp only at hSw); go_simp; first | done | with_reducible rfl
      try simp only [Act.put, List.setIfInBounds_toArray, List.set_cons_zero, List.set_cons_succ]
      refine wpAnyH_take (i := 47) (oi := { dst := some 81, op := Op.binOp BinOp.neq 4 (Operand.tmp 74) (Operand.tmp 80) 4, type := 4, pos := "law.go:38", after := #[{ on := 40, ground := Ground.data }, { on := 46, ground := Ground.data }, { on := 39, ground := Ground.guard }], guard := some (39, false) }) (v := ?_) rfl (by kernel_rfl) (by kernel_rfl) (by kernel_rfl) (fun _ _ _ h => h) (Or.inl ⟨by rfl, ?_⟩) hHeld ?_
      rotate_left
      · intro w hSw; (try dsimp only at hSw); go_simp; first | done | with_reducible rfl
      try simp only [Act.put, List.setIfInBounds_toArray, List.set_cons_zero, List.set_cons_succ]
      refine wpAnyH_take (i := 48) (oi := { dst := some 82, op := Op.pick (Operand.tmp 73) (Operand.const (Value.bool true)) (Operand.tmp 81), type := 4, pos := "law.go:38", after := #[{ on := 39, ground := Ground.data }, { on := 47, ground := Ground.data }], guard := none }) (v := ?_) rfl (by kernel_rfl) (by kernel_rfl) (by kernel_rfl) (fun _ _ _ h => h) (Or.inl ⟨by rfl, ?_⟩) hHeld ?_
      rotate_left
      · intro w hSw; (try dsimp only at hSw); go_simp; first | done | with_reducible rfl
      try simp only [Act.put, List.setIfInBounds_toArray, List.set_cons_zero, List.set_cons_succ]
      refine wpAnyH_done (by kernel_rfl) ?_ _
      clear hHeld
      have HXc5 := hide (HXc4.out.below_b HR7.out)
      have HXd5 := hide (HXd4.out.below_b HR7.out)
      have HB5_ := hide (HB4_.out.trans (HR7.out.mono HB4_.out.size))
      have c0c := HXc5.out.c0
      have c1c := HXc5.out.c1
      go_wp2_with fail
      refine (HLR.out _).mono ?_
      rintro e w6_ ⟨rfl, hB⟩
      clear c0c c1c
      have HXc6 := hide (HXc5.out.below_b hB)
      have HXd6 := hide (HXd5.out.below_b hB)
      have HB6_ := hide (HB5_.out.trans (hB.mono HB5_.out.size))
      clear hB
      have c0c := HXc6.out.c0
      have c1c := HXc6.out.c1
      have h32e := HB32.out
      go_wp2_with fail
      refine (awake_any _ (HE.out.below HB6_.out)).mono ?_
      rintro e w7_ ⟨rfl, hB⟩
      clear c0c c1c
      have HXc7 := hide (HXc6.out.below_b hB)
      have HXd7 := hide (HXd6.out.below_b hB)
      have HB7_ := hide (HB6_.out.trans (hB.mono HB6_.out.size))
      clear hB
      go_wp2_with fail
      go_ret
      exact ⟨rfl, HB7_.out⟩
end Go.Proofs.YtgikkjjnoakhdaaDoor
