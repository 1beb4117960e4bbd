/- The document's Sort. -/
import Derived.Test.YtjbfaaoeoggkpaaNmMove
import Derived.Deep.RegionHeld3
import Derived.StillTailTactics
namespace Go.Proofs.Ytjbfaaoeoggkpaa
open Go.RowKit Go.Lib

theorem wpList_copy_runN {P : Program} {ops : Array Oper} {rest : List Oper} {o : Oper} {a : Act} {w : World} {Q : Exit → Act → World → Prop} (hg : o.guard = none) (s x : Operand) (t tn ty : TypeId) (hop : o.op = Op.call { callee := Callee.builtin Builtin.copy, args := #[s, x], argTypes := #[t, tn] })
    (hty : o.type = ty) (vs vx v : Value) (w' : World) (hs : a.eval s = vs) (hx : a.eval x = vx) (hrun : (Builtin.copy_ #[t, tn] ty #[vs, vx]).run P w = .ok v w')
    (h : wpList P ops Q rest (a.put o.dst v) w') : wpList P ops Q (o :: rest) a w := by
  subst hty
  refine wpList_plain hg fun K hK => ?_
  unfold Oper.wp
  simp [execOp, hop, resolve, invoke, builtin, hs, hx, hrun, Result.andThen]
  exact hK _ _ h

set_option maxRecDepth 100000 in
set_option maxHeartbeats 1000000 in
theorem sortR_any (v : Value) (l : List Nm) (w0 : World) (hv : GAt KN w0 v l) (hl : l.length ≤ 60) (h1 : ∀ n ∈ l, n.ns.size ≤ 1000 ∧ n.sa.size ≤ 1000) : Calls Try.prog 20 #[v] w0 (fun e w' => ∃ v', e = .returned v' ∧ GRow KN w' w0.heap.size v' (sortN l) ∧ Below w0.heap.size w0 w') := by
  obtain ⟨ao, cap, rfl⟩ := hv.len
  obtain ⟨n, hn⟩ : ∃ n, l.length = n := ⟨_, rfl⟩
  rw [hn] at hv hl ⊢
  have HV := hideL hv
  have HN := hideL hn
  have HZ := hideL h1
  clear hv hn h1
  go_enter Try.func20, Try.ntmps20
  go_wp2_with fail
  go_loopw [4, 3] (fun i u wr => ∃ k : Nat, k ≤ n ∧ i = .int .i64 k ∧ GRow KN wr w0.heap.size u (sortN (l.take k)) ∧ Below w0.heap.size w0 wr) (fun i _ _ => n - (intOf i).toNat)
  case atStart => exact ⟨0, Nat.zero_le _, rfl, GRow.nil _ _, Below.refl _ _⟩
  case round =>
    obtain ⟨i, hi, rfl, hrow, hB⟩ := hrel
    by_cases hlt : i < n
    · have hlt' : (i : Int) < (n : Int) := by omega
      obtain ⟨w1, rfl⟩ : ∃ w1, w1 = wr := ⟨_, rfl⟩
      obtain ⟨b, o, hao, hbl, hcell⟩ := HV.out.at (k := i) hlt
      subst hao
      have hil : i < l.length := by rw [HN.out]; exact hlt
      have hnext : sortN (l.take (i + 1)) = insN (l.getD i KN.dft) (sortN (l.take i)) := sortN_take hil
      have hzx := HZ.out (l.getD i KN.dft) (by simp [List.getD, hil])
      have hOL := length_sortN (l.take i)
      rw [List.length_take, Nat.min_eq_left (by omega)] at hOL
      have hOz : ∀ y ∈ sortN (l.take i), y.ns.size ≤ 1000 ∧ y.sa.size ≤ 1000 := fun y hy => HZ.out y (List.mem_of_mem_take (mem_sortN.1 hy))
      generalize l.getD i KN.dft = x at *
      generalize sortN (l.take i) = O at *
      obtain ⟨ao3, c3, rfl⟩ := hrow.gAt.len
      obtain ⟨L, hL⟩ : ∃ L, O.length = L := ⟨_, rfl⟩
      rw [hL] at hrow hOL ⊢
      obtain ⟨p, q⟩ := x
      dsimp only at hzx
      have D0 : HidL (w1.cell? ⟨b, o + i * 2, none⟩ = some (.string p)) := hideL ((hB.cell (p := ⟨b, o + i * 2, none⟩) hbl).trans (hcell 0 (by decide)))
      have D1 : HidL (w1.cell? ⟨b, o + i * 2 + 1, none⟩ = some (.string q)) := hideL ((hB.cell (p := ⟨b, o + i * 2 + 1, none⟩) hbl).trans (hcell 1 (by decide)))
      have HBL := hideL (Nat.lt_of_lt_of_le hbl hB.size)
      have HBW := hideL hbl
      have HDW0 : HidL (w0.cell? ⟨b, o + i * 2, none⟩ = some (.string p)) := hideL (hcell 0 (by decide))
      have HDW1 : HidL (w0.cell? ⟨b, o + i * 2 + 1, none⟩ = some (.string q)) := hideL (hcell 1 (by decide))
      have HROW := hideL hrow
      have HB := hideL hB
      have HL := hideL hL
      have HNX := hideL hnext
      have HOZ := hideL hOz
      clear hcell hbl hrow hB hL hnext hOz hil
      go_wp2_with fail
      go_loopw [5] (fun k W => ∃ j : Nat, j ≤ L ∧ k = .int .i64 j ∧ HidL (∀ t, t < j → cmpN (O.getD t default) ⟨p, q⟩ < 0) ∧ Below w1.heap.size w1 W) (fun k _ => L - (intOf k).toNat)
      case atStart => exact ⟨0, Nat.zero_le _, rfl, ⟨fun _ h => absurd h (by omega)⟩, Below.refl _ _⟩
      case round =>
        obtain ⟨j, hj, rfl, hall, hB1⟩ := hrel
        obtain ⟨W, rfl⟩ : ∃ W, W = wr := ⟨_, rfl⟩
        by_cases hjl : j < L
        · have hjl' : (j : Int) < (L : Int) := by omega
          obtain ⟨b3, o3, hao3, hbl3, hcell3⟩ := (HROW.out.gAt).at (k := j) hjl
          subst hao3
          have hjO : j < O.length := by rw [HL.out]; exact hjl
          have hzy := HOZ.out (O.getD j KN.dft) (by simp [List.getD, hjO])
          have hstep : cmpN (O.getD j KN.dft) ⟨p, q⟩ < 0 → HidL (∀ t, t < j + 1 → cmpN (O.getD t default) ⟨p, q⟩ < 0) := fun h => ⟨fun t ht => if he : t < j then hall.out t he else (show t = j by omega) ▸ h⟩
          have hstop : ¬ cmpN (O.getD j KN.dft) ⟨p, q⟩ < 0 → insN ⟨p, q⟩ O = if j < O.length ∧ O.getD j KN.dft = ⟨p, q⟩ then O else O.take j ++ ⟨p, q⟩ :: O.drop j := fun h => insN_at (x := ⟨p, q⟩) (by omega) hall.out (fun _ => h)
          generalize hy : O.getD j KN.dft = y at *
          obtain ⟨p2, q2⟩ := y
          dsimp only at hzy
          have LC := hide (cmpNR_any ⟨p2, q2⟩ ⟨p, q⟩ (by show p2.size ≤ _; omega) (by show q2.size ≤ _; omega) (by show p.size ≤ _; omega) (by show q.size ≤ _; omega))
          dsimp only at LC
          obtain ⟨c, hc⟩ : ∃ c, cmpN ⟨p2, q2⟩ ⟨p, q⟩ = c := ⟨_, rfl⟩
          rw [hc] at LC hstep hstop
          have hb3 := hide (Nat.lt_of_lt_of_le hbl3 hB1.size)
          have hc0 : Hid (W.cell? ⟨b3, o3 + j * 2, none⟩ = some (.string p2)) := hide ((hB1.cell (p := ⟨b3, o3 + j * 2, none⟩) hbl3).trans (hcell3 0 (by decide)))
          have hc1 : Hid (W.cell? ⟨b3, o3 + j * 2 + 1, none⟩ = some (.string q2)) := hide ((hB1.cell (p := ⟨b3, o3 + j * 2 + 1, none⟩) hbl3).trans (hcell3 1 (by decide)))
          have hb := hide (Nat.lt_of_lt_of_le HBL.out hB1.size)
          have hd0 : Hid (W.cell? ⟨b, o + i * 2, none⟩ = some (.string p)) := hide ((hB1.cell (p := ⟨b, o + i * 2, none⟩) HBL.out).trans D0.out)
          have hd1 : Hid (W.cell? ⟨b, o + i * 2 + 1, none⟩ = some (.string q)) := hide ((hB1.cell (p := ⟨b, o + i * 2 + 1, none⟩) HBL.out).trans D1.out)
          have HB1 := hideL hB1
          have HST := hideL hstep
          have HSP := hideL hstop
          clear hcell3 hbl3 hB1 hstep hstop hc hy hjO
          go_wp2_with fail
          refine wp_region_held_drew (S := fun w' => Below W.heap.size W w') (by kernel_rfl) ((Below.refl _ _).drew) (fun hHeld => ?_)
          refine wpAnyH_take (i := 0) (oi := { dst := some 12, op := Op.move (Operand.tmp 5), type := 3, pos := "ref.go:77", after := #[], guard := none }) (v := ?_) rfl (by kernel_rfl) (by kernel_rfl) (by kernel_rfl) (fun _ _ _ h => h) (Or.inl ⟨by rfl, ?_⟩) hHeld ?_
          rotate_left
          · intro w hSw; (try dsimp only at hSw); go_simp; first | done | with_reducible rfl
          try simp only [Act.put, List.setIfInBounds_toArray, List.set_cons_zero, List.set_cons_succ]
          refine wpAnyH_take (i := 1) (oi := { dst := some 13, op := Op.move (Operand.tmp 3), type := 37, pos := "ref.go:77", after := #[], guard := none }) (v := ?_) rfl (by kernel_rfl) (by kernel_rfl) (by kernel_rfl) (fun _ _ _ h => h) (Or.inl ⟨by rfl, ?_⟩) hHeld ?_
          rotate_left
          · intro w hSw; (try dsimp only at hSw); go_simp; first | done | with_reducible rfl
          try simp only [Act.put, List.setIfInBounds_toArray, List.set_cons_zero, List.set_cons_succ]
          refine wpAnyH_take (i := 2) (oi := { dst := some 14, op := Op.call { callee := Callee.builtin Builtin.len, args := #[Operand.tmp 13], argTypes := #[37] }, type := 3, pos := "ref.go:77", after := #[{ on := 1, ground := Ground.data }], guard := none }) (v := ?_) rfl (by kernel_rfl) (by kernel_rfl) (by kernel_rfl) (fun _ _ _ h => h) (Or.inl ⟨by rfl, ?_⟩) hHeld ?_
          rotate_left
          · intro w hSw; (try dsimp only at hSw); go_simp; first | done | with_reducible rfl
          try simp only [Act.put, List.setIfInBounds_toArray, List.set_cons_zero, List.set_cons_succ]
          refine wpAnyH_take (i := 3) (oi := { dst := some 15, op := Op.binOp BinOp.lss 3 (Operand.tmp 12) (Operand.tmp 14) 3, type := 4, pos := "ref.go:77", after := #[{ on := 0, ground := Ground.data }, { on := 2, ground := Ground.data }], guard := none }) (v := ?_) rfl (by kernel_rfl) (by kernel_rfl) (by kernel_rfl) (fun _ _ _ h => h) (Or.inl ⟨by rfl, ?_⟩) hHeld ?_
          rotate_left
          · intro w hSw; (try dsimp only at hSw); go_simp; first | done | with_reducible rfl
          try simp only [Act.put, List.setIfInBounds_toArray, List.set_cons_zero, List.set_cons_succ]
          refine wpAnyH_take (i := 4) (oi := { dst := some 16, op := Op.move (Operand.tmp 15), type := 4, pos := "ref.go:77", after := #[{ on := 3, ground := Ground.data }], guard := none }) (v := ?_) rfl (by kernel_rfl) (by kernel_rfl) (by kernel_rfl) (fun _ _ _ h => h) (Or.inl ⟨by rfl, ?_⟩) hHeld ?_
          rotate_left
          · intro w hSw; (try dsimp only at hSw); go_simp; first | done | with_reducible rfl
          try simp only [Act.put, List.setIfInBounds_toArray, List.set_cons_zero, List.set_cons_succ]
          refine wpAnyH_take (i := 5) (oi := { dst := some 17, op := Op.move (Operand.tmp 3), type := 37, pos := "ref.go:77", after := #[{ on := 4, ground := Ground.guard }], guard := some (4, true) }) (v := ?_) rfl (by kernel_rfl) (by kernel_rfl) (by kernel_rfl) (fun _ _ _ h => h) (Or.inl ⟨by rfl, ?_⟩) hHeld ?_
          rotate_left
          · intro w hSw; (try dsimp only at hSw); go_simp; first | done | with_reducible rfl
          try simp only [Act.put, List.setIfInBounds_toArray, List.set_cons_zero, List.set_cons_succ]
          refine wpAnyH_take (i := 6) (oi := { dst := some 18, op := Op.move (Operand.tmp 5), type := 3, pos := "ref.go:77", after := #[{ on := 4, ground := Ground.guard }], guard := some (4, true) }) (v := ?_) rfl (by kernel_rfl) (by kernel_rfl) (by kernel_rfl) (fun _ _ _ h => h) (Or.inl ⟨by rfl, ?_⟩) hHeld ?_
          rotate_left
          · intro w hSw; (try dsimp only at hSw); go_simp; first | done | with_reducible rfl
          try simp only [Act.put, List.setIfInBounds_toArray, List.set_cons_zero, List.set_cons_succ]
          refine wpAnyH_take (i := 7) (oi := { dst := some 19, op := Op.indexAddr 37 (Operand.tmp 17) (Operand.tmp 18), type := 0, pos := "ref.go:77", after := #[{ on := 5, ground := Ground.data }, { on := 6, ground := Ground.data }, { on := 4, ground := Ground.guard }], guard := some (4, true) }) (v := ?_) rfl (by kernel_rfl) (by kernel_rfl) (by kernel_rfl) (fun _ _ _ h => h) (Or.inl ⟨by rfl, ?_⟩) hHeld ?_
          rotate_left
          · intro w hSw; (try dsimp only at hSw); go_simp; first | done | with_reducible rfl
          try simp only [Act.put, List.setIfInBounds_toArray, List.set_cons_zero, List.set_cons_succ]
          refine wpAnyH_take (i := 8) (oi := { dst := some 20, op := Op.load 23 (Operand.tmp 19), type := 23, pos := "ref.go:77", after := #[{ on := 7, ground := Ground.data }, { on := 4, ground := Ground.guard }], guard := some (4, true) }) (v := ?_) rfl (by kernel_rfl) (by kernel_rfl) (by kernel_rfl) (fun _ _ _ h => h) (Or.inl ⟨by rfl, ?_⟩) hHeld ?_
          rotate_left
          · intro w hSw; (try dsimp only at hSw); have e0 := (hSw.cell (p := ⟨b3, o3 + j * 2, none⟩) hb3.out).trans hc0.out; have e1 := (hSw.cell (p := ⟨b3, o3 + j * 2 + 1, none⟩) hb3.out).trans hc1.out; have e2 := (hSw.cell (p := ⟨b, o + i * 2, none⟩) hb.out).trans hd0.out; have e3 := (hSw.cell (p := ⟨b, o + i * 2 + 1, none⟩) hb.out).trans hd1.out; go_simp; first | done | with_reducible rfl
          try simp only [Act.put, List.setIfInBounds_toArray, List.set_cons_zero, List.set_cons_succ]
          refine wpAnyH_take (i := 9) (oi := { dst := some 21, op := Op.move (Operand.tmp 0), type := 37, pos := "ref.go:77", after := #[{ on := 4, ground := Ground.guard }], guard := some (4, true) }) (v := ?_) rfl (by kernel_rfl) (by kernel_rfl) (by kernel_rfl) (fun _ _ _ h => h) (Or.inl ⟨by rfl, ?_⟩) hHeld ?_
          rotate_left
          · intro w hSw; (try dsimp only at hSw); go_simp; first | done | with_reducible rfl
          try simp only [Act.put, List.setIfInBounds_toArray, List.set_cons_zero, List.set_cons_succ]
          refine wpAnyH_take (i := 10) (oi := { dst := some 22, op := Op.move (Operand.tmp 4), type := 3, pos := "ref.go:77", after := #[{ on := 4, ground := Ground.guard }], guard := some (4, true) }) (v := ?_) rfl (by kernel_rfl) (by kernel_rfl) (by kernel_rfl) (fun _ _ _ h => h) (Or.inl ⟨by rfl, ?_⟩) hHeld ?_
          rotate_left
          · intro w hSw; (try dsimp only at hSw); go_simp; first | done | with_reducible rfl
          try simp only [Act.put, List.setIfInBounds_toArray, List.set_cons_zero, List.set_cons_succ]
          refine wpAnyH_take (i := 11) (oi := { dst := some 23, op := Op.indexAddr 37 (Operand.tmp 21) (Operand.tmp 22), type := 0, pos := "ref.go:77", after := #[{ on := 9, ground := Ground.data }, { on := 10, ground := Ground.data }, { on := 4, ground := Ground.guard }], guard := some (4, true) }) (v := ?_) rfl (by kernel_rfl) (by kernel_rfl) (by kernel_rfl) (fun _ _ _ h => h) (Or.inl ⟨by rfl, ?_⟩) hHeld ?_
          rotate_left
          · intro w hSw; (try dsimp only at hSw); go_simp; first | done | with_reducible rfl
          try simp only [Act.put, List.setIfInBounds_toArray, List.set_cons_zero, List.set_cons_succ]
          refine wpAnyH_take (i := 12) (oi := { dst := some 24, op := Op.load 23 (Operand.tmp 23), type := 23, pos := "ref.go:77", after := #[{ on := 11, ground := Ground.data }, { on := 4, ground := Ground.guard }], guard := some (4, true) }) (v := ?_) rfl (by kernel_rfl) (by kernel_rfl) (by kernel_rfl) (fun _ _ _ h => h) (Or.inl ⟨by rfl, ?_⟩) hHeld ?_
          rotate_left
          · intro w hSw; (try dsimp only at hSw); have e0 := (hSw.cell (p := ⟨b3, o3 + j * 2, none⟩) hb3.out).trans hc0.out; have e1 := (hSw.cell (p := ⟨b3, o3 + j * 2 + 1, none⟩) hb3.out).trans hc1.out; have e2 := (hSw.cell (p := ⟨b, o + i * 2, none⟩) hb.out).trans hd0.out; have e3 := (hSw.cell (p := ⟨b, o + i * 2 + 1, none⟩) hb.out).trans hd1.out; go_simp; first | done | with_reducible rfl
          try simp only [Act.put, List.setIfInBounds_toArray, List.set_cons_zero, List.set_cons_succ]
          refine wpAnyH_ready (rs := [13]) (by kernel_rfl) (by simp) ?_
          refine AllReadyH.cons (o := { dst := some 25, op := Op.call { callee := Callee.value (Operand.func 14), args := #[Operand.tmp 20, Operand.tmp 24], argTypes := #[23, 23] }, type := 3, pos := "ref.go:77", after := #[{ on := 8, ground := Ground.data }, { on := 12, ground := Ground.data }, { on := 4, ground := Ground.chain }, { on := 4, ground := Ground.guard }], guard := some (4, true) }) rfl (fun K hK => ?_) AllReadyH.nil
          clear hHeld
          go_simp
          refine (LC.out _).mono ?_
          rintro e wr1 ⟨rfl, hB⟩
          have HR1 := hide (((Below.refl W.heap.size W).drew).trans (hB.mono ((Below.refl W.heap.size W).drew).size))
          clear hB
          refine hK.out _ _ (HR1.out) (fun hHeld => ?_)
          clear hK K
          try simp only [Act.put, List.setIfInBounds_toArray, List.set_cons_zero, List.set_cons_succ]
          refine wpAnyH_take (i := 14) (oi := { dst := some 26, op := Op.binOp BinOp.lss 3 (Operand.tmp 25) (Operand.const (Value.int IntKind.i64 0)) 3, type := 4, pos := "ref.go:77", after := #[{ on := 13, ground := Ground.data }, { on := 4, ground := Ground.guard }], guard := some (4, true) }) (v := ?_) rfl (by kernel_rfl) (by kernel_rfl) (by kernel_rfl) (fun _ _ _ h => h) (Or.inl ⟨by rfl, ?_⟩) hHeld ?_
          rotate_left
          · intro w hSw; (try dsimp only at hSw); go_simp; first | done | with_reducible rfl
          try simp only [Act.put, List.setIfInBounds_toArray, List.set_cons_zero, List.set_cons_succ]
          refine wpAnyH_take (i := 15) (oi := { dst := some 27, op := Op.pick (Operand.tmp 16) (Operand.tmp 26) (Operand.const (Value.bool false)), type := 4, pos := "ref.go:77", after := #[{ on := 4, ground := Ground.data }, { on := 14, ground := Ground.data }], guard := none }) (v := ?_) rfl (by kernel_rfl) (by kernel_rfl) (by kernel_rfl) (fun _ _ _ h => h) (Or.inl ⟨by rfl, ?_⟩) hHeld ?_
          rotate_left
          · intro w hSw; (try dsimp only at hSw); go_simp; first | done | with_reducible rfl
          try simp only [Act.put, List.setIfInBounds_toArray, List.set_cons_zero, List.set_cons_succ]
          refine wpAnyH_done (by kernel_rfl) ?_ _
          clear hHeld
          have HZ2 := hideL (HR1.out)
          by_cases hneg : c < 0
          · have HN1 := HST.out hneg
            go_wp2_with fail
            go_roundw
            case rel => exact ⟨j + 1, by omega, by go_num, HN1, HB1.out.trans (HZ2.out.mono HB1.out.size)⟩
            case measure => simp [intOf]; omega
          · have hins := HSP.out (by omega)
            have HBc := hideL (HB1.out.trans (HZ2.out.mono HB1.out.size))
            have e0 := (HZ2.out.cell (p := ⟨b3, o3 + j * 2, none⟩) hb3.out).trans hc0.out
            have e1 := (HZ2.out.cell (p := ⟨b3, o3 + j * 2 + 1, none⟩) hb3.out).trans hc1.out
            have e2 := (HZ2.out.cell (p := ⟨b, o + i * 2, none⟩) hb.out).trans hd0.out
            have e3 := (HZ2.out.cell (p := ⟨b, o + i * 2 + 1, none⟩) hb.out).trans hd1.out
            clear HST HSP LC hb3 hc0 hc1 hb hd0 hd1
            by_cases q0 : p2 = p
            · subst q0
              have ep := eqs_true (rfl : p2 = p2)
              by_cases q1 : q2 = q
              · subst q1
                have eq := eqs_true (rfl : q2 = q2)
                have hfin : sortN (l.take (i + 1)) = O := HNX.out.trans (hins.trans (if_pos ⟨by rw [HL.out]; exact hjl, rfl⟩))
                have HFIN := hideL hfin
                clear hfin hins
                go_wp2_with (go_region)
                go_roundw
                case rel => exact ⟨i + 1, by omega, by go_num, by rw [HFIN.out]; exact (HROW.out.below HBc.out).drew, (HB.out.trans (HBc.out.mono HB.out.size)).drew⟩
                case measure => simp [intOf]; omega
              · have eq := eqs_false q1
                have hfin : sortN (l.take (i + 1)) = O.take j ++ ⟨p2, q⟩ :: O.drop j := HNX.out.trans (hins.trans (if_neg (fun h => q1 (by have := h.2; injection this))))
                clear hins
                have hrowc := ((HROW.out.below HBc.out).drew)
                have hsz0 := hideL (HB.out.trans (HBc.out.mono HB.out.size)).drew
                obtain ⟨v6, w6, hrun, hr6, hB6⟩ := append_nm wr1.drew w0.heap.size _ O ⟨#[]⟩ ⟨#[]⟩ hrowc (by have := HL.out; omega) hsz0.out.size
                rcases hr6.block with ⟨_, h6⟩ | ⟨g, c6, cs6, h6, _⟩
                · exact absurd h6 (by simp)
                subst h6
                have hlen6 : (O ++ [(⟨⟨#[]⟩, ⟨#[]⟩⟩ : Nm)]).length = O.length + 1 := by simp
                rw [hlen6] at hr6 hrun
                have HW6 := hideL (hsz0.out.trans hB6).drew
                obtain ⟨W7, hcopy, hr7, hB7⟩ := move_run w6.drew w0.heap.size g c6 O ⟨⟨#[]⟩, ⟨#[]⟩⟩ hr6.drew j (by have := HL.out; omega)
                have cut1 := run_cut_nm g (O.length + 1) c6 (j + 1) ((j : Int) + 1) (by omega) (by have := HL.out; omega)
                have cut2 := run_cut_nm g (O.length + 1) c6 j (j : Int) rfl (by have := HL.out; omega)
                have hml := move_list O ⟨⟨#[]⟩, ⟨#[]⟩⟩ ⟨p2, q⟩ j (by have := HL.out; omega)
                have hmlen : (((O ++ [(⟨⟨#[]⟩, ⟨#[]⟩⟩ : Nm)]).take (j + 1)) ++ O.drop j).length = O.length + 1 := by have := HL.out; simp; omega
                obtain ⟨⟨z0, k0⟩, ⟨z1, k1⟩, f0, f1, hr8, hB8⟩ := put_run W7 w0.heap.size g (O.length + 1) c6 _ hr7 hmlen j (by have := HL.out; omega) p2 q
                rw [hml, ← hfin] at hr8
                rw [HL.out] at hcopy cut1 cut2 hr8 hrun
                have HRUN : HidL ((Builtin.append_ #[37, 37] 37 #[.slice (some ⟨b3, o3, none⟩) L c3, .slice (some ⟨wr1.heap.size, 0, none⟩) 1 1]).run Try.prog (wr1.drew.alloc (.cells #[.string ⟨#[]⟩, .string ⟨#[]⟩] 23)) = .ok (.slice (some ⟨g, 0, none⟩) (L + 1) c6) w6) := hideL hrun
                obtain ⟨dv, hdv⟩ : ∃ dv, Value.slice (some ⟨g, if c6 = j + 1 then 0 else (j + 1) * 2, none⟩) (L + 1 - (j + 1)) (c6 - (j + 1)) = dv := ⟨_, rfl⟩
                obtain ⟨sv, hsv⟩ : ∃ sv, Value.slice (some ⟨g, if c6 = j then 0 else j * 2, none⟩) (L + 1 - j) (c6 - j) = sv := ⟨_, rfl⟩
                rw [hdv, hsv] at hcopy
                rw [hdv] at cut1
                rw [hsv] at cut2
                have HCOPY := hideL hcopy
                have HW7 := hideL (HW6.out.trans hB7)
                have HR8 := hideL hr8
                have HW8 := hideL (HW7.out.trans hB8)
                have HDS := hideL (And.intro hlt hfin)
                have t0 := (HW7.out.cell (p := ⟨b, o + i * 2, none⟩) HBW.out).trans HDW0.out
                have t1 := (HW7.out.cell (p := ⟨b, o + i * 2 + 1, none⟩) HBW.out).trans HDW1.out
                have hjx : (j : Int) < (L : Int) + 1 := by omega
                have hwr : IntKind.i64.wrap ((j : Int) + 1) = (j : Int) + 1 := by rw [IntWalk.i64_in _ (by omega)]
                clear hdv hsv hcopy hr7 hr6 hB6 hB7 hB8 hml hmlen hr8 hrun hrowc hlen6 hfin
                go_wp2_with (first
                  | (go_region)
                  | (at_builtin; refine wpList_append_runN rfl (.tmp 45) (.tmp 47) 37 37 37 rfl rfl (.slice (some ⟨b3, o3, none⟩) L c3) (.slice (some ⟨wr1.heap.size, 0, none⟩) 1 1) (.slice (some ⟨g, 0, none⟩) (L + 1) c6) w6 rfl rfl HRUN.out ?_))
                go_still_tail 7, (by kernel_rfl)
                change wpList _ _ _ _ _ w6.drew
                refine wpList_copy_runN rfl (.tmp 52) (.tmp 55) 37 37 3 rfl rfl dv sv (.int .i64 ((L - j : Nat) : Int)) W7 rfl rfl HCOPY.out ?_
                go_wp2_with fail
                go_roundw
                case rel => exact ⟨i + 1, by omega, by go_num, HR8.out, HW8.out⟩
                case measure => simp [intOf]; omega
            · have ep := eqs_false q0
              have hfin : sortN (l.take (i + 1)) = O.take j ++ ⟨p, q⟩ :: O.drop j := HNX.out.trans (hins.trans (if_neg (fun h => q0 (by have := h.2; injection this))))
              clear hins
              have hrowc := ((HROW.out.below HBc.out).drew)
              have hsz0 := hideL (HB.out.trans (HBc.out.mono HB.out.size)).drew
              obtain ⟨v6, w6, hrun, hr6, hB6⟩ := append_nm wr1.drew w0.heap.size _ O ⟨#[]⟩ ⟨#[]⟩ hrowc (by have := HL.out; omega) hsz0.out.size
              rcases hr6.block with ⟨_, h6⟩ | ⟨g, c6, cs6, h6, _⟩
              · exact absurd h6 (by simp)
              subst h6
              have hlen6 : (O ++ [(⟨⟨#[]⟩, ⟨#[]⟩⟩ : Nm)]).length = O.length + 1 := by simp
              rw [hlen6] at hr6 hrun
              have HW6 := hideL (hsz0.out.trans hB6).drew
              obtain ⟨W7, hcopy, hr7, hB7⟩ := move_run w6.drew w0.heap.size g c6 O ⟨⟨#[]⟩, ⟨#[]⟩⟩ hr6.drew j (by have := HL.out; omega)
              have cut1 := run_cut_nm g (O.length + 1) c6 (j + 1) ((j : Int) + 1) (by omega) (by have := HL.out; omega)
              have cut2 := run_cut_nm g (O.length + 1) c6 j (j : Int) rfl (by have := HL.out; omega)
              have hml := move_list O ⟨⟨#[]⟩, ⟨#[]⟩⟩ ⟨p, q⟩ j (by have := HL.out; omega)
              have hmlen : (((O ++ [(⟨⟨#[]⟩, ⟨#[]⟩⟩ : Nm)]).take (j + 1)) ++ O.drop j).length = O.length + 1 := by have := HL.out; simp; omega
              obtain ⟨⟨z0, k0⟩, ⟨z1, k1⟩, f0, f1, hr8, hB8⟩ := put_run W7 w0.heap.size g (O.length + 1) c6 _ hr7 hmlen j (by have := HL.out; omega) p q
              rw [hml, ← hfin] at hr8
              rw [HL.out] at hcopy cut1 cut2 hr8 hrun
              have HRUN : HidL ((Builtin.append_ #[37, 37] 37 #[.slice (some ⟨b3, o3, none⟩) L c3, .slice (some ⟨wr1.heap.size, 0, none⟩) 1 1]).run Try.prog (wr1.drew.alloc (.cells #[.string ⟨#[]⟩, .string ⟨#[]⟩] 23)) = .ok (.slice (some ⟨g, 0, none⟩) (L + 1) c6) w6) := hideL hrun
              obtain ⟨dv, hdv⟩ : ∃ dv, Value.slice (some ⟨g, if c6 = j + 1 then 0 else (j + 1) * 2, none⟩) (L + 1 - (j + 1)) (c6 - (j + 1)) = dv := ⟨_, rfl⟩
              obtain ⟨sv, hsv⟩ : ∃ sv, Value.slice (some ⟨g, if c6 = j then 0 else j * 2, none⟩) (L + 1 - j) (c6 - j) = sv := ⟨_, rfl⟩
              rw [hdv, hsv] at hcopy
              rw [hdv] at cut1
              rw [hsv] at cut2
              have HCOPY := hideL hcopy
              have HW7 := hideL (HW6.out.trans hB7)
              have HR8 := hideL hr8
              have HW8 := hideL (HW7.out.trans hB8)
              have HDS := hideL (And.intro hlt hfin)
              have t0 := (HW7.out.cell (p := ⟨b, o + i * 2, none⟩) HBW.out).trans HDW0.out
              have t1 := (HW7.out.cell (p := ⟨b, o + i * 2 + 1, none⟩) HBW.out).trans HDW1.out
              have hjx : (j : Int) < (L : Int) + 1 := by omega
              have hwr : IntKind.i64.wrap ((j : Int) + 1) = (j : Int) + 1 := by rw [IntWalk.i64_in _ (by omega)]
              clear hdv hsv hcopy hr7 hr6 hB6 hB7 hB8 hml hmlen hr8 hrun hrowc hlen6 hfin
              go_wp2_with (first
                | (go_region)
                | (at_builtin; refine wpList_append_runN rfl (.tmp 45) (.tmp 47) 37 37 37 rfl rfl (.slice (some ⟨b3, o3, none⟩) L c3) (.slice (some ⟨wr1.heap.size, 0, none⟩) 1 1) (.slice (some ⟨g, 0, none⟩) (L + 1) c6) w6 rfl rfl HRUN.out ?_))
              go_still_tail 7, (by kernel_rfl)
              change wpList _ _ _ _ _ w6.drew
              refine wpList_copy_runN rfl (.tmp 52) (.tmp 55) 37 37 3 rfl rfl dv sv (.int .i64 ((L - j : Nat) : Int)) W7 rfl rfl HCOPY.out ?_
              go_wp2_with fail
              go_roundw
              case rel => exact ⟨i + 1, by omega, by go_num, HR8.out, HW8.out⟩
              case measure => simp [intOf]; omega
        · obtain rfl : L = j := by omega
          have hjl' : ¬ (L : Int) < (L : Int) := by omega
          have hins := insN_at (x := ⟨p, q⟩) (l := O) (k := L) (by have := HL.out; omega) hall.out (fun h => absurd h (by have := HL.out; omega))
          have hfin : sortN (l.take (i + 1)) = O.take L ++ ⟨p, q⟩ :: O.drop L := HNX.out.trans (hins.trans (if_neg (fun h => by have := h.1; have := HL.out; omega)))
          clear hins
          have hrowc := ((HROW.out.below hB1).drew.drew)
          have hsz0 := hideL (HB.out.trans (hB1.mono HB.out.size)).drew.drew
          obtain ⟨v6, w6, hrun, hr6, hB6⟩ := append_nm W.drew.drew w0.heap.size _ O ⟨#[]⟩ ⟨#[]⟩ hrowc (by have := HL.out; omega) hsz0.out.size
          rcases hr6.block with ⟨_, h6⟩ | ⟨g, c6, cs6, h6, _⟩
          · exact absurd h6 (by simp)
          subst h6
          have hlen6 : (O ++ [(⟨⟨#[]⟩, ⟨#[]⟩⟩ : Nm)]).length = O.length + 1 := by simp
          rw [hlen6] at hr6 hrun
          have HW6 := hideL (hsz0.out.trans hB6).drew
          obtain ⟨W7, hcopy, hr7, hB7⟩ := move_run w6.drew w0.heap.size g c6 O ⟨⟨#[]⟩, ⟨#[]⟩⟩ hr6.drew L (by have := HL.out; omega)
          have cut1 := run_cut_nm g (O.length + 1) c6 (L + 1) ((L : Int) + 1) (by omega) (by have := HL.out; omega)
          have cut2 := run_cut_nm g (O.length + 1) c6 L (L : Int) rfl (by have := HL.out; omega)
          have hml := move_list O ⟨⟨#[]⟩, ⟨#[]⟩⟩ ⟨p, q⟩ L (by have := HL.out; omega)
          have hmlen : (((O ++ [(⟨⟨#[]⟩, ⟨#[]⟩⟩ : Nm)]).take (L + 1)) ++ O.drop L).length = O.length + 1 := by have := HL.out; simp; omega
          obtain ⟨⟨z0, k0⟩, ⟨z1, k1⟩, f0, f1, hr8, hB8⟩ := put_run W7 w0.heap.size g (O.length + 1) c6 _ hr7 hmlen L (by have := HL.out; omega) p q
          rw [hml, ← hfin] at hr8
          rw [HL.out] at hcopy cut1 cut2 hr8 hrun
          have HRUN : HidL ((Builtin.append_ #[37, 37] 37 #[.slice ao3 L c3, .slice (some ⟨W.heap.size, 0, none⟩) 1 1]).run Try.prog (W.drew.drew.alloc (.cells #[.string ⟨#[]⟩, .string ⟨#[]⟩] 23)) = .ok (.slice (some ⟨g, 0, none⟩) (L + 1) c6) w6) := hideL hrun
          obtain ⟨dv, hdv⟩ : ∃ dv, Value.slice (some ⟨g, if c6 = L + 1 then 0 else (L + 1) * 2, none⟩) (L + 1 - (L + 1)) (c6 - (L + 1)) = dv := ⟨_, rfl⟩
          obtain ⟨sv, hsv⟩ : ∃ sv, Value.slice (some ⟨g, if c6 = L then 0 else L * 2, none⟩) (L + 1 - L) (c6 - L) = sv := ⟨_, rfl⟩
          rw [hdv, hsv] at hcopy
          rw [hdv] at cut1
          rw [hsv] at cut2
          have HCOPY := hideL hcopy
          have HW7 := hideL (HW6.out.trans hB7)
          have HR8 := hideL hr8
          have HW8 := hideL (HW7.out.trans hB8)
          have HDS := hideL (And.intro hlt hfin)
          have t0 := (HW7.out.cell (p := ⟨b, o + i * 2, none⟩) HBW.out).trans HDW0.out
          have t1 := (HW7.out.cell (p := ⟨b, o + i * 2 + 1, none⟩) HBW.out).trans HDW1.out
          have hjx : (L : Int) < (L : Int) + 1 := by omega
          have hwr : IntKind.i64.wrap ((L : Int) + 1) = (L : Int) + 1 := by rw [IntWalk.i64_in _ (by omega)]
          clear hdv hsv hcopy hr7 hr6 hB6 hB7 hB8 hml hmlen hr8 hrun hrowc hlen6 hfin
          go_wp2_with (first
            | (go_region)
            | (at_builtin; refine wpList_append_runN rfl (.tmp 45) (.tmp 47) 37 37 37 rfl rfl (.slice ao3 L c3) (.slice (some ⟨W.heap.size, 0, none⟩) 1 1) (.slice (some ⟨g, 0, none⟩) (L + 1) c6) w6 rfl rfl HRUN.out ?_))
          go_still_tail 7, (by kernel_rfl)
          change wpList _ _ _ _ _ w6.drew
          refine wpList_copy_runN rfl (.tmp 52) (.tmp 55) 37 37 3 rfl rfl dv sv (.int .i64 ((L - L : Nat) : Int)) W7 rfl rfl HCOPY.out ?_
          go_wp2_with fail
          go_roundw
          case rel => exact ⟨i + 1, by omega, by go_num, HR8.out, HW8.out⟩
          case measure => simp [intOf]; omega
    · obtain rfl : i = n := by omega
      have hlt' : ¬ (i : Int) < (i : Int) := by omega
      rw [List.take_of_length_le (by rw [HN.out]; exact Nat.le_refl _)] at hrow
      go_wp2_with fail
      go_ret
      exact ⟨_, rfl, hrow, hB⟩
end Go.Proofs.Ytjbfaaoeoggkpaa
