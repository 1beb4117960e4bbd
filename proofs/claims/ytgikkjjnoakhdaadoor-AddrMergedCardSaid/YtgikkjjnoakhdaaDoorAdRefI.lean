/- The document's In, Last. -/
import Derived.Test.YtgikkjjnoakhdaaDoorAdRefM
import Derived.Test.YtgikkjjnoakhdaaDoorAdNum
namespace Go.Proofs.YtgikkjjnoakhdaaDoor
open Go.RowKit

theorem BoxAt.below_b {W W' : World} {g a : Nat} {b : Int} (h : BoxAt W g a b) (hb : Below W.heap.size W W') : BoxAt W' g a b := (hb.block g h.lt).trans h
theorem BoxAt.drewN {W : World} {g a : Nat} {b : Int} (h : BoxAt W g a b) (n : Nat) : BoxAt (W.drewN n) g a b := h.next (below_drewN' W n)

set_option maxRecDepth 100000 in
set_option maxHeartbeats 1000000 in
theorem inR_any (c : Net) (ha : c.a < 4294967296) (x : Nat) (hx : x < 4294967296) (w : World) : Calls Tryd.prog 28 #[c.val, .int .u32 x] w (fun e w' => e = .returned (.bool (inB c x)) ∧ Below w.heap.size w w') := by
  have HM := hide (fun W => mayR_any c ha W)
  have HI := hide (fun hm : mayB c = true => in_bits ha hx hm)
  have HN := hide (fun hm : mayB c = false => inB_no (x := x) hm)
  have HBX := hide (fun (i : Nat) (hi : i ≤ 31) W => bitR_any x i hx hi W)
  have HBA := hide (fun (i : Nat) (hi : i ≤ 31) W => bitR_any c.a i ha hi W)
  obtain ⟨m, hm⟩ : ∃ m, mayB c = m := ⟨_, rfl⟩
  obtain ⟨r, hr⟩ : ∃ r, inB c x = r := ⟨_, rfl⟩
  rw [hm] at HM HI HN
  rw [hr] at HI HN ⊢
  clear hm hr
  obtain ⟨a, b⟩ := c
  unfold Net.val at HM ⊢
  dsimp only at ha HM HI HBA ⊢
  have HX := hide (BoxAt.new w a b)
  have HB0 : Hid (Below w.heap.size w (w.alloc (.cells #[.int .u32 a, .int .i64 b] 24))) := hide ((Below.refl _ _).alloc (Nat.le_refl _) _)
  go_enter Tryd.func28, Tryd.ntmps28
  go_wp2_with fail
  generalize w.alloc (.cells #[.int .u32 a, .int .i64 b] 24) = W1 at *
  obtain ⟨g, hg⟩ : ∃ g, w.heap.size = g := ⟨_, rfl⟩
  rw [hg] at HX ⊢
  go_loopw [5] (fun k wr => ∃ j : Nat, j ≤ 32 ∧ k = .int .i64 j ∧ (∀ i : Nat, i < j → bitS x i = bitS a i) ∧ BoxAt wr g a b ∧ Below w.heap.size w wr) (fun k _ => 32 - (intOf k).toNat)
  case atStart => exact ⟨0, by omega, rfl, fun i h => by omega, HX.out, HB0.out⟩
  case round =>
    obtain ⟨j, hj, rfl, hz, hX, hB⟩ := hrel
    have c0 := hX.c0
    have c1 := hX.c1
    have HXr := hide hX
    have HBr := hide hB
    have HZ := hide hz
    clear hz hX hB
    by_cases h1 : (j : Int) < b
    · by_cases h2 : j < 32
      · have h2' : (j : Int) < 32 := by omega
        have HX1 := hide (HBX.out j (by omega))
        have HA1 := hide (HBA.out j (by omega))
        by_cases he : bitS x j = bitS a j
        · have HE := hide he
          obtain ⟨z, hz⟩ : ∃ z, bitS a j = z := ⟨_, rfl⟩
          rw [he, hz] at HX1
          rw [hz] at HA1
          clear he hz
          have hne : (z != z) = false := by simp
          go_wp2_with fail
          refine wp_region_held_drew (S := fun w' => BoxAt w' g a b) (by kernel_rfl) HXr.out (fun hHeld => ?_)
          refine wpAnyH_take (i := 0) (oi := { dst := some 16, op := Op.move (Operand.tmp 1), type := 22, pos := "ref.go:105", after := #[], guard := none }) (v := ?_) rfl (by kernel_rfl) (by kernel_rfl) (by kernel_rfl) (fun _ _ _ h => h) (Or.inl ⟨by rfl, ?_⟩) hHeld ?_
          rotate_left
          · intro w hSw; (try dsimp only at hSw); go_simp; first | done | with_reducible rfl
          try simp only [Act.put, List.setIfInBounds_toArray, List.set_cons_zero, List.set_cons_succ]
          refine wpAnyH_take (i := 1) (oi := { dst := some 17, op := Op.move (Operand.tmp 5), type := 3, pos := "ref.go:105", after := #[], guard := none }) (v := ?_) rfl (by kernel_rfl) (by kernel_rfl) (by kernel_rfl) (fun _ _ _ h => h) (Or.inl ⟨by rfl, ?_⟩) hHeld ?_
          rotate_left
          · intro w hSw; (try dsimp only at hSw); go_simp; first | done | with_reducible rfl
          try simp only [Act.put, List.setIfInBounds_toArray, List.set_cons_zero, List.set_cons_succ]
          refine wpAnyH_take (i := 3) (oi := { dst := some 19, op := Op.fieldAddr 24 (Operand.tmp 2) 0, type := 0, pos := "ref.go:105", after := #[], guard := none }) (v := ?_) rfl (by kernel_rfl) (by kernel_rfl) (by kernel_rfl) (fun _ _ _ h => h) (Or.inl ⟨by rfl, ?_⟩) hHeld ?_
          rotate_left
          · intro w hSw; (try dsimp only at hSw); go_simp; first | done | with_reducible rfl
          try simp only [Act.put, List.setIfInBounds_toArray, List.set_cons_zero, List.set_cons_succ]
          refine wpAnyH_take (i := 4) (oi := { dst := some 20, op := Op.load 22 (Operand.tmp 19), type := 22, pos := "ref.go:105", after := #[{ on := 3, ground := Ground.data }], guard := none }) (v := ?_) rfl (by kernel_rfl) (by kernel_rfl) (by kernel_rfl) (fun _ _ _ h => h) (Or.inl ⟨by rfl, ?_⟩) hHeld ?_
          rotate_left
          · intro w hSw; (try dsimp only at hSw); have e0 := hSw.c0; go_simp; first | done | with_reducible rfl
          try simp only [Act.put, List.setIfInBounds_toArray, List.set_cons_zero, List.set_cons_succ]
          refine wpAnyH_take (i := 5) (oi := { dst := some 21, op := Op.move (Operand.tmp 5), type := 3, pos := "ref.go:105", after := #[], guard := none }) (v := ?_) rfl (by kernel_rfl) (by kernel_rfl) (by kernel_rfl) (fun _ _ _ h => h) (Or.inl ⟨by rfl, ?_⟩) hHeld ?_
          rotate_left
          · intro w hSw; (try dsimp only at hSw); go_simp; first | done | with_reducible rfl
          try simp only [Act.put, List.setIfInBounds_toArray, List.set_cons_zero, List.set_cons_succ]
          have HX2 : Hid (BoxAt wr.drew g a b) := hide HXr.out
          refine wpAnyH_ready (rs := [2]) (by kernel_rfl) (by simp) ?_
          refine AllReadyH.cons (o := { dst := some 18, op := Op.call { callee := Callee.value (Operand.func 45), args := #[Operand.tmp 16, Operand.tmp 17], argTypes := #[22, 3] }, type := 4, pos := "ref.go:105", after := #[{ on := 0, ground := Ground.data }, { on := 1, ground := Ground.data }], guard := none }) rfl (fun K hK => ?_) AllReadyH.nil
          clear hHeld
          go_simp
          refine (HX1.out _).mono ?_
          rintro e w' ⟨rfl, rfl⟩
          refine hK.out _ _ (HX2.out) (fun hHeld => ?_)
          clear hK K
          try simp only [Act.put, List.setIfInBounds_toArray, List.set_cons_zero, List.set_cons_succ]
          refine wpAnyH_ready (rs := [6]) (by kernel_rfl) (by simp) ?_
          refine AllReadyH.cons (o := { dst := some 22, op := Op.call { callee := Callee.value (Operand.func 45), args := #[Operand.tmp 20, Operand.tmp 21], argTypes := #[22, 3] }, type := 4, pos := "ref.go:105", after := #[{ on := 4, ground := Ground.data }, { on := 5, ground := Ground.data }, { on := 2, ground := Ground.chain }], guard := none }) rfl (fun K hK => ?_) AllReadyH.nil
          clear hHeld
          go_simp
          refine (HA1.out _).mono ?_
          rintro e w' ⟨rfl, rfl⟩
          refine hK.out _ _ (HX2.out) (fun hHeld => ?_)
          clear hK K
          try simp only [Act.put, List.setIfInBounds_toArray, List.set_cons_zero, List.set_cons_succ]
          refine wpAnyH_take (i := 7) (oi := { dst := some 23, op := Op.binOp BinOp.neq 4 (Operand.tmp 18) (Operand.tmp 22) 4, type := 4, pos := "ref.go:105", after := #[{ on := 2, ground := Ground.data }, { on := 6, ground := Ground.data }], guard := none }) (v := ?_) rfl (by kernel_rfl) (by kernel_rfl) (by kernel_rfl) (fun _ _ _ h => h) (Or.inl ⟨by rfl, ?_⟩) hHeld ?_
          rotate_left
          · intro w hSw; (try dsimp only at hSw); go_simp; first | done | with_reducible rfl
          try simp only [Act.put, List.setIfInBounds_toArray, List.set_cons_zero, List.set_cons_succ]
          refine wpAnyH_done (by kernel_rfl) ?_ _
          clear hHeld
          go_wp2_with fail
          go_roundw
          case rel => exact ⟨j + 1, by omega, by go_num, fun i h3 => by
            rcases Nat.lt_or_ge i j with h4 | h4
            · exact HZ.out i h4
            · obtain rfl : i = j := by omega
              exact HE.out, HXr.out, HBr.out.drew⟩
          case measure => simp [intOf]; omega
        · have HF : Hid (r = false) := hide (by
            cases hm : m with
            | false => exact HN.out hm
            | true =>
              cases hr : r with
              | false => rfl
              | true => exact absurd ((HI.out hm).1 hr j h1 h2) he)
          obtain ⟨z, hz⟩ : ∃ z, bitS x j = z := ⟨_, rfl⟩
          obtain ⟨y, hy⟩ : ∃ z, bitS a j = z := ⟨_, rfl⟩
          rw [hz, hy] at he
          rw [hz] at HX1
          rw [hy] at HA1
          clear hz hy
          have HNE : Hid ((z == y) = false) := hide (by simpa using he)
          clear he
          go_wp2_with fail
          refine wp_region_held_drew (S := fun w' => BoxAt w' g a b) (by kernel_rfl) HXr.out (fun hHeld => ?_)
          refine wpAnyH_take (i := 0) (oi := { dst := some 16, op := Op.move (Operand.tmp 1), type := 22, pos := "ref.go:105", after := #[], guard := none }) (v := ?_) rfl (by kernel_rfl) (by kernel_rfl) (by kernel_rfl) (fun _ _ _ h => h) (Or.inl ⟨by rfl, ?_⟩) hHeld ?_
          rotate_left
          · intro w hSw; (try dsimp only at hSw); go_simp; first | done | with_reducible rfl
          try simp only [Act.put, List.setIfInBounds_toArray, List.set_cons_zero, List.set_cons_succ]
          refine wpAnyH_take (i := 1) (oi := { dst := some 17, op := Op.move (Operand.tmp 5), type := 3, pos := "ref.go:105", after := #[], guard := none }) (v := ?_) rfl (by kernel_rfl) (by kernel_rfl) (by kernel_rfl) (fun _ _ _ h => h) (Or.inl ⟨by rfl, ?_⟩) hHeld ?_
          rotate_left
          · intro w hSw; (try dsimp only at hSw); go_simp; first | done | with_reducible rfl
          try simp only [Act.put, List.setIfInBounds_toArray, List.set_cons_zero, List.set_cons_succ]
          refine wpAnyH_take (i := 3) (oi := { dst := some 19, op := Op.fieldAddr 24 (Operand.tmp 2) 0, type := 0, pos := "ref.go:105", after := #[], guard := none }) (v := ?_) rfl (by kernel_rfl) (by kernel_rfl) (by kernel_rfl) (fun _ _ _ h => h) (Or.inl ⟨by rfl, ?_⟩) hHeld ?_
          rotate_left
          · intro w hSw; (try dsimp only at hSw); go_simp; first | done | with_reducible rfl
          try simp only [Act.put, List.setIfInBounds_toArray, List.set_cons_zero, List.set_cons_succ]
          refine wpAnyH_take (i := 4) (oi := { dst := some 20, op := Op.load 22 (Operand.tmp 19), type := 22, pos := "ref.go:105", after := #[{ on := 3, ground := Ground.data }], guard := none }) (v := ?_) rfl (by kernel_rfl) (by kernel_rfl) (by kernel_rfl) (fun _ _ _ h => h) (Or.inl ⟨by rfl, ?_⟩) hHeld ?_
          rotate_left
          · intro w hSw; (try dsimp only at hSw); have e0 := hSw.c0; go_simp; first | done | with_reducible rfl
          try simp only [Act.put, List.setIfInBounds_toArray, List.set_cons_zero, List.set_cons_succ]
          refine wpAnyH_take (i := 5) (oi := { dst := some 21, op := Op.move (Operand.tmp 5), type := 3, pos := "ref.go:105", after := #[], guard := none }) (v := ?_) rfl (by kernel_rfl) (by kernel_rfl) (by kernel_rfl) (fun _ _ _ h => h) (Or.inl ⟨by rfl, ?_⟩) hHeld ?_
          rotate_left
          · intro w hSw; (try dsimp only at hSw); go_simp; first | done | with_reducible rfl
          try simp only [Act.put, List.setIfInBounds_toArray, List.set_cons_zero, List.set_cons_succ]
          have HX2 : Hid (BoxAt wr.drew g a b) := hide HXr.out
          refine wpAnyH_ready (rs := [2]) (by kernel_rfl) (by simp) ?_
          refine AllReadyH.cons (o := { dst := some 18, op := Op.call { callee := Callee.value (Operand.func 45), args := #[Operand.tmp 16, Operand.tmp 17], argTypes := #[22, 3] }, type := 4, pos := "ref.go:105", after := #[{ on := 0, ground := Ground.data }, { on := 1, ground := Ground.data }], guard := none }) rfl (fun K hK => ?_) AllReadyH.nil
          clear hHeld
          go_simp
          refine (HX1.out _).mono ?_
          rintro e w' ⟨rfl, rfl⟩
          refine hK.out _ _ (HX2.out) (fun hHeld => ?_)
          clear hK K
          try simp only [Act.put, List.setIfInBounds_toArray, List.set_cons_zero, List.set_cons_succ]
          refine wpAnyH_ready (rs := [6]) (by kernel_rfl) (by simp) ?_
          refine AllReadyH.cons (o := { dst := some 22, op := Op.call { callee := Callee.value (Operand.func 45), args := #[Operand.tmp 20, Operand.tmp 21], argTypes := #[22, 3] }, type := 4, pos := "ref.go:105", after := #[{ on := 4, ground := Ground.data }, { on := 5, ground := Ground.data }, { on := 2, ground := Ground.chain }], guard := none }) rfl (fun K hK => ?_) AllReadyH.nil
          clear hHeld
          go_simp
          refine (HA1.out _).mono ?_
          rintro e w' ⟨rfl, rfl⟩
          refine hK.out _ _ (HX2.out) (fun hHeld => ?_)
          clear hK K
          try simp only [Act.put, List.setIfInBounds_toArray, List.set_cons_zero, List.set_cons_succ]
          refine wpAnyH_take (i := 7) (oi := { dst := some 23, op := Op.binOp BinOp.neq 4 (Operand.tmp 18) (Operand.tmp 22) 4, type := 4, pos := "ref.go:105", after := #[{ on := 2, ground := Ground.data }, { on := 6, ground := Ground.data }], guard := none }) (v := ?_) rfl (by kernel_rfl) (by kernel_rfl) (by kernel_rfl) (fun _ _ _ h => h) (Or.inl ⟨by rfl, ?_⟩) hHeld ?_
          rotate_left
          · intro w hSw; (try dsimp only at hSw); go_simp; first | done | with_reducible rfl
          try simp only [Act.put, List.setIfInBounds_toArray, List.set_cons_zero, List.set_cons_succ]
          refine wpAnyH_done (by kernel_rfl) ?_ _
          clear hHeld
          rw [HNE.out]
          go_wp2_with fail
          go_ret
          rw [HF.out]
          exact ⟨rfl, HBr.out.drew⟩
      · have h2' : ¬ (j : Int) < 32 := by omega
        have HF : Hid (m = r) := hide (by
          cases hm : m with
          | false => exact (HN.out hm).symm
          | true => exact ((HI.out hm).2 fun i h3 h4 => HZ.out i (by omega)).symm)
        go_wp2_with fail
        refine (HM.out _).mono ?_
        rintro e w2 ⟨rfl, hB⟩
        have HB2 := hide (HBr.out.trans (hB.mono HBr.out.size))
        clear hB
        go_wp2_with fail
        go_ret
        rw [HF.out]
        exact ⟨rfl, HB2.out⟩
    · have HF : Hid (m = r) := hide (by
        cases hm : m with
        | false => exact (HN.out hm).symm
        | true => exact ((HI.out hm).2 fun i h3 h4 => HZ.out i (by omega)).symm)
      go_wp2_with fail
      refine (HM.out _).mono ?_
      rintro e w2 ⟨rfl, hB⟩
      have HB2 := hide (HBr.out.trans (hB.mono HBr.out.size))
      clear hB
      go_wp2_with fail
      go_ret
      rw [HF.out]
      exact ⟨rfl, HB2.out⟩

set_option maxRecDepth 100000 in
theorem lastR_any (c : Net) (ha : c.a < 4294967296) (ho : Ok c) (w : World) : Calls Tryd.prog 31 #[c.val] w (fun e w' => e = .returned (.int .u32 (c.a + (sz c.b - 1) : Nat)) ∧ Below w.heap.size w w') := by
  have htop := ho.top ha
  have h0 := ho.lo
  have h1 := ho.hi
  clear ho
  obtain ⟨a, b⟩ := c
  unfold Net.val
  dsimp only at *
  obtain ⟨n, rfl⟩ : ∃ n : Nat, b = n := ⟨b.toNat, by omega⟩
  have hs : sz (n : Int) = 2 ^ (32 - n) := by unfold sz ex; congr 1; omega
  rw [hs] at htop ⊢
  have HT := hide htop
  clear htop hs
  have HX := hide (BoxAt.new w a (n : Int))
  have c0 := HX.out.c0
  have c1 := HX.out.c1
  go_enter Tryd.func31, Tryd.ntmps31
  go_wp2_with fail
  go_loop [3, 4, 5] (fun x s k => ∃ j y z : Nat, j + n ≤ 32 ∧ k = .int .i64 ((32 - j : Nat) : Int) ∧ x = .int .u32 y ∧ s = .int .u32 z ∧ y = a + (2 ^ j - 1) ∧ z = 2 ^ j % 4294967296) (fun _ _ k => (intOf k).toNat)
  case atStart => exact ⟨0, a, 1, by omega, rfl, rfl, rfl, by simp, by decide⟩
  case round =>
    obtain ⟨j, y, z, hj, rfl, rfl, rfl, hy, hz⟩ := hrel
    by_cases hlt : j + n < 32
    · have hlt' : (n : Int) < ((32 - j : Nat) : Int) := by omega
      have hp : 2 ^ (j + 1) ≤ 2 ^ (32 - n) := Nat.pow_le_pow_right (by omega) (by omega)
      have hp2 : 2 ^ j < 4294967296 := Nat.lt_of_le_of_lt (Nat.pow_le_pow_right (n := 2) (by omega) (show j ≤ 31 by omega)) (by decide)
      have hpos : 0 < 2 ^ j := Nat.pow_pos (by omega)
      have hps : 2 ^ (j + 1) = 2 * 2 ^ j := by rw [Nat.pow_succ, Nat.mul_comm]
      have hT := HT.out
      rw [Nat.mod_eq_of_lt hp2] at hz
      have hy2 : y + z = a + (2 ^ (j + 1) - 1) := by omega
      have hyz : y + z < 4294967296 := by omega
      have hz2 : 2 * z % 4294967296 = 2 ^ (j + 1) % 4294967296 := by rw [hps, hz]
      have HY := hide hy2
      have HZ := hide hz2
      clear hy2 hz2 hy hz hps hpos hp2 hp hT
      have hw : IntKind.u32.wrap ((y : Int) + (z : Int)) = ((y + z : Nat) : Int) := by rw [IntWalk.u32_in _ (by omega)]; omega
      have hw2 : IntKind.u32.wrap (2 * (z : Int)) = ((2 * z % 4294967296 : Nat) : Int) := by rw [IntKind.wrap_u32]; omega
      have hw3 : IntKind.i64.wrap (((32 - j : Nat) : Int) - 1) = ((32 - (j + 1) : Nat) : Int) := by rw [IntWalk.i64_in _ (by omega)]; omega
      obtain ⟨q, hq⟩ : ∃ q, 32 - j = q := ⟨_, rfl⟩
      obtain ⟨q', hq'⟩ : ∃ q, 32 - (j + 1) = q := ⟨_, rfl⟩
      rw [hq, hq'] at hw3
      rw [hq] at hlt' ⊢
      have HQ' := hide hq'
      have hqq : q' < q := by omega
      clear hq hq'
      go_wp2_with fail
      go_round
      case rel => exact ⟨j + 1, y + z, 2 * z % 4294967296, by omega, by rw [HQ'.out], rfl, rfl, HY.out, HZ.out⟩
      case measure => simp [intOf]; omega
    · have hlt' : ¬ (n : Int) < ((32 - j : Nat) : Int) := by omega
      obtain rfl : j = 32 - n := by omega
      have HY := hide hy
      clear hy hz
      go_wp2_with fail
      go_ret
      rw [HY.out]
      exact ⟨rfl, (Below.refl _ _).alloc (Nat.le_refl _) _⟩
end Go.Proofs.YtgikkjjnoakhdaaDoor
