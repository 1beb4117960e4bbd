/- The document's above of layer 1: its contract. -/
import Derived.Test.YteocienbfhgmjaaRt2
namespace Go.Proofs.Yteocienbfhgmjaa
open Go.RowKit

theorem length_wantN (n p up : Nat) : ∀ i, (wantN n p up i).length = n + up + 4
  | 0 => by rw [wantN, List.length_replicate]
  | i + 1 => by rw [wantN, length_st, length_wantN n p up i]

theorem aboveN_eq {l want : List Nat} {j : Nat} (h : gt l j = gt want j) : aboveN l want (j + 1) = aboveN l want j := by
  rw [aboveN, show Nat.beq (gt l j) (gt want j) = true by rw [h]; exact Nat.beq_refl _]
  rfl
theorem aboveN_ne {l want : List Nat} {j : Nat} (h : gt l j ≠ gt want j) : aboveN l want (j + 1) = decide (gt want j < gt l j) := by
  rw [aboveN, show Nat.beq (gt l j) (gt want j) = false from Bool.eq_false_iff.2 fun e => h (Nat.eq_of_beq_eq_true e), cond_false, Bool.eq_iff_iff, decide_eq_true_iff]
  simp

set_option maxRecDepth 100000 in
set_option maxHeartbeats 1000000 in
theorem above_ref (l : List Nat) (v : Value) (p up : Nat) (w : World) (hl : UB w v l) (hp : p < 18446744073709551616) (hup : up ≤ 10) (hll : l.length ≤ 100) :
    Calls Try.prog 54 #[v, .int .u64 p, .int .i64 up] w (fun e w' => e = .returned (.bool (aboveN l (wantN (ln l) p up 4) (ln l + up + 4))) ∧ Below w.heap.size w w') := by
  obtain ⟨gl, rfl, hbl⟩ := hl
  obtain ⟨i0, hi, hz0, hz1, hz2⟩ := info_parts Try.info23
  have hgl := hbl.lt
  rw [ln_eq]
  have hmk : ∀ w : World, (Instr.makeSlice 57 (.int .i64 ((l.length : Int) + (up : Int) + 4)) (.int .i64 ((l.length : Int) + (up : Int) + 4))).run Try.prog w = .ok (.slice (some ⟨w.heap.size, 0, none⟩) (l.length + up + 4) (l.length + up + 4)) (w.alloc (.cells (madeCells #[.int .u32 0] (l.length + up + 4)) 23)) := by
    intro w
    have h := run_make (P := Try.prog) w 57 23 i0 (.int .u32 0) Try.underlying57 hi hz0 .i64 .i64 ((l.length : Int) + (up : Int) + 4) ((l.length : Int) + (up : Int) + 4) (by omega) (by omega) (by rw [hz2]; omega) (by omega)
    rw [hz1] at h
    have e2 : ((l.length : Int) + (up : Int) + 4).toNat = l.length + up + 4 := by omega
    rw [e2] at h
    simpa [Value.cells] using h
  clear hz0 hz1 hz2 hi
  have HBL := hide hbl
  clear hbl
  obtain ⟨n, hn⟩ : ∃ n, n = l.length := ⟨_, rfl⟩
  have HN := hide hn
  rw [← hn] at hll hmk ⊢
  clear hn
  obtain ⟨want, hwant⟩ : ∃ want, want = wantN n p up 4 := ⟨_, rfl⟩
  rw [← hwant]
  have HWANT := hide hwant
  have HWL : Hid (want.length = n + up + 4) := hide (by rw [hwant, length_wantN])
  clear hwant
  go_enter Try.func54, Try.ntmps54
  go_wp2_with fail
  clear hmk
  rw [madeZeros]
  have hB0 : Below w.heap.size w (w.alloc (.cells (cellsOf .u32 (ints (List.replicate (n + up + 4) 0))) 23)) := (Below.refl _ _).alloc (Nat.le_refl _) _
  have hb0 : Blk (w.alloc (.cells (cellsOf .u32 (ints (List.replicate (n + up + 4) 0))) 23)) w.heap.size 23 .u32 (ints (wantN n p up 0)) := Blk.new _ _ _ _
  refine (limbs_ref p _ hp).mono ?_
  rintro e w1 ⟨gx, rfl, hgx0, hbx, hBX⟩
  have hne : gx ≠ w.heap.size := by simp at hgx0; omega
  have HB1 := hide (below_through hBX hB0)
  have Hb1 := hide (blk_through hBX hb0)
  have Hbx := hide hbx
  clear hbx hBX hb0 hB0 hgx0
  go_wp2_with fail
  rw [show (limbsN p).length = 4 from rfl]
  go_loopw [9] (fun i wr => ∃ k : Nat, k ≤ 4 ∧ i = .int .i64 (k : Int) ∧ Blk wr w.heap.size 23 .u32 (ints (wantN n p up k)) ∧ Blk wr gx 23 .u32 (ints (limbsN p)) ∧ Below w.heap.size w wr) (fun i _ => 4 - (intOf i).toNat)
  case atStart => exact ⟨0, by omega, rfl, Hb1.out, Hbx.out, HB1.out⟩
  case round =>
    obtain ⟨k, hk, rfl, hw, hx, hB⟩ := hrel
    clear HB1 Hb1 Hbx w1
    by_cases hlt : k < 4
    · have hcx := hx.cell k (by rw [length_ints]; exact hlt)
      rw [gt_eq] at hcx
      have hcw := hw.cell (up + k) (by rw [length_ints, length_wantN]; omega)
      have hfw := hw.free (up + k)
      obtain ⟨x, hxe⟩ : ∃ x, x = gt (limbsN p) k := ⟨_, rfl⟩
      rw [← hxe] at hcx
      have HXE := hide hxe
      have Hw := hide (hw.set (up + k) (x : Int))
      have Hx := hide (hx.other ⟨w.heap.size, up + k, none⟩ (.int .u32 (x : Int)) (by simpa using hne))
      have HB := hide (hB.setCell (p := ⟨w.heap.size, up + k, none⟩) (Nat.le_refl _) (.int .u32 (x : Int)))
      have hin : up + k < n + up + 4 := by omega
      clear hw hx hB hxe
      go_wp2_with fail
      go_roundw
      case rel => exact ⟨k + 1, by omega, by go_num, by rw [wantN, st_eq, ← HXE.out]; exact Hw.out, Hx.out, HB.out⟩
      case measure => simp [intOf]; omega
    · obtain rfl : k = 4 := by omega
      have Hw := hide hw
      have HB := hide hB
      clear hw hx hB hlt hk
      go_wp2_with fail
      generalize ((4 : Nat) : Int) = k4
      rw [← HWANT.out] at Hw
      obtain ⟨wo, hwo⟩ : ∃ wo, wo = wr := ⟨wr, rfl⟩
      subst hwo
      go_loopw [10] (fun i wr => ∃ j : Nat, j ≤ n + up + 4 ∧ i = .int .i64 ((j : Int) - 1) ∧ aboveN l want j = aboveN l want (n + up + 4) ∧ Blk wr w.heap.size 23 .u32 (ints want) ∧ Below w.heap.size w wr) (fun i _ => (intOf i + 1).toNat)
      case atStart => exact ⟨n + up + 4, Nat.le_refl _, by go_num, rfl, Hw.out, HB.out⟩
      case round =>
        obtain ⟨j, hj, rfl, hab, hw, hB⟩ := hrel
        clear Hw HB wo
        have HAB := hide hab
        clear hab
        cases j with
        | zero =>
          have HB := hide hB
          clear hw hB
          have h0 : (((0 : Nat)) : Int) - 1 = -1 := rfl
          rw [h0]
          clear h0
          go_wp2_with fail
          go_ret
          exact ⟨by rw [← HAB.out]; rfl, HB.out⟩
        | succ j =>
          rw [show (((j + 1 : Nat)) : Int) - 1 = (j : Int) by omega]
          have hcw := hw.cell j (by rw [length_ints, HWL.out]; omega)
          rw [gt_eq] at hcw
          obtain ⟨z, hz⟩ : ∃ z, z = gt want j := ⟨_, rfl⟩
          rw [← hz] at hcw
          obtain ⟨x, hx⟩ : ∃ x, x = gt l j := ⟨_, rfl⟩
          have hx0 : ¬ j < n → x = 0 := fun h => by
            have h1 := gt_eq l j
            have h2 : nth (ints l) j = 0 := by
              unfold nth
              rw [List.getD, List.getElem?_eq_none (by rw [length_ints, ← HN.out]; omega)]
              rfl
            omega
          have HEQ : Hid (x = z → aboveN l want (j + 1) = aboveN l want j) := hide fun h => aboveN_eq (by rw [← hx, ← hz, h])
          have HNE : Hid (x ≠ z → aboveN l want (j + 1) = decide (z < x)) := hide fun h => by rw [hx, hz]; exact aboveN_ne (by rw [← hx, ← hz]; exact h)
          have hcl : j < n → wr.cell? ⟨gl, j, none⟩ = some (.int .u32 (x : Int)) := fun h => by
            have := (HBL.out.below hB hgl).cell j (by rw [length_ints, ← HN.out]; exact h)
            rw [gt_eq, ← hx] at this
            exact this
          have HCL := hide hcl
          have HX0 := hide hx0
          have Hw := hide hw
          have HB := hide hB
          clear hcl hx0 hw hB hx hz
          have hjn : j < n + up + 4 := by omega
          by_cases hxz : x = z
          · have HE := hide (HEQ.out hxz)
            subst hxz
            by_cases hlt : j < n
            · have hcl := HCL.out hlt
              go_wp2_with fail
              go_roundw
              case rel => exact ⟨j, by omega, by go_num, by rw [← HE.out, HAB.out], Hw.out, HB.out⟩
              case measure => simp [intOf] <;> omega
            · have hz0 := HX0.out hlt
              subst hz0
              go_wp2_with fail
              go_roundw
              case rel => exact ⟨j, by omega, by go_num, by rw [← HE.out, HAB.out], Hw.out, HB.out⟩
              case measure => simp [intOf] <;> omega
          · have HE := hide (HNE.out hxz)
            have hxi : ¬ ((x : Int) = (z : Int)) := by omega
            by_cases hlt : j < n
            · have hcl := HCL.out hlt
              go_wp2_with fail
              go_ret
              exact ⟨by rw [← HAB.out, HE.out]; rfl, HB.out⟩
            · have hz0 := HX0.out hlt
              subst hz0
              go_wp2_with fail
              go_ret
              exact ⟨by rw [← HAB.out, HE.out]; simp, HB.out⟩
end Go.Proofs.Yteocienbfhgmjaa
