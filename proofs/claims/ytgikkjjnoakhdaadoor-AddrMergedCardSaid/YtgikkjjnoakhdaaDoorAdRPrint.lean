/- The document's byteOf, Print. -/
import Derived.Test.YtgikkjjnoakhdaaDoorAdRNum
namespace Go.Proofs.YtgikkjjnoakhdaaDoor
open Go.RowKit Go.Lib

theorem ret_str {b : ByteArray} {l : List UInt8} (h : b.data.toList = l) : Ending.returned (.string b) = .returned (.string ⟨l.toArray⟩) := by
  rw [show b = ⟨l.toArray⟩ from Go.WideShapes.bytes_inj h]

set_option maxRecDepth 100000 in
theorem byteOf_any (a i : Nat) (ha : a < 4294967296) (hi : i ≤ 3) (w : World) : Calls Tryd.prog 42 #[.int .u32 a, .int .i64 i] w (fun e w' => e = .returned (.int .i64 (byteS a i : Nat)) ∧ w = w') := by
  go_enter Tryd.func42, Tryd.ntmps42
  go_wp2_with fail
  go_loop [0, 5] (fun x k => ∃ j y : Nat, i ≤ j ∧ j ≤ 3 ∧ k = .int .i64 j ∧ x = .int .u32 y ∧ y = a / 256 ^ (j - i)) (fun _ k => 3 - (intOf k).toNat)
  case atStart => exact ⟨i, a, Nat.le_refl _, hi, rfl, rfl, by simp⟩
  case round =>
    obtain ⟨j, y, hj, hj3, rfl, rfl, hy⟩ := hrel
    have hle : y ≤ a := by rw [hy]; exact Nat.div_le_self _ _
    by_cases hlt : j < 3
    · have hlt' : (j : Int) < 3 := by omega
      have hs : y / 256 = a / 256 ^ (j + 1 - i) := by rw [hy, Nat.div_div_eq_div_mul, ← Nat.pow_succ]; congr 2; omega
      have hq : (y : Int).tdiv 256 = ((y / 256 : Nat) : Int) := by rw [Int.tdiv_eq_ediv_of_nonneg (by omega)]; omega
      have hle2 : y / 256 ≤ a := by omega
      generalize y / 256 = z at *
      have hw : IntKind.u32.wrap (z : Int) = z := IntWalk.u32_in _ (by omega)
      have HY := hide hs
      clear hs hy
      go_wp2_with fail
      go_round
      case rel => exact ⟨j + 1, z, by omega, by omega, by go_num, rfl, HY.out⟩
      case measure => simp [intOf]; omega
    · have hlt' : ¬ (j : Int) < 3 := by omega
      obtain rfl : j = 3 := by omega
      have hr : (y : Int).tmod 256 = ((y % 256 : Nat) : Int) := by rw [Int.tmod_eq_emod_of_nonneg (by omega)]; omega
      have hb : y % 256 = byteS a i := by unfold byteS; rw [hy]
      have hb2 := byteS_lt a i
      rw [hb] at hr
      clear hb hy
      obtain ⟨z, hz⟩ : ∃ z, byteS a i = z := ⟨_, rfl⟩
      rw [hz] at hr hb2
      have HZ := hide hz
      clear hz
      have hw : IntKind.u32.wrap (z : Int) = z := IntWalk.u32_in _ (by omega)
      have hw2 : IntKind.i64.wrap (z : Int) = z := IntWalk.i64_in _ (by omega)
      go_wp2_with fail
      go_ret
      rw [HZ.out]
      exact ⟨rfl, rfl⟩

set_option maxRecDepth 100000 in
set_option maxHeartbeats 1000000 in
theorem printR_any (a : Nat) (ha : a < 4294967296) (w : World) : Calls Tryd.prog 16 #[.int .u32 a] w (StrPost w (printS a)) := by
  have HB0 : Hid (∀ W : World, Calls Tryd.prog 42 #[.int .u32 a, .int .i64 0] W (fun e w' => e = .returned (.int .i64 (byteS a 0 : Nat)) ∧ W = w')) := hide (fun W => byteOf_any a 0 ha (by omega) W)
  have HB1 : Hid (∀ W : World, Calls Tryd.prog 42 #[.int .u32 a, .int .i64 1] W (fun e w' => e = .returned (.int .i64 (byteS a 1 : Nat)) ∧ W = w')) := hide (fun W => byteOf_any a 1 ha (by omega) W)
  have HB2 : Hid (∀ W : World, Calls Tryd.prog 42 #[.int .u32 a, .int .i64 2] W (fun e w' => e = .returned (.int .i64 (byteS a 2 : Nat)) ∧ W = w')) := hide (fun W => byteOf_any a 2 ha (by omega) W)
  have HB3 : Hid (∀ W : World, Calls Tryd.prog 42 #[.int .u32 a, .int .i64 3] W (fun e w' => e = .returned (.int .i64 (byteS a 3 : Nat)) ∧ W = w')) := hide (fun W => byteOf_any a 3 ha (by omega) W)
  have HD := fun k => digits_any (byteS a k) (by have := byteS_lt a k; omega)
  have HD0 := hide (HD 0)
  have HD1 := hide (HD 1)
  have HD2 := hide (HD 2)
  have HD3 := hide (HD 3)
  have hl := fun k => decDigits_le (byteS a k)
  have hb := fun k => byteS_lt a k
  have l0 := hl 0
  have l1 := hl 1
  have l2 := hl 2
  have l3 := hl 3
  have b0 := hb 0
  have b1 := hb 1
  have b2 := hb 2
  have b3 := hb 3
  clear HD hl hb
  unfold printS
  generalize byteS a 0 = x0 at *
  generalize byteS a 1 = x1 at *
  generalize byteS a 2 = x2 at *
  generalize byteS a 3 = x3 at *
  generalize decDigits x0 = D0 at *
  generalize decDigits x1 = D1 at *
  generalize decDigits x2 = D2 at *
  generalize decDigits x3 = D3 at *
  go_enter Tryd.func16, Tryd.ntmps16
  have z0 : (⟨(D0).toArray⟩ : ByteArray).size ≤ 300 := by simp [ByteArray.size]; omega
  have z1 : (⟨(D1).toArray⟩ : ByteArray).size ≤ 300 := by simp [ByteArray.size]; omega
  have z2 : (⟨(D2).toArray⟩ : ByteArray).size ≤ 300 := by simp [ByteArray.size]; omega
  have z3 : (⟨(D3).toArray⟩ : ByteArray).size ≤ 300 := by simp [ByteArray.size]; omega
  go_wp2_with (first | (go_at_call 42; first | (refine (HB0.out _).mono ?_; rintro e w' ⟨rfl, rfl⟩; clear HB0) | (refine (HB1.out _).mono ?_; rintro e w' ⟨rfl, rfl⟩; clear HB1) | (refine (HB2.out _).mono ?_; rintro e w' ⟨rfl, rfl⟩; clear HB2) | (refine (HB3.out _).mono ?_; rintro e w' ⟨rfl, rfl⟩; clear HB3)) | (go_at_call 41; first | (refine (HD0.out _).mono ?_; rintro e w0 ⟨rfl, hB0⟩; clear HD0) | (refine (HD1.out _).mono ?_; rintro e w1 ⟨rfl, hB1⟩; clear HD1) | (refine (HD2.out _).mono ?_; rintro e w2 ⟨rfl, hB2⟩; clear HD2) | (refine (HD3.out _).mono ?_; rintro e w3 ⟨rfl, hB3⟩; clear HD3)))
  go_ret
  exact ⟨ret_str (by simp), ((hB0.trans (hB1.mono hB0.size)).trans (hB2.mono (Nat.le_trans hB0.size hB1.size))).trans (hB3.mono (Nat.le_trans hB0.size (Nat.le_trans hB1.size hB2.size)))⟩
end Go.Proofs.YtgikkjjnoakhdaaDoor
