/- The document's May, In. -/
import Derived.Test.YtgikkjjnoakhdaaDoorAdRef
namespace Go.Proofs.YtgikkjjnoakhdaaDoor
open Go.RowKit

theorem bitS_test (a i : Nat) : bitS a i = a.testBit (31 - i) := by unfold bitS; rw [Nat.testBit_eq_decide_div_mod_eq]
theorem bit_flo (a i : Nat) (b : Int) (_h0 : 0 ≤ b) (hb : b ≤ i) (hi : i < 32) : bitS (flo a b) i = false := by
  rw [bitS_test, flo, sz, Nat.testBit_mul_two_pow]
  have : ¬ ex b ≤ 31 - i := by unfold ex; omega
  simp [this]
theorem bit_high (a i : Nat) (b : Int) (hb : (i : Int) < b) (hi : i < 32) : bitS (flo a b) i = bitS a i := by
  rw [bitS_test, bitS_test, flo, sz, Nat.testBit_mul_two_pow, Nat.testBit_div_two_pow]
  have h : ex b ≤ 31 - i := by unfold ex; omega
  rw [show 31 - i - ex b + ex b = 31 - i by omega]
  simp [h]
theorem bits_eq {x y : Nat} (hx : x < 4294967296) (hy : y < 4294967296) (h : ∀ i, i < 32 → bitS x i = bitS y i) : x = y := by
  refine Nat.eq_of_testBit_eq fun j => ?_
  by_cases hj : j < 32
  · have := h (31 - j) (by omega)
    rw [bitS_test, bitS_test, show 31 - (31 - j) = j by omega] at this
    exact this
  · rw [Nat.testBit_lt_two_pow (Nat.lt_of_lt_of_le hx (Nat.pow_le_pow_right (n := 2) (by omega) (show 32 ≤ j by omega))), Nat.testBit_lt_two_pow (Nat.lt_of_lt_of_le hy (Nat.pow_le_pow_right (n := 2) (by omega) (show 32 ≤ j by omega)))]
theorem may_bits {c : Net} (ha : c.a < 4294967296) (h0 : 0 ≤ c.b) (h1 : c.b ≤ 32) : mayB c = true ↔ ∀ i : Nat, c.b ≤ i → i < 32 → bitS c.a i = false := by
  rw [mayB_in h0 h1, decide_eq_true_eq]
  have hl := flo_le c.a c.b
  constructor
  · intro h i hi h2
    rw [h]
    exact bit_flo _ _ _ h0 hi h2
  · intro h
    refine bits_eq ha (by omega) fun i hi => ?_
    by_cases hb : (i : Int) < c.b
    · exact (bit_high _ _ _ hb hi).symm
    · rw [h i (by omega) hi, bit_flo _ _ _ h0 (by omega) hi]
theorem in_bits {c : Net} {x : Nat} (ha : c.a < 4294967296) (hx : x < 4294967296) (hm : mayB c = true) : inB c x = true ↔ ∀ i : Nat, (i : Int) < c.b → i < 32 → bitS x i = bitS c.a i := by
  have ho := (mayB_iff c).1 hm
  rw [inB_may hm, decide_eq_true_eq]
  have hl := flo_le x c.b
  constructor
  · intro h i hi h2
    rw [h, bit_high _ _ _ hi h2]
  · intro h
    refine bits_eq ha (by omega) fun i hi => ?_
    by_cases hb : (i : Int) < c.b
    · rw [bit_high _ _ _ hb hi]
      exact (h i hb hi).symm
    · rw [bit_flo _ _ _ ho.lo (by omega) hi]
      exact (may_bits ha ho.lo ho.hi).1 hm i (by omega) hi

set_option maxRecDepth 100000 in
theorem mayR_any (c : Net) (ha : c.a < 4294967296) (w : World) : Calls Tryd.prog 23 #[c.val] w (fun e w' => e = .returned (.bool (mayB c)) ∧ Below w.heap.size w w') := by
  by_cases h0 : c.b < 0
  · rw [mayB_lo h0]
    obtain ⟨a, b⟩ := c
    unfold Net.val
    dsimp only at ha h0 ⊢
    go_enter Tryd.func23, Tryd.ntmps23
    go_wp2_with fail
    go_ret
    exact ⟨rfl, (Below.refl _ _).alloc (Nat.le_refl _) _⟩
  · by_cases h1 : 32 < c.b
    · rw [mayB_hi h1]
      obtain ⟨a, b⟩ := c
      unfold Net.val
      dsimp only at ha h0 h1 ⊢
      go_enter Tryd.func23, Tryd.ntmps23
      go_wp2_with fail
      go_ret
      exact ⟨rfl, (Below.refl _ _).alloc (Nat.le_refl _) _⟩
    · have HM := hide (may_bits ha (by omega) (by omega))
      have HB := hide (fun (i : Nat) (hi : i ≤ 31) W => bitR_any c.a i ha hi W)
      obtain ⟨m, hm⟩ : ∃ m, mayB c = m := ⟨_, rfl⟩
      rw [hm] at HM ⊢
      clear hm
      obtain ⟨a, b⟩ := c
      unfold Net.val
      dsimp only at ha h0 h1 HM HB ⊢
      obtain ⟨n, rfl⟩ : ∃ n : Nat, b = n := ⟨b.toNat, by omega⟩
      have HX := hide (BoxAt.new w a (n : Int))
      have c0 := HX.out.c0
      have c1 := HX.out.c1
      go_enter Tryd.func23, Tryd.ntmps23
      go_wp2_with fail
      go_loop [3] (fun k => ∃ j : Nat, n ≤ j ∧ j ≤ 32 ∧ k = .int .i64 j ∧ ∀ i : Nat, n ≤ i → i < j → bitS a i = false) (fun k => 32 - (intOf k).toNat)
      case atStart => exact ⟨n, Nat.le_refl _, by omega, rfl, fun i h2 h3 => by omega⟩
      case round =>
        obtain ⟨j, hj, hj2, rfl, hz⟩ := hrel
        by_cases hlt : j < 32
        · have hlt' : (j : Int) < 32 := by omega
          have HBJ := hide (HB.out j (by omega))
          have hbit : ∃ z, bitS a j = z := ⟨_, rfl⟩
          obtain ⟨z, hbit⟩ := hbit
          rw [hbit] at HBJ
          have HZ := hide hz
          clear hz
          cases z with
          | true =>
            have HF : Hid (m = false) := hide (by
              cases m with
              | false => rfl
              | true =>
                have := HM.out.1 rfl j (by omega) hlt
                rw [hbit] at this
                cases this)
            clear hbit
            go_wp2_with fail
            refine (HBJ.out _).mono ?_
            rintro e w2 ⟨rfl, rfl⟩
            go_wp2_with fail
            go_ret
            rw [HF.out]
            exact ⟨rfl, (Below.refl _ _).alloc (Nat.le_refl _) _⟩
          | false =>
            have HBT := hide hbit
            clear hbit
            go_wp2_with fail
            refine (HBJ.out _).mono ?_
            rintro e w2 ⟨rfl, rfl⟩
            go_wp2_with fail
            go_round
            case rel => exact ⟨j + 1, by omega, by omega, by go_num, fun i h2 h3 => by
              rcases Nat.lt_or_ge i j with h4 | h4
              · exact HZ.out i h2 h4
              · obtain rfl : i = j := by omega
                exact HBT.out⟩
            case measure => simp [intOf]; omega
        · have hlt' : ¬ (j : Int) < 32 := by omega
          have HF : Hid (m = true) := hide (HM.out.2 fun i h2 h3 => hz i (by omega) (by omega))
          clear hz
          go_wp2_with fail
          go_ret
          rw [HF.out]
          exact ⟨rfl, (Below.refl _ _).alloc (Nat.le_refl _) _⟩
end Go.Proofs.YtgikkjjnoakhdaaDoor
