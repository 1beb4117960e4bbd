/- The document's answers for layer 3: Short, Wide, Text. -/
import Derived.Test.YtdlhengfhmkpdaaDoorCdCutP
namespace Go.Proofs.YtdlhengfhmkpdaaDoor
open Go.RowKit

/-- The last seven of bits, of the first k, that is not nought. -/
def lastT (x : Nat) : Nat → Nat
  | 0 => 0
  | k + 1 => if 0 < x / 2 ^ (7 * k) % 128 then k else lastT x k

theorem pow7 (k : Nat) : 2 ^ (7 * (k + 1)) = 2 ^ (7 * k) * 128 := by rw [Nat.mul_add, Nat.pow_add]
theorem lastT_lt (x : Nat) : ∀ k, lastT x (k + 1) ≤ k
  | 0 => by simp [lastT]
  | k + 1 => by
    rw [lastT]
    split
    · exact Nat.le_refl _
    · exact Nat.le_trans (lastT_lt x k) (Nat.le_succ _)
theorem last_hi (x : Nat) : ∀ k, x / 2 ^ (7 * k) = 0 → x / 2 ^ (7 * lastT x k) < 128
  | 0, h => by rw [lastT]; omega
  | k + 1, h => by
    rw [pow7, ← Nat.div_div_eq_div_mul] at h
    rw [lastT]
    split
    · omega
    · exact last_hi x k (by omega)
theorem last_pos (x : Nat) : ∀ k, 0 < lastT x k → 0 < x / 2 ^ (7 * lastT x k)
  | 0, h => by simp [lastT] at h
  | k + 1, h => by
    rw [lastT] at h ⊢
    split
    · rename_i hp
      exact Nat.pos_of_ne_zero (fun e => by rw [e] at hp; simp at hp)
    · rename_i hn
      rw [if_neg hn] at h
      exact last_pos x k h
theorem last_lo (x k j : Nat) (h : j < lastT x k) : 128 ≤ x / 2 ^ (7 * j) := by
  have h0 := last_pos x k (by omega)
  have h1 : 2 ^ (7 * lastT x k) ≤ x := by
    rcases Nat.lt_or_ge x (2 ^ (7 * lastT x k)) with h | h
    · rw [Nat.div_eq_of_lt h] at h0; omega
    · exact h
  have h2 : 2 ^ (7 * (j + 1)) ≤ 2 ^ (7 * lastT x k) := Nat.pow_le_pow_right (by omega) (by omega)
  rw [Nat.le_div_iff_mul_le (Nat.two_pow_pos _), Nat.mul_comm, ← pow7]
  omega
theorem uintS_low (x : Nat) : ∀ k, k ≤ 9 → (∀ j, j < k → 128 ≤ x / 2 ^ (7 * j)) → uintS x = lowB x k ++ uintF (9 - k) (x / 2 ^ (7 * k))
  | 0, _, _ => by simp [uintS, lowB]
  | k + 1, hk, h => by
    rw [uintS_low x k (by omega) (fun j hj => h j (by omega)), show 9 - k = (9 - (k + 1)) + 1 by omega, uintF_step _ x k (h k (by omega)), lowB_succ, List.append_assoc]
    rfl

/-- The document's bytes of a number are those that the code writes. -/
theorem short_eq (x : Nat) (hx : x < 18446744073709551616) : lowB x (lastT x 10) ++ [((x / 2 ^ (7 * lastT x 10) % 128 : Nat) : Int)] = uintS x := by
  have h0 : x / 2 ^ (7 * 10) = 0 := Nat.div_eq_of_lt (by omega)
  have h1 := last_hi x 10 h0
  rw [uintS_low x (lastT x 10) (lastT_lt x 9) (fun j hj => last_lo x 10 j hj), uintF_end _ _ h1, Nat.mod_eq_of_lt h1]

/-- The sevens of bits, the first k; and the first k with 128 more. -/
def sevB (x k : Nat) : List Int := (List.range k).map fun j => ((x / 2 ^ (7 * j) % 128 : Nat) : Int)
theorem length_sevB (x k : Nat) : (sevB x k).length = k := by simp [sevB]
def sevZ (x k : Nat) : List Int := sevB x k ++ List.replicate (10 - k) 0
theorem length_sevZ (x k : Nat) (h : k ≤ 10) : (sevZ x k).length = 10 := by simp [sevZ, length_sevB]; omega
theorem sevZ_succ (x k : Nat) (h : k < 10) : (sevZ x k).set k ((x / 2 ^ (7 * k) % 128 : Nat) : Int) = sevZ x (k + 1) := by
  rw [sevZ, sevZ, show 10 - k = (10 - (k + 1)) + 1 by omega, List.replicate_succ, List.set_append_right _ _ (by rw [length_sevB]; omega), length_sevB, Nat.sub_self]
  simp [sevB, List.range_succ]
def mixB (x k : Nat) : List Int := lowB x k ++ (sevB x 10).drop k
theorem length_mixB (x k : Nat) (h : k ≤ 10) : (mixB x k).length = 10 := by simp [mixB, length_lowB, length_sevB]; omega
theorem nth_sevB (x k j : Nat) (h : j < k) : nth (sevB x k) j = ((x / 2 ^ (7 * j) % 128 : Nat) : Int) := by simp [nth, sevB, h]
theorem nth_mixB (x k : Nat) (h : k < 10) : nth (mixB x k) k = ((x / 2 ^ (7 * k) % 128 : Nat) : Int) := by
  rw [mixB, nth, List.getD, List.getElem?_append_right (by rw [length_lowB]; exact Nat.le_refl _), length_lowB, Nat.sub_self, List.getElem?_drop, Nat.add_zero]
  have := nth_sevB x 10 k h
  simpa [nth, List.getD] using this
theorem mixB_succ (x k : Nat) (h : k < 10) : (mixB x k).set k ((x / 2 ^ (7 * k) % 128 + 128 : Nat) : Int) = mixB x (k + 1) := by
  rw [mixB, mixB, lowB_succ, List.set_append_right _ _ (by rw [length_lowB]; exact Nat.le_refl _), length_lowB, Nat.sub_self, List.drop_eq_getElem_cons (by rw [length_sevB]; exact h), List.set_cons_zero, List.append_assoc]
  rfl
theorem mixB_take (x k : Nat) (h : k < 10) : (mixB x k).take (k + 1) = lowB x k ++ [((x / 2 ^ (7 * k) % 128 : Nat) : Int)] := by
  rw [mixB, List.take_append, length_lowB, List.take_of_length_le (by rw [length_lowB]; omega), show k + 1 - k = 1 by omega, List.drop_eq_getElem_cons (by rw [length_sevB]; exact h), List.take_succ_cons, List.take_zero]
  congr 2
  simp [sevB]

theorem and127 (x : Nat) (h : x < 18446744073709551616) : bits BinOp.and IntKind.u64 (x : Int) 127 = ((x % 128 : Nat) : Int) := by
  have := (bits_nat .u64 64 (by decide) wraps_u64 x 127 (by omega) (by omega)).1
  rw [show ((127 : Nat) : Int) = 127 from rfl] at this
  rw [this]
  congr 1
  exact Nat.and_two_pow_sub_one_eq_mod x 7

theorem fdiv7 (y : Nat) : (y : Int).fdiv (2 ^ min (Int.toNat 7) IntKind.u64.bits) = ((y / 128 : Nat) : Int) := by
  rw [show (2 : Int) ^ min (Int.toNat 7) IntKind.u64.bits = 128 by decide, Int.fdiv_eq_ediv_of_nonneg _ (by omega)]
  rfl

set_option maxRecDepth 100000 in
set_option maxHeartbeats 1000000 in
theorem shortR_any (x : Nat) (hx : x < 18446744073709551616) (w : World) :
    Calls Tryd.prog 91 #[.int .u64 x] w (fun e w' => ∃ v, e = .returned v ∧ Row w' w.heap.size v (uintS x) ∧ Below w.heap.size w w') := by
  have hal : Tryd.prog.arrayLen 123 = 10 := by kernel_rfl
  have hB0 : Below w.heap.size w (w.alloc (.cells (cellsOf .u8 zeros10) 123)) := (Below.refl _ _).alloc (Nat.le_refl _) _
  have HSE := hide (fun (_ : True) => short_eq x hx)
  have hL9 := lastT_lt x 9
  go_enter Tryd.func91, Tryd.ntmps91
  go_wp2_with (with_reducible refine wpList_alloc_row rfl 123 rfl (cellsOf .u8 zeros10) zero10 ?_)
  go_loopw [0, 4, 5] (fun a b i wr => ∃ k : Nat, k ≤ 10 ∧ i = .int .i64 k ∧ a = .int .u64 ((x / 2 ^ (7 * k) : Nat)) ∧ b = .int .i64 (lastT x k : Nat) ∧ Blk wr w.heap.size 123 .u8 (sevZ x k) ∧ Below w.heap.size w wr)
    (fun _ _ i _ => 10 - (intOf i).toNat)
  case atStart => exact ⟨0, by omega, rfl, by simp, rfl, Blk.new w 123 .u8 zeros10, hB0⟩
  case round =>
    obtain ⟨k, hk, rfl, rfl, rfl, hw, hB⟩ := hrel
    by_cases hlt : k < 10
    · have hc := hw.cell k (by rw [length_sevZ x k (by omega)]; omega)
      have hf := hw.free k
      have hyx : x / 2 ^ (7 * k) ≤ x := Nat.div_le_self _ _
      have hnext : x / 2 ^ (7 * (k + 1)) = x / 2 ^ (7 * k) / 128 := by rw [pow7, Nat.div_div_eq_div_mul]
      have hset := sevZ_succ x k hlt
      have hlast : lastT x (k + 1) = if 0 < x / 2 ^ (7 * k) % 128 then k else lastT x k := rfl
      obtain ⟨y, hy⟩ : ∃ y, x / 2 ^ (7 * k) = y := ⟨_, rfl⟩
      rw [hy] at hyx hnext hset hlast ⊢
      have hy64 : y < 18446744073709551616 := by omega
      have hand := and127 y hy64
      have hw2 := hw.set k ((y % 128 : Nat) : Int)
      rw [hset] at hw2
      have HW := hide hw2
      have HB := hide (hB.setCell (p := ⟨w.heap.size, k, none⟩) (Nat.le_refl _) (.int .u8 ((y % 128 : Nat) : Int)))
      have HNX := tuck hnext
      have HLS := tuck hlast
      have hw8 : IntKind.u8.wrap ((y % 128 : Nat) : Int) = ((y % 128 : Nat) : Int) := IntWalk.u8_in _ (by omega)
      obtain ⟨z, hz⟩ : ∃ z, y % 128 = z := ⟨_, rfl⟩
      obtain ⟨L, hL⟩ : ∃ L, lastT x k = L := ⟨_, rfl⟩
      have hyd : (y : Int).fdiv (2 ^ min (Int.toNat 7) IntKind.u64.bits) = ((y / 128 : Nat) : Int) := fdiv7 y
      rw [hz] at HW HB HLS hand hw8
      rw [hL] at HLS ⊢
      have hz128 : z < 128 := by omega
      clear hw hB hyx hnext hset hlast hw2 hy hz hL
      by_cases hz0 : 0 < z
      · have hzi : (z : Int) > 0 := by omega
        go_wp2_with fail
        go_roundw
        case rel => exact ⟨k + 1, by omega, by go_num, (by rw [HNX.out]; first | trivial | rfl | (simp; done) | (simp; omega)), (by rw [HLS.out, if_pos hz0]), HW.out, HB.out⟩
        case measure => simp [intOf]; omega
      · have hzi : ¬ (z : Int) > 0 := by omega
        go_wp2_with fail
        go_roundw
        case rel => exact ⟨k + 1, by omega, by go_num, (by rw [HNX.out]; first | trivial | rfl | (simp; done) | (simp; omega)), (by rw [HLS.out, if_neg hz0]), HW.out, HB.out⟩
        case measure => simp [intOf]; omega
    · obtain rfl : k = 10 := by omega
      have hw3 : Blk wr w.heap.size 123 .u8 (mixB x 0) := by
        have e : sevZ x 10 = mixB x 0 := by simp [sevZ, mixB, lowB]
        rw [← e]; exact hw
      have HW3 := hide hw3
      have HB := hide hB
      obtain ⟨L, hL⟩ : ∃ L, lastT x 10 = L := ⟨_, rfl⟩
      rw [hL] at HSE hL9 ⊢
      clear hw hw3 hB hL hB0
      go_wp2_with fail
      go_loopw [6] (fun i wr => ∃ k : Nat, k ≤ L ∧ i = .int .i64 k ∧ Blk wr w.heap.size 123 .u8 (mixB x k) ∧ Below w.heap.size w wr)
        (fun i _ => L - (intOf i).toNat)
      case atStart => exact ⟨0, by omega, rfl, HW3.out, HB.out⟩
      case round =>
        clear HW3 HB
        obtain ⟨k, hk, rfl, hw, hB⟩ := hrel
        by_cases hlt : k < L
        · have hc := hw.cell k (by rw [length_mixB x k (by omega)]; omega)
          rw [nth_mixB x k (by omega)] at hc
          have hf := hw.free k
          have hset := mixB_succ x k (by omega)
          obtain ⟨z, hz⟩ : ∃ z, x / 2 ^ (7 * k) % 128 = z := ⟨_, rfl⟩
          have hz128 : z < 128 := by omega
          rw [hz] at hc hset
          have hw2 := hw.set k ((z + 128 : Nat) : Int)
          rw [hset] at hw2
          have hwz : IntKind.u8.wrap ((z : Int) + 128) = ((z + 128 : Nat) : Int) := IntWalk.u8_in _ (by omega)
          have HW := hide hw2
          have HB := hide (hB.setCell (p := ⟨w.heap.size, k, none⟩) (Nat.le_refl _) (.int .u8 ((z + 128 : Nat) : Int)))
          clear hw hB hset hw2 hz
          go_wp2_with fail
          go_roundw
          case rel => exact ⟨k + 1, by omega, by go_num, HW.out, HB.out⟩
          case measure => simp [intOf]; omega
        · obtain rfl : k = L := by omega
          have hsl := (slAt_lit hw.row (Nat.le_refl _)).front' (m := k + 1) (by rw [length_mixB x k (by omega)]; omega)
          rw [mixB_take x k (by omega), HSE.out trivial, length_mixB x k (by omega)] at hsl
          have hul := uintS_len x
          have hB2 : Below w.heap.size w (wr.alloc (.cells #[] 5)) := hB.alloc hB.size _
          obtain ⟨v', w', hrun, hrow, hk2, _⟩ := append_keep (wr.alloc (.cells #[] 5)) wr.heap.size (.slice (some ⟨wr.heap.size, 0, none⟩) 0 0) [] (Row.empty wr) (.slice (some ⟨w.heap.size, 0, none⟩) (k + 1) 10) (uintS x) (hsl.below ((Below.refl _ _).alloc (Nat.le_refl _) _)) (by simp; omega) (by simp)
          have HR := hide (hrow.base hB.size)
          have HB := hide (hk2.through hB2 (fun j e => by simp [Value.ownBlock] at e; have := hB.size; omega) (by have := hB.size; simp; omega))
          have hcut := run_cut_arr (P := Tryd.prog) Tryd.underlying123 size5 w.heap.size (k + 1) (by omega)
          rw [show ((k + 1 : Nat) : Int) = (k : Int) + 1 by omega] at hcut
          clear hrow hk2 hB2 hB hsl hul hw HSE
          go_wp2_with (first | (at_builtin; with_reducible refine wpList_append_run rfl (.tmp 34) (.tmp 37) 22 22 22 rfl rfl (.slice (some ⟨wr.heap.size, 0, none⟩) 0 0) (.slice (some ⟨w.heap.size, 0, none⟩) (k + 1) 10) v' w' rfl rfl hrun ?_))
          go_ret
          exact ⟨v', rfl, HR.out, HB.out⟩
end Go.Proofs.YtdlhengfhmkpdaaDoor
