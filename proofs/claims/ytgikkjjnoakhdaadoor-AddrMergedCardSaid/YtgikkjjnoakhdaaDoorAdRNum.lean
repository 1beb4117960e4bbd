/- The document's Number. -/
import Derived.Test.YtgikkjjnoakhdaaDoorAdDig
namespace Go.Proofs.YtgikkjjnoakhdaaDoor
open Go.RowKit Go.Lib

def numI (r : Option Nat) : Int := match r with | none => -1 | some n => n
theorem digsR_bad {most n : Nat} {c : UInt8} {l : List UInt8} (h : (c.toNat < 48 ∨ 57 < c.toNat) ∨ most < n) : digsR most n (c :: l) = none := by rw [digsR, if_pos h]
theorem digsR_go {most n : Nat} {c : UInt8} {l : List UInt8} (h : ¬ ((c.toNat < 48 ∨ 57 < c.toNat) ∨ most < n)) : digsR most n (c :: l) = digsR most (10 * n + (c.toNat - 48)) l := by rw [digsR, if_neg h]
theorem numR_none {most : Nat} {l : List UInt8} (h : digsR most 0 l = none) : numR most l = none := by unfold numR; rw [h]
theorem numR_some {most n : Nat} {l : List UInt8} (h : digsR most 0 l = some n) : numR most l = if most < n ∨ decDigits n ≠ l then none else some n := by unfold numR; rw [h]

set_option maxRecDepth 100000 in
set_option maxHeartbeats 1000000 in
theorem numberR_any (s : ByteArray) (most : Nat) (hm : most ≤ 1000) (hs : s.size ≤ 9223372036854775807) (w : World) : Calls Tryd.prog 38 #[.string s, .int .i64 most] w (fun e w' => e = .returned (.int .i64 (numI (numS most s.data.toList))) ∧ Below w.heap.size w w') := by
  have hsz : s.data.toList.length = s.size := by rw [Array.length_toList]; rfl
  rw [← numR_eq]
  go_enter Tryd.func38, Tryd.ntmps38
  go_wp2_with fail
  go_loop [5, 6] (fun n i => ∃ k m : Nat, k ≤ s.size ∧ m ≤ 10 * most + 9 ∧ i = .int .i64 k ∧ n = .int .i64 m ∧ digsR most m (s.data.toList.drop k) = digsR most 0 s.data.toList) (fun _ i => s.size - (intOf i).toNat)
  case atStart => exact ⟨0, 0, Nat.zero_le _, Nat.zero_le _, rfl, rfl, by rw [List.drop_zero]⟩
  case round =>
    obtain ⟨k, m, hk, hmm, rfl, rfl, hd⟩ := hrel
    by_cases hlt : k < s.size
    · rw [get_byte s k hlt] at hd
      obtain ⟨c, hc⟩ : ∃ c, s[k] = c := ⟨_, rfl⟩
      rw [hc] at hd
      have c255 := c.toNat_lt
      by_cases hb : (c.toNat < 48 ∨ 57 < c.toNat) ∨ most < m
      · rw [digsR_bad hb] at hd
        have HN := hide (numR_none hd.symm)
        clear hd
        rcases hb with (hb | hb) | hb
        · have hb' : ((c.toNat : Nat) : Int) < 48 := by omega
          go_wp2_with fail
          go_ret
          rw [HN.out]
          exact ⟨rfl, Below.refl _ _⟩
        · have hb' : ¬ ((c.toNat : Nat) : Int) < 48 := by omega
          have hb2 : (57 : Int) < ((c.toNat : Nat) : Int) := by omega
          go_wp2_with fail
          go_ret
          rw [HN.out]
          exact ⟨rfl, Below.refl _ _⟩
        · have hb3 : (most : Int) < (m : Int) := by omega
          by_cases h4 : ((c.toNat : Nat) : Int) < 48
          · go_wp2_with fail
            go_ret
            rw [HN.out]
            exact ⟨rfl, Below.refl _ _⟩
          · by_cases h5 : (57 : Int) < ((c.toNat : Nat) : Int)
            · go_wp2_with fail
              go_ret
              rw [HN.out]
              exact ⟨rfl, Below.refl _ _⟩
            · go_wp2_with fail
              go_ret
              rw [HN.out]
              exact ⟨rfl, Below.refl _ _⟩
      · rw [digsR_go hb] at hd
        have hb' : ¬ ((c.toNat : Nat) : Int) < 48 := by omega
        have hb2 : ¬ (57 : Int) < ((c.toNat : Nat) : Int) := by omega
        have hb3 : ¬ (most : Int) < (m : Int) := by omega
        have hw1 : IntKind.u8.wrap ((c.toNat : Int) - 48) = ((c.toNat - 48 : Nat) : Int) := by rw [IntWalk.u8_in _ (by omega)]; omega
        have hw2 : IntKind.i64.wrap (10 * (m : Int)) = 10 * (m : Int) := IntWalk.i64_in _ (by omega)
        have hw4 : IntKind.i64.wrap ((c.toNat - 48 : Nat) : Int) = ((c.toNat - 48 : Nat) : Int) := IntWalk.i64_in _ (by omega)
        have hw3 : IntKind.i64.wrap (10 * (m : Int) + ((c.toNat - 48 : Nat) : Int)) = ((10 * m + (c.toNat - 48) : Nat) : Int) := by rw [IntWalk.i64_in _ (by omega)]; omega
        obtain ⟨z, hz⟩ : ∃ z, 10 * m + (c.toNat - 48) = z := ⟨_, rfl⟩
        have hz2 : z ≤ 10 * most + 9 := by omega
        rw [hz] at hw3 hd
        have HD := hide hd
        clear hd hz
        go_wp2_with fail
        go_round
        case rel => exact ⟨k + 1, z, by omega, by omega, by go_num, by simp, HD.out⟩
        case measure => simp [intOf]; omega
    · obtain rfl : k = s.size := by omega
      rw [← hsz, List.drop_length] at hd
      have hn := numR_some hd.symm
      clear hd
      by_cases hb : most < m
      · rw [if_pos (.inl hb)] at hn
        have HN := hide hn
        clear hn
        have hb3 : (most : Int) < (m : Int) := by omega
        go_wp2_with fail
        go_ret
        rw [HN.out]
        exact ⟨rfl, Below.refl _ _⟩
      · have hb3 : ¬ (most : Int) < (m : Int) := by omega
        have HDG := hide (fun W => digits_any m (by omega) W)
        by_cases he : decDigits m = s.data.toList
        · rw [if_neg (by rintro (h | h); exact hb h; exact h he)] at hn
          have HN := hide hn
          clear hn hb
          have e2 : (⟨(decDigits m).toArray⟩ : ByteArray) = s := Go.WideShapes.bytes_inj he
          unfold StrPost at HDG
          rw [e2] at HDG
          clear he e2
          go_wp2_with (go_at_call 41; refine (HDG.out _).mono ?_; rintro e w2 ⟨rfl, hB⟩)
          go_ret
          rw [HN.out]
          exact ⟨rfl, hB⟩
        · rw [if_pos (.inr he)] at hn
          have HN := hide hn
          clear hn hb
          have e2 : ((⟨(decDigits m).toArray⟩ : ByteArray).toList == s.toList) = false := by
            rw [ByteArray.toList_eq, ByteArray.toList_eq]
            simpa using he
          unfold StrPost at HDG
          generalize (⟨(decDigits m).toArray⟩ : ByteArray) = D at HDG e2
          clear he
          go_wp2_with (go_at_call 41; refine (HDG.out _).mono ?_; rintro e w2 ⟨rfl, hB⟩)
          go_ret
          rw [HN.out]
          exact ⟨rfl, hB⟩
end Go.Proofs.YtgikkjjnoakhdaaDoor
