/- mayText, isNothing of the program. -/
import Derived.Test.YtffbmkocmjpmeaaMtStr
namespace Go.Proofs.Ytffbmkocmjpmeaa
open Go.RowKit

set_option maxRecDepth 100000 in
theorem isNothing_any (s : ByteArray) (w : World) : Calls Try.prog 40 #[.string s] w (fun e w' => e = .returned (.bool s.data.toList.isEmpty) ∧ w' = w) := by
  rw [← ByteArray.toList_eq]
  go_enter Try.func40, Try.ntmps40
  go_wp2_with fail
  go_ret
  exact ⟨rfl, rfl⟩
theorem indexMark (c : UInt8) : Lib.indexByte (⟨#[42, 44]⟩ : ByteArray).data.toList ((c.toNat : Int)).toNat.toUInt8 = if c = 42 then 0 else if c = 44 then 1 else -1 := by
  rw [show ((c.toNat : Int)).toNat.toUInt8 = c by simp]
  show Lib.indexByte [42, 44] c = _
  unfold Lib.indexByte
  unfold Lib.indexByte
  unfold Lib.indexByte
  by_cases h : c = 42
  · subst h
    rfl
  · have h1 : ((42 : UInt8) == c) = false := beq_eq_false_iff_ne.2 fun e => h e.symm
    rw [h1, if_neg h]
    by_cases h2 : c = 44
    · subst h2
      rfl
    · have h3 : ((44 : UInt8) == c) = false := beq_eq_false_iff_ne.2 fun e => h2 e.symm
      rw [h3, if_neg h2]
      rfl
theorem mtB_no {c : UInt8} (h : mtB c = false) : ((c.toNat : Int) < 33) ∨ (¬ (c.toNat : Int) < 33 ∧ (126 : Int) < c.toNat) ∨ (¬ (c.toNat : Int) < 33 ∧ ¬ (126 : Int) < c.toNat ∧ (c = 42 ∨ c = 44)) := by
  unfold mtB at h
  simp only [Bool.and_eq_false_iff, decide_eq_false_iff_not, Decidable.not_not] at h
  by_cases h1 : (c.toNat : Int) < 33
  · exact .inl h1
  · by_cases h2 : (126 : Int) < c.toNat
    · exact .inr (.inl ⟨h1, h2⟩)
    · refine .inr (.inr ⟨h1, h2, ?_⟩)
      rcases h with ((h | h) | h) | h
      · omega
      · omega
      · exact .inl h
      · exact .inr h
theorem mtS_nil : mtS [] = false := rfl
theorem mtS_long {l : List UInt8} (h : 64 < l.length) : mtS l = false := by
  unfold mtS
  rw [show decide (l.length ≤ 64) = false from decide_eq_false (by omega)]
  simp
theorem mtS_all {l : List UInt8} (h1 : 1 ≤ l.length) (h2 : l.length ≤ 64) : mtS l = l.all mtB := by
  unfold mtS
  rw [decide_eq_true h1, decide_eq_true h2]
  rfl

set_option maxRecDepth 100000 in
set_option maxHeartbeats 400000 in
theorem mayText_any (s : ByteArray) (hs : s.size ≤ 9223372036854775807) (w : World) : Calls Try.prog 36 #[.string s] w (fun e w' => e = .returned (.bool (mtS s.data.toList)) ∧ Below w.heap.size w w') := by
  have hsz := size_list s
  have LN := hideL (isNothing_any s)
  by_cases h1 : s.size < 1
  · have hl : s.data.toList = [] := List.length_eq_zero_iff.1 (by omega)
    rw [hl] at LN ⊢
    rw [mtS_nil]
    clear hl hsz
    go_enter Try.func36, Try.ntmps36
    go_wp2_with (go_at_call 40; refine (LN.out _).mono ?_; rintro e w2 ⟨rfl, rfl⟩)
    go_ret
    exact ⟨rfl, Below.refl _ _⟩
  have hne : s.data.toList.isEmpty = false := by
    cases hl : s.data.toList with
    | nil => rw [hl] at hsz; simp at hsz; omega
    | cons c l => rfl
  rw [hne] at LN
  clear hne
  by_cases h2 : 64 < s.size
  · rw [mtS_long (by omega)]
    have h2' : (64 : Int) < (s.size : Int) := by omega
    go_enter Try.func36, Try.ntmps36
    go_wp2_with (go_at_call 40; refine (LN.out _).mono ?_; rintro e w2 ⟨rfl, rfl⟩)
    go_ret
    exact ⟨rfl, Below.refl _ _⟩
  have h2' : ¬ (64 : Int) < (s.size : Int) := by omega
  rw [mtS_all (by omega) (by omega)]
  obtain ⟨B, hB⟩ : ∃ b, s.data.toList.all mtB = b := ⟨_, rfl⟩
  rw [hB]
  have HB := hideL hB
  clear hB
  go_enter Try.func36, Try.ntmps36
  go_wp2_with (go_at_call 40; refine (LN.out _).mono ?_; rintro e w2 ⟨rfl, rfl⟩)
  go_loopw [14] (fun i wr => wr = w2 ∧ ∃ k : Nat, k ≤ s.size ∧ i = .int .i64 k ∧ HidL ((s.data.toList.drop k).all mtB = B)) (fun i _ => s.size - (intOf i).toNat)
  case atStart => exact ⟨rfl, 0, Nat.zero_le _, rfl, HB⟩
  case round =>
    obtain ⟨rfl, k, hk, rfl, hd⟩ := hrel
    by_cases hlt : k < s.size
    · replace hd := hd.out
      rw [byte_at s k hlt, List.all_cons] at hd
      obtain ⟨c, hc⟩ : ∃ c, s[k] = c := ⟨_, rfl⟩
      rw [hc] at hd
      have HD := hideL hd
      clear hd
      have c255 := c.toNat_lt
      have LI := hideL (fun W => indexByte_any ⟨#[42, 44]⟩ (c.toNat : Int) W)
      rw [indexMark] at LI
      cases hl : mtB c
      · have hB : B = false := by rw [← HD.out, hl]; rfl
        subst hB
        rcases mtB_no hl with g1 | ⟨g1, g2⟩ | ⟨g1, g2, g3⟩
        · go_wp2_with fail
          go_ret
          exact ⟨rfl, Below.refl _ _⟩
        · go_wp2_with fail
          go_ret
          exact ⟨rfl, Below.refl _ _⟩
        · obtain ⟨i, hi, hi0⟩ : ∃ i : Int, (if c = 42 then (0 : Int) else if c = 44 then 1 else -1) = i ∧ 0 ≤ i := by
            rcases g3 with rfl | rfl
            · exact ⟨0, rfl, by decide⟩
            · exact ⟨1, rfl, by decide⟩
          rw [hi] at LI
          clear hi g3
          go_wp2_with (go_at_call 44; refine (LI.out _).mono ?_; rintro e w3 ⟨rfl, rfl⟩)
          go_ret
          exact ⟨rfl, Below.refl _ _⟩
      · have hn := HD.out
        rw [hl, Bool.true_and] at hn
        have HN := hideL hn
        clear hn HD
        obtain ⟨a1, a2, a3, a4⟩ := mtB_some hl
        rw [if_neg a3, if_neg a4] at LI
        clear a3 a4 hl
        have b1 : ¬ (c.toNat : Int) < 33 := by omega
        have b2 : ¬ (126 : Int) < c.toNat := by omega
        go_wp2_with (go_at_call 44; refine (LI.out _).mono ?_; rintro e w3 ⟨rfl, rfl⟩)
        go_roundw
        case rel => exact ⟨by simp, k + 1, by omega, by go_num, HN⟩
        case measure => simp [intOf]; omega
    · obtain rfl : k = s.size := by omega
      replace hd := hd.out
      rw [List.drop_of_length_le (by omega)] at hd
      have hB : B = true := by rw [← hd]; rfl
      subst hB
      go_wp2_with fail
      go_ret
      exact ⟨rfl, Below.refl _ _⟩
end Go.Proofs.Ytffbmkocmjpmeaa
