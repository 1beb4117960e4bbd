/- The document's May, Matches, MayAll, Any, Print. -/
import Derived.Test.YtffbmkocmjpmeaaMtRow
import Derived.Test.YtffbmkocmjpmeaaMtPrint
namespace Go.Proofs.Ytffbmkocmjpmeaa
open Go.RowKit

theorem mayK_out {k : Int} (t : List UInt8) (h4 : ¬ k = 4) (h : k < 1 ∨ (¬ k < 1 ∧ 3 < k)) : mayK k t = false := by
  unfold mayK
  rw [if_neg h4]
  rcases h with h | ⟨_, h⟩
  · rw [decide_eq_false (by omega : ¬ 1 ≤ k), Bool.false_and, Bool.false_and]
  · rw [decide_eq_false (by omega : ¬ k ≤ 3), Bool.and_false, Bool.false_and]
theorem mayK_in {k : Int} (t : List UInt8) (h1 : ¬ k < 1) (h3 : ¬ 3 < k) : mayK k t = mtS t := by
  unfold mayK
  rw [if_neg (by omega), decide_eq_true (by omega : 1 ≤ k), decide_eq_true (by omega : k ≤ 3), Bool.true_and, Bool.true_and]
theorem mayK_4 (t : ByteArray) : mayK 4 t.data.toList = decide ((t.size : Int) = 0) := by
  show t.data.toList.isEmpty = _
  rw [← size_list]
  cases t.data.toList with
  | nil => rfl
  | cons c l => rw [List.isEmpty_cons, decide_eq_false (by rw [List.length_cons]; omega)]
theorem nat_of_byte {c : UInt8} {n : Nat} (hn : n < 256) : (((c.toNat : Nat) : Int) == (n : Int)) = decide (c = n.toUInt8) := by
  by_cases h : c.toNat = n
  · rw [decide_eq_true (by apply UInt8.toNat_inj.1; rw [h]; simp; omega)]
    exact beq_iff_eq.2 (by omega)
  · rw [decide_eq_false (fun e => h (by rw [e]; simp; omega))]
    exact beq_eq_false_iff_ne.2 (by omega)
set_option maxRecDepth 100000 in
set_option maxHeartbeats 1000000 in
theorem mayR_any (a : Tm) (ht : a.t.size ≤ 9223372036854775807) (w : World) : Calls Try.prog 11 #[.agg #[.int .i64 a.k, .string a.t]] w (fun e w' => e = .returned (.bool (mayM a)) ∧ Below w.heap.size w w') := by
  unfold mayM
  obtain ⟨k, s⟩ := a
  change s.size ≤ _ at ht
  dsimp only
  have HX := hideL (TBox.new w k s)
  have HB := hideL ((Below.refl w.heap.size w).alloc (Nat.le_refl _) (.cells #[.int .i64 k, .string s] 23))
  by_cases h4 : k = 4
  · subst h4
    rw [mayK_4]
    obtain ⟨z, hz⟩ : ∃ z, ((s.size : Int) == 0) = z := ⟨_, rfl⟩
    have hz2 : decide ((s.size : Int) = 0) = z := by rw [← hz]; rfl
    rw [hz2]
    clear hz2
    go_enter Try.func11, Try.ntmps11
    go_wp2_with fail
    go_ret
    exact ⟨by rw [← hz]; rfl, HB.out⟩
  have h4' : (k == 4) = false := beq_eq_false_iff_ne.2 h4
  by_cases h1 : k < 1
  · rw [mayK_out _ h4 (.inl h1)]
    go_enter Try.func11, Try.ntmps11
    go_wp2_with fail
    go_ret
    exact ⟨rfl, HB.out⟩
  by_cases h3 : (3 : Int) < k
  · rw [mayK_out _ h4 (.inr ⟨h1, h3⟩)]
    go_enter Try.func11, Try.ntmps11
    go_wp2_with fail
    go_ret
    exact ⟨rfl, HB.out⟩
  rw [mayK_in _ h1 h3]
  have hsz := size_list s
  by_cases g1 : s.size < 1
  · rw [show s.data.toList = [] from List.length_eq_zero_iff.1 (by omega), mtS_nil]
    have g1' : ((s.size : Int) == 0) = true := beq_iff_eq.2 (by omega)
    clear hsz
    go_enter Try.func11, Try.ntmps11
    go_wp2_with fail
    go_ret
    exact ⟨rfl, HB.out⟩
  have g1' : ((s.size : Int) == 0) = false := beq_eq_false_iff_ne.2 (by omega)
  by_cases g2 : 64 < s.size
  · rw [mtS_long (by omega)]
    have g2' : (64 : Int) < s.size := by omega
    clear hsz
    go_enter Try.func11, Try.ntmps11
    go_wp2_with fail
    go_ret
    exact ⟨rfl, HB.out⟩
  have g2' : ¬ (64 : Int) < s.size := by omega
  rw [mtS_all (by omega) (by omega)]
  obtain ⟨B, hB⟩ : ∃ b, s.data.toList.all mtB = b := ⟨_, rfl⟩
  rw [hB]
  have HBB := hideL hB
  clear hB
  have c0 := HX.out.c0
  have c1 := HX.out.c1
  go_enter Try.func11, Try.ntmps11
  go_wp2_with fail
  generalize w.alloc (.cells #[.int .i64 k, .string s] 23) = V at *
  go_loopw [3] (fun i wr => wr = V ∧ ∃ k : Nat, k ≤ s.size ∧ i = .int .i64 k ∧ HidL ((s.data.toList.drop k).all mtB = B)) (fun i _ => s.size - (intOf i).toNat)
  case atStart => exact ⟨rfl, 0, Nat.zero_le _, rfl, HBB⟩
  case round =>
    obtain ⟨rfl, j, hj, rfl, hd⟩ := hrel
    by_cases hlt : j < s.size
    · have hlt' : (j : Int) < s.size := by omega
      replace hd := hd.out
      rw [byte_at s j hlt, List.all_cons] at hd
      have e33 : s[j].toNat = s[j].toNat := rfl
      obtain ⟨c, hc⟩ : ∃ c, s[j] = c := ⟨_, rfl⟩
      rw [hc] at hd
      have HD := hideL hd
      clear hd e33
      have c255 := c.toNat_lt
      have b42 := nat_of_byte (c := c) (n := 42) (by decide)
      have b44 := nat_of_byte (c := c) (n := 44) (by decide)
      rw [show ((42 : Nat) : Int) = 42 from rfl, show (42 : Nat).toUInt8 = 42 from rfl] at b42
      rw [show ((44 : Nat) : Int) = 44 from rfl, show (44 : Nat).toUInt8 = 44 from rfl] at b44
      cases hl : mtB c
      · have hB : B = false := by rw [← HD.out, hl]; rfl
        subst hB
        rcases mtB_no hl with q1 | ⟨q1, q2⟩ | ⟨q1, q2, q3⟩
        · clear hl b42 b44
          go_wp2_with (go_region)
          go_ret
          exact ⟨rfl, HB.out⟩
        · clear hl b42 b44
          go_wp2_with (go_region)
          go_ret
          exact ⟨rfl, HB.out⟩
        · clear hl
          by_cases q4 : c = 42
          · rw [decide_eq_true q4] at b42
            clear q3 q4 b44
            go_wp2_with (go_region)
            go_ret
            exact ⟨rfl, HB.out⟩
          · have q5 : c = 44 := by rcases q3 with h | h; exact absurd h q4; exact h
            rw [decide_eq_false q4] at b42
            rw [decide_eq_true q5] at b44
            clear q3 q4 q5
            go_wp2_with (go_region)
            go_ret
            exact ⟨rfl, HB.out⟩
      · have hn := HD.out
        rw [hl, Bool.true_and] at hn
        have HN := hideL hn
        clear hn HD
        obtain ⟨a1, a2, a3, a4⟩ := mtB_some hl
        rw [decide_eq_false a3] at b42
        rw [decide_eq_false a4] at b44
        have b1 : ¬ (c.toNat : Int) < 33 := by omega
        have b2 : ¬ (126 : Int) < c.toNat := by omega
        clear hl a1 a2 a3 a4
        go_wp2_with (go_region)
        go_roundw
        case rel => exact ⟨by simp, j + 1, by omega, by go_num, HN⟩
        case measure => simp [intOf]; omega
    · obtain rfl : j = s.size := by omega
      have hlt' : ¬ ((s.size : Nat) : Int) < s.size := by omega
      replace hd := hd.out
      rw [List.drop_of_length_le (by omega)] at hd
      have hB : B = true := by rw [← hd]; rfl
      subst hB
      go_wp2_with (go_region)
      go_ret
      exact ⟨rfl, HB.out⟩
theorem matM_yes {a : Tm} (h : mayM a = true) (s : List UInt8) : matM a s = matK a.k a.t.data.toList s := by
  unfold matM
  rw [h, Bool.true_and]
set_option maxRecDepth 100000 in
set_option maxHeartbeats 1000000 in
theorem matchesR_any (a : Tm) (s : ByteArray) (ht : a.t.size ≤ 9223372036854775807) (hs : s.size ≤ 9223372036854775807) (w : World) : Calls Try.prog 15 #[.agg #[.int .i64 a.k, .string a.t], .string s] w (fun e w' => e = .returned (.bool (matM a s.data.toList)) ∧ Below w.heap.size w w') := by
  have LM := hideL (mayR_any a ht)
  have HX := hideL (TBox.new w a.k a.t)
  have HB := hideL ((Below.refl w.heap.size w).alloc (Nat.le_refl _) (.cells #[.int .i64 a.k, .string a.t] 23))
  cases h : mayM a with
  | false =>
    rw [matM_no (by rw [h]; decide)]
    rw [h] at LM
    clear h
    obtain ⟨k, t⟩ := a
    go_enter Try.func15, Try.ntmps15
    go_wp2_with (go_at_call 11; refine (LM.out _).mono ?_; rintro e w2 ⟨rfl, hB2⟩; have HB2 := hideL (HB.out.trans (hB2.mono HB.out.size)))
    go_ret
    exact ⟨rfl, HB2.out⟩
  | true =>
    rw [matM_yes h]
    rw [h] at LM
    have hk : a.k = 1 ∨ a.k = 2 ∨ a.k = 3 ∨ a.k = 4 := by
      rcases mayM_cases h with ⟨hk, _⟩ | ⟨hk, _⟩ <;> omega
    clear h
    obtain ⟨k, t⟩ := a
    change k = 1 ∨ k = 2 ∨ k = 3 ∨ k = 4 at hk
    dsimp only at *
    rcases hk with rfl | rfl | rfl | rfl
    · rw [show matK 1 t.data.toList s.data.toList = decide (s.data.toList = t.data.toList) from rfl, ← eq_dec]
      go_enter Try.func15, Try.ntmps15
      go_wp2_with (go_at_call 11; refine (LM.out _).mono ?_; rintro e w2 ⟨rfl, hB2⟩; have HB2 := hideL (HB.out.trans (hB2.mono HB.out.size)); have c0 := (HX.out.next hB2).c0; have c1 := (HX.out.next hB2).c1)
      go_ret
      exact ⟨rfl, HB2.out⟩
    · rw [show matK 2 t.data.toList s.data.toList = decide (t.data.toList <+: s.data.toList) from rfl]
      by_cases hle : t.size ≤ s.size
      · rw [← pre_iff s t hle]
        have hle' : (t.size : Int) ≤ s.size := by omega
        go_enter Try.func15, Try.ntmps15
        go_wp2_with (first | (go_region) | (go_at_call 11; refine (LM.out _).mono ?_; rintro e w2 ⟨rfl, hB2⟩; have HB2 := hideL (HB.out.trans (hB2.mono HB.out.size)); have c0 := (HX.out.next hB2).drew.c0; have c1 := (HX.out.next hB2).drew.c1; have d0 := (HX.out.next hB2).c0; have d1 := (HX.out.next hB2).c1))
        go_ret
        exact ⟨rfl, HB2.out.drew⟩
      · rw [pre_no s t hle]
        have hle' : ¬ (t.size : Int) ≤ s.size := by omega
        go_enter Try.func15, Try.ntmps15
        go_wp2_with (first | (go_region) | (go_at_call 11; refine (LM.out _).mono ?_; rintro e w2 ⟨rfl, hB2⟩; have HB2 := hideL (HB.out.trans (hB2.mono HB.out.size)); have c0 := (HX.out.next hB2).drew.c0; have c1 := (HX.out.next hB2).drew.c1; have d0 := (HX.out.next hB2).c0; have d1 := (HX.out.next hB2).c1))
        go_ret
        exact ⟨rfl, HB2.out.drew⟩
    · rw [show matK 3 t.data.toList s.data.toList = decide (t.data.toList <:+ s.data.toList) from rfl]
      by_cases hle : t.size ≤ s.size
      · rw [← suf_iff s t hle]
        have hle' : (t.size : Int) ≤ s.size := by omega
        have hlo : ((s.size : Int) - (t.size : Int) + 9223372036854775808) % 18446744073709551616 - 9223372036854775808 = ((s.size - t.size : Nat) : Int) := by omega
        go_enter Try.func15, Try.ntmps15
        go_wp2_with (first | (go_region) | (go_at_call 11; refine (LM.out _).mono ?_; rintro e w2 ⟨rfl, hB2⟩; have HB2 := hideL (HB.out.trans (hB2.mono HB.out.size)); have c0 := (HX.out.next hB2).drew.c0; have c1 := (HX.out.next hB2).drew.c1; have d0 := (HX.out.next hB2).c0; have d1 := (HX.out.next hB2).c1))
        go_ret
        exact ⟨rfl, HB2.out.drew⟩
      · rw [suf_no s t hle]
        have hle' : ¬ (t.size : Int) ≤ s.size := by omega
        go_enter Try.func15, Try.ntmps15
        go_wp2_with (first | (go_region) | (go_at_call 11; refine (LM.out _).mono ?_; rintro e w2 ⟨rfl, hB2⟩; have HB2 := hideL (HB.out.trans (hB2.mono HB.out.size)); have c0 := (HX.out.next hB2).drew.c0; have c1 := (HX.out.next hB2).drew.c1; have d0 := (HX.out.next hB2).c0; have d1 := (HX.out.next hB2).c1))
        go_ret
        exact ⟨rfl, HB2.out.drew⟩
    · have hm4 : matK 4 t.data.toList s.data.toList = decide (0 < s.size) := by
        show (!s.data.toList.isEmpty) = _
        rw [← size_list]
        cases s.data.toList with
        | nil => rfl
        | cons c l =>
          rw [List.isEmpty_cons, decide_eq_true (by rw [List.length_cons]; omega)]
          rfl
      rw [hm4]
      clear hm4
      go_enter Try.func15, Try.ntmps15
      go_wp2_with (first | (go_region) | (go_at_call 11; refine (LM.out _).mono ?_; rintro e w2 ⟨rfl, hB2⟩; have HB2 := hideL (HB.out.trans (hB2.mono HB.out.size)); have c0 := (HX.out.next hB2).c0; have c1 := (HX.out.next hB2).c1))
      go_ret
      exact ⟨rfl, HB2.out⟩
set_option maxRecDepth 100000 in
set_option maxHeartbeats 400000 in
theorem printR_any (a : Tm) (ht : a.t.size ≤ 10000) (w : World) : Calls Try.prog 20 #[.agg #[.int .i64 a.k, .string a.t]] w (fun e w' => e = .returned (.string (prM a)) ∧ Below w.heap.size w w') := by
  have HX := hideL (TBox.new w a.k a.t)
  have HB := hideL ((Below.refl w.heap.size w).alloc (Nat.le_refl _) (.cells #[.int .i64 a.k, .string a.t] 23))
  obtain ⟨k, t⟩ := a
  dsimp only at *
  by_cases h1 : k = 1
  · subst h1
    rw [show prM ⟨1, t⟩ = t from bytes_ext rfl]
    go_enter Try.func20, Try.ntmps20
    go_wp2_with fail
    go_ret
    exact ⟨rfl, HB.out⟩
  have h1' : (k == 1) = false := beq_eq_false_iff_ne.2 h1
  by_cases h2 : k = 2
  · subst h2
    rw [show prM ⟨2, t⟩ = t ++ ⟨#[42]⟩ from bytes_ext (by show t.data.toList ++ [42] = _; simp)]
    clear h1 h1'
    go_enter Try.func20, Try.ntmps20
    go_wp2_with fail
    go_ret
    exact ⟨rfl, HB.out⟩
  have h2' : (k == 2) = false := beq_eq_false_iff_ne.2 h2
  by_cases h3 : k = 3
  · subst h3
    rw [show prM ⟨3, t⟩ = ⟨#[42]⟩ ++ t from bytes_ext (by show 42 :: t.data.toList = _; simp)]
    clear h1 h1' h2 h2'
    go_enter Try.func20, Try.ntmps20
    go_wp2_with fail
    go_ret
    exact ⟨rfl, HB.out⟩
  have h3' : (k == 3) = false := beq_eq_false_iff_ne.2 h3
  rw [show prM ⟨k, t⟩ = ⟨#[42]⟩ from bytes_ext (by show prK k t.data.toList = _; unfold prK; rw [if_neg h1, if_neg h2, if_neg h3])]
  go_enter Try.func20, Try.ntmps20
  go_wp2_with fail
  go_ret
  exact ⟨rfl, HB.out⟩
end Go.Proofs.Ytffbmkocmjpmeaa
