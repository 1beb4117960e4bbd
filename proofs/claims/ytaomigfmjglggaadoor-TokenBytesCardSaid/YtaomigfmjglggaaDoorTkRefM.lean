/- The document's short number at the front of bytes. What the document's Read answers, in plain words: it is what the program's answers. The document's Read of a token. -/
import Derived.Test.YtaomigfmjglggaaDoorTkRdM
import Derived.Test.YtaomigfmjglggaaDoorTuck
import Derived.Test.YtaomigfmjglggaaDoorTkIss
namespace Go.Proofs.YtaomigfmjglggaaDoor
open Go.RowKit

/-- What number answers. -/
def numS (bs : List Int) : Nat × Nat := match cutUS bs with
  | none => (0, 0)
  | some y => (y.1, bs.length - y.2.length)
theorem numS_none {bs : List Int} (h : cutUS bs = none) : numS bs = (0, 0) := by rw [numS, h]
theorem numS_some {bs : List Int} {y : Nat × List Int} (hr : ∀ x ∈ bs, 0 ≤ x ∧ x < 256) (h : cutUS bs = some y) : ∃ n, numS bs = (y.1, n) ∧ 0 < n ∧ n ≤ bs.length ∧ bs.drop n = y.2 ∧ bs.length - n = y.2.length ∧ y.1 < 18446744073709551616 := by
  obtain ⟨h1, h2⟩ := cutUS_form bs y.1 y.2 hr h
  have hp := uintF_pos 9 y.1
  have hl : bs.length = (uintS y.1).length + y.2.length := by rw [← h2, List.length_append]
  refine ⟨bs.length - y.2.length, by rw [numS, h], by rw [hl]; have : 0 < (uintS y.1).length := hp; omega, by omega, ?_, by omega, h1⟩
  rw [hl, Nat.add_sub_cancel]
  conv => lhs; rw [← h2]
  rw [List.drop_left' rfl]
/-- What is left to do when k bytes are behind: acc is their number. -/
def numK (bs : List Int) (k acc : Nat) : Nat × Nat := match cutL (10 - k) k (bs.drop k) with
  | none => (0, 0)
  | some y => (acc + y.1, bs.length - y.2.length)
theorem numK_zero (bs : List Int) : numK bs 0 0 = numS bs := by
  unfold numK numS cutUS
  rw [List.drop_zero]
  cases cutL (10 - 0) 0 bs with
  | none => rfl
  | some y => simp
theorem numK_end (bs : List Int) (k acc : Nat) (h : bs.length ≤ k ∨ 10 ≤ k) : numK bs k acc = (0, 0) := by
  unfold numK
  have : cutL (10 - k) k (bs.drop k) = none := by
    rcases h with h | h
    · rw [List.drop_eq_nil_of_le h]
      cases (10 - k) <;> rfl
    · rw [show 10 - k = 0 by omega]
      rfl
  rw [this]
theorem drop_nth (bs : List Int) (k : Nat) (h : k < bs.length) : bs.drop k = nth bs k :: bs.drop (k + 1) := by
  rw [List.drop_eq_getElem_cons h]
  simp [nth, List.getD, h]
theorem two63 : 2 ^ (7 * 9) = 9223372036854775808 := by decide
theorem cutL_over (b : Nat) (r : List Int) (h1 : 1 < b) (h2 : b < 256) : cutL (0 + 1) 9 ((b : Int) :: r) = none := by
  have hm : (b : Int).toNat % 128 = b % 128 := by omega
  rw [cutL, hm, two63]
  by_cases hb : b < 128
  · rw [if_pos (Or.inl (by omega))]
  · split
    · rfl
    · rw [if_neg (by omega)]
      rfl
theorem numK_over (bs : List Int) (acc b : Nat) (h : 9 < bs.length) (hb : nth bs 9 = b) (h1 : 1 < b) (h2 : b < 256) : numK bs 9 acc = (0, 0) := by
  unfold numK
  rw [drop_nth bs 9 h, hb, show 10 - 9 = 0 + 1 from rfl, cutL_over b _ h1 h2]
theorem numK_zero_end (bs : List Int) (k acc : Nat) (hk : k < 10) (h : k < bs.length) (hb : nth bs k = 0) (h1 : 0 < k) : numK bs k acc = (0, 0) := by
  unfold numK
  rw [drop_nth bs k h, hb, show 10 - k = (9 - k) + 1 by omega, cutL, if_pos (Or.inr ⟨rfl, h1⟩)]
theorem numK_last (bs : List Int) (k acc b : Nat) (hk : k < 10) (h : k < bs.length) (hb : nth bs k = b) (h1 : b < 128) (h2 : k = 0 ∨ 0 < b) (h3 : k = 9 → b ≤ 1) : numK bs k acc = (acc + b * 2 ^ (7 * k), k + 1) := by
  unfold numK
  have hm : (b : Int).toNat % 128 = b := by omega
  have hs : b * 2 ^ (7 * k) < 18446744073709551616 := by
    have : k = 0 ∨ k = 1 ∨ k = 2 ∨ k = 3 ∨ k = 4 ∨ k = 5 ∨ k = 6 ∨ k = 7 ∨ k = 8 ∨ k = 9 := by omega
    rcases this with rfl | rfl | rfl | rfl | rfl | rfl | rfl | rfl | rfl | rfl <;> simp <;> omega
  rw [drop_nth bs k h, hb, show 10 - k = (9 - k) + 1 by omega, cutL, hm, if_neg (by omega), if_pos (by omega)]
  simp
  omega
theorem numK_more (bs : List Int) (k acc b : Nat) (hk : k < 9) (h : k < bs.length) (hb : nth bs k = b) (h1 : 128 ≤ b) (h2 : b < 256) : numK bs k acc = numK bs (k + 1) (acc + b % 128 * 2 ^ (7 * k)) := by
  unfold numK
  have hm : (b : Int).toNat % 128 = b % 128 := by omega
  have hs : b % 128 * 2 ^ (7 * k) < 18446744073709551616 := by
    have : k = 0 ∨ k = 1 ∨ k = 2 ∨ k = 3 ∨ k = 4 ∨ k = 5 ∨ k = 6 ∨ k = 7 ∨ k = 8 := by omega
    rcases this with rfl | rfl | rfl | rfl | rfl | rfl | rfl | rfl | rfl <;> simp <;> omega
  rw [drop_nth bs k h, hb, show 10 - k = (10 - (k + 1)) + 1 by omega, cutL, hm, if_neg (by omega), if_neg (by omega)]
  cases cutL (10 - (k + 1)) (k + 1) (bs.drop (k + 1)) with
  | none => rfl
  | some y =>
    simp only [Option.map_some]
    rw [Nat.add_assoc]
theorem and127n : ∀ a : Fin 256, bits BinOp.and IntKind.u8 (a.val : Int) 127 = ((a.val % 128 : Nat) : Int) := by decide +kernel
/-- A shift by seven times a number. -/
theorem shl_seven (m k : Nat) (hm : m < 128) (hk : k < 10) (h9 : k = 9 → m ≤ 1) : m * 2 ^ (7 * k) < 18446744073709551616 := by
  have : k = 0 ∨ k = 1 ∨ k = 2 ∨ k = 3 ∨ k = 4 ∨ k = 5 ∨ k = 6 ∨ k = 7 ∨ k = 8 ∨ k = 9 := by omega
  rcases this with rfl | rfl | rfl | rfl | rfl | rfl | rfl | rfl | rfl | rfl <;> simp <;> omega

set_option maxRecDepth 100000 in
set_option maxHeartbeats 2000000 in
theorem number_any (sv : Value) (bs : List Int) (W : World) (hs : SlAt W sv bs) (hr : ∀ x ∈ bs, 0 ≤ x ∧ x < 256) :
    Calls Tryd.prog 43 #[sv] W (fun e w' => e = .returned (.tuple #[.int .u64 ((numS bs).1 : Nat), .int .i64 ((numS bs).2 : Nat)]) ∧ w' = W) := by
  obtain ⟨ao, cap, rfl⟩ := hs.len
  have HS := hide hs
  have HR := hide hr
  obtain ⟨q, hq⟩ : ∃ q, bs.length = q := ⟨_, rfl⟩
  have HQ := tuck hq
  rw [hq] at HS ⊢
  clear hs hr hq
  go_enter Tryd.func43, Tryd.ntmps43
  go_wp2_with fail
  go_loopw [4, 5] (fun a i wr => ∃ k acc : Nat, k ≤ 10 ∧ i = .int .i64 k ∧ a = .int .u64 acc ∧ acc < 2 ^ (7 * k) ∧ acc < 18446744073709551616 ∧ k ≤ q ∧ wr = W ∧ Hid (numS bs = numK bs k acc)) (fun _ i _ => 10 - (intOf i).toNat)
  case atStart => exact ⟨0, 0, by omega, rfl, rfl, by simp, by omega, by omega, rfl, hide (numK_zero bs).symm⟩
  case round =>
    obtain ⟨k, acc, hk, rfl, rfl, ha, ha64, hkl, rfl, hc⟩ := hrel
    by_cases hlt : k < q
    · by_cases hk10 : k < 10
      · obtain ⟨ad, rfl, hsp, hcell⟩ := HS.out.cellK (i := k) hlt
        have hbr := nth_range HR.out k
        obtain ⟨b, hbn⟩ : ∃ b : Nat, nth bs k = b := ⟨(nth bs k).toNat, by omega⟩
        have HBN := tuck hbn
        rw [hbn] at hcell
        have hb2 : b < 256 := by omega
        have hand := and127n ⟨b, hb2⟩
        dsimp only at hand
        have hkbs : k < bs.length := by rw [HQ.out]; exact hlt
        have HKB := tuck hkbs
        have hw7 : IntKind.i64.wrap (7 * (k : Int)) = 7 * (k : Int) := IntWalk.i64_in _ (by omega)
        clear hbr hbn hkbs
        have hin1 : (k : Int) < (q : Int) := by omega
        have hin2 : (k : Int) < 10 := by omega
        obtain ⟨m, hm⟩ : ∃ m : Nat, b % 128 = m := ⟨_, rfl⟩
        rw [hm] at hand
        have hm2 : m < 128 := by omega
        have hwm : IntKind.u64.wrap (m : Int) = m := IntWalk.u64_in _ (by omega)
        by_cases hov : k = 9 ∧ 1 < b
        · have HEQ := hide (show numS bs = (0, 0) from by
            rw [hc.out]
            have h9 := hov.1
            subst h9
            exact numK_over bs acc b HKB.out HBN.out hov.2 hb2)
          have h9d : decide ((k : Int) = 9) = true := by simpa using (show (k : Int) = 9 by omega)
          have h9b : ((k : Int) == 9) = true := by simpa using (show (k : Int) = 9 by omega)
          have h1b : (1 : Int) < (b : Int) := by omega
          have h1d : decide ((1 : Int) < (b : Int)) = true := by simpa using h1b
          clear hc ha hw7 hand hov hwm hm hm2
          go_wp2_with fail
          try simp only [Exit.inBlock, Exit.then]
          refine bodyPost_ret (results_tmp2 rfl _ _ _) rfl ?_
          rw [HEQ.out]
          exact ⟨rfl, rfl⟩
        have hsh : m * 2 ^ (7 * k) < 18446744073709551616 := shl_seven m k hm2 hk10 (fun h => by omega)
        have hor := or_add acc m k ha hsh ha64
        have hws : IntKind.u64.wrap ((m : Int) * 2 ^ (7 * k)) = ((m * 2 ^ (7 * k) : Nat) : Int) := by
          rw [show (m : Int) * 2 ^ (7 * k) = ((m * 2 ^ (7 * k) : Nat) : Int) by push_cast; rfl]
          exact IntWalk.u64_in _ (by omega)
        obtain ⟨sh, hshd⟩ : ∃ sh : Nat, m * 2 ^ (7 * k) = sh := ⟨_, rfl⟩
        rw [hshd] at hor hws hsh
        have HSH := tuck hshd
        have HM := tuck hm
        obtain ⟨ac2, hac⟩ : ∃ ac2, acc + sh = ac2 := ⟨_, rfl⟩
        rw [hac] at hor
        have HAC := tuck hac
        clear hac hshd
        by_cases hb128 : b < 128
        · have hmb : m = b := by omega
          have h8b : (b : Int) < 128 := by omega
          have h8d : decide ((b : Int) < 128) = true := by simpa using h8b
          by_cases hz : 0 < k ∧ b = 0
          · have HEQ := hide (show numS bs = (0, 0) from by rw [hc.out]; exact numK_zero_end bs k acc hk10 HKB.out (by rw [HBN.out, hz.2]; rfl) hz.1)
            have hkb : (0 : Int) < (k : Int) := by omega
            have hkd : decide ((0 : Int) < (k : Int)) = true := by simpa using hkb
            have hzd : decide ((b : Int) = 0) = true := by simpa using (show (b : Int) = 0 by omega)
            have hzb : ((b : Int) == 0) = true := by simpa using (show (b : Int) = 0 by omega)
            have h1b : ¬ (1 : Int) < (b : Int) := by omega
            have h1d : decide ((1 : Int) < (b : Int)) = false := by simpa using h1b
            by_cases h9 : k = 9
            · have h9d : decide ((k : Int) = 9) = true := by simpa using (show (k : Int) = 9 by omega)
              have h9b : ((k : Int) == 9) = true := by simpa using (show (k : Int) = 9 by omega)
              clear hc ha hov hm hm2 hmb hz h9 hb128
              go_wp2_with fail
              try simp only [Exit.inBlock, Exit.then]
              refine bodyPost_ret (results_tmp2 rfl _ _ _) rfl ?_
              rw [HEQ.out]
              exact ⟨rfl, rfl⟩
            · have h9d : decide ((k : Int) = 9) = false := by simpa using (show ¬ (k : Int) = 9 by omega)
              have h9b : ((k : Int) == 9) = false := by simpa using (show ¬ (k : Int) = 9 by omega)
              clear hc ha hov hm hm2 hmb hz h9 hb128
              go_wp2_with fail
              try simp only [Exit.inBlock, Exit.then]
              refine bodyPost_ret (results_tmp2 rfl _ _ _) rfl ?_
              rw [HEQ.out]
              exact ⟨rfl, rfl⟩
          have HEQ := hide (show numS bs = (ac2, k + 1) from by
            rw [hc.out, numK_last bs k acc b hk10 HKB.out HBN.out hb128 (by omega) (fun h => by omega), ← HAC.out, ← HSH.out, hmb])
          have hwk : IntKind.i64.wrap ((k : Int) + 1) = ((k + 1 : Nat) : Int) := by rw [IntWalk.i64_in _ (by omega)]; rfl
          by_cases hk0 : k = 0
          · have hkb : ¬ (0 : Int) < (k : Int) := by omega
            have hkd : decide ((0 : Int) < (k : Int)) = false := by simpa using hkb
            have h9d : decide ((k : Int) = 9) = false := by simpa using (show ¬ (k : Int) = 9 by omega)
            have h9b : ((k : Int) == 9) = false := by simpa using (show ¬ (k : Int) = 9 by omega)
            clear hc ha hov hm hm2 hmb hz hk0 hb128
            go_wp2_with fail
            try simp only [Exit.inBlock, Exit.then]
            refine bodyPost_ret (results_tmp2 rfl _ _ _) rfl ?_
            rw [HEQ.out]
            exact ⟨rfl, rfl⟩
          have hkb : (0 : Int) < (k : Int) := by omega
          have hkd : decide ((0 : Int) < (k : Int)) = true := by simpa using hkb
          have hzd : decide ((b : Int) = 0) = false := by simpa using (show ¬ (b : Int) = 0 by omega)
          have hzb : ((b : Int) == 0) = false := by simpa using (show ¬ (b : Int) = 0 by omega)
          by_cases h9 : k = 9
          · have h9d : decide ((k : Int) = 9) = true := by simpa using (show (k : Int) = 9 by omega)
            have h9b : ((k : Int) == 9) = true := by simpa using (show (k : Int) = 9 by omega)
            have h1b : ¬ (1 : Int) < (b : Int) := by omega
            have h1d : decide ((1 : Int) < (b : Int)) = false := by simpa using h1b
            clear hc ha hov hm hm2 hmb hz h9 hb128 hk0
            go_wp2_with fail
            try simp only [Exit.inBlock, Exit.then]
            refine bodyPost_ret (results_tmp2 rfl _ _ _) rfl ?_
            rw [HEQ.out]
            exact ⟨rfl, rfl⟩
          · have h9d : decide ((k : Int) = 9) = false := by simpa using (show ¬ (k : Int) = 9 by omega)
            have h9b : ((k : Int) == 9) = false := by simpa using (show ¬ (k : Int) = 9 by omega)
            clear hc ha hov hm hm2 hmb hz h9 hb128 hk0
            go_wp2_with fail
            try simp only [Exit.inBlock, Exit.then]
            refine bodyPost_ret (results_tmp2 rfl _ _ _) rfl ?_
            rw [HEQ.out]
            exact ⟨rfl, rfl⟩
        · have hk9 : k < 9 := by omega
          have HEQ := hide (show numS bs = numK bs (k + 1) ac2 from by
            rw [hc.out, numK_more bs k acc b hk9 HKB.out HBN.out (by omega) hb2, HM.out, HSH.out, HAC.out])
          have HA2 := hide (show ac2 < 2 ^ (7 * (k + 1)) ∧ ac2 < 18446744073709551616 from by
            have := acc_more acc m k hm2 ha (by rw [HSH.out]; exact hsh) hk10
            rw [HSH.out, HAC.out] at this
            exact this)
          have h8b : ¬ (b : Int) < 128 := by omega
          have h8d : decide ((b : Int) < 128) = false := by simpa using h8b
          have h9d : decide ((k : Int) = 9) = false := by simpa using (show ¬ (k : Int) = 9 by omega)
          have h9b : ((k : Int) == 9) = false := by simpa using (show ¬ (k : Int) = 9 by omega)
          clear hc ha hov hm hm2 hb128
          go_wp2_with fail
          go_roundw
          case rel => exact ⟨k + 1, ac2, by omega, by go_num, (by first | rfl | trivial), HA2.out.1, HA2.out.2, by omega, (by first | trivial | rfl | simp), HEQ⟩
          case measure => simp [intOf]; omega
      · have HEQ := hide (show numS bs = (0, 0) from by rw [hc.out]; exact numK_end bs k acc (.inr (by omega)))
        have hin1 : (k : Int) < (q : Int) := by omega
        have hin2 : ¬ (k : Int) < 10 := by omega
        clear hc ha
        go_wp2_with fail
        try simp only [Exit.inBlock, Exit.then]
        refine bodyPost_ret (results_tmp2 rfl _ _ _) rfl ?_
        rw [HEQ.out]
        exact ⟨rfl, rfl⟩
    · have HEQ := hide (show numS bs = (0, 0) from by rw [hc.out]; exact numK_end bs k acc (.inl (by rw [HQ.out]; omega)))
      have hin1 : ¬ (k : Int) < (q : Int) := by omega
      clear hc ha
      go_wp2_with fail
      try simp only [Exit.inBlock, Exit.then]
      refine bodyPost_ret (results_tmp2 rfl _ _ _) rfl ?_
      rw [HEQ.out]
      exact ⟨rfl, rfl⟩
end Go.Proofs.YtaomigfmjglggaaDoor
namespace Go.Proofs.YtaomigfmjglggaaDoor
open Go.RowKit

/-- What the i-th number, and what stands behind it, make of what was read. -/
def stepR (i : Nat) (p : List Int × Tk × List Int) : Option (List Int × Tk × List Int) := match cutUS p.1 with
  | none => none
  | some y =>
    if i < 2 then (if 20 < y.1 ∨ y.2.length < y.1 then none else some (y.2.drop y.1, (if i = 0 then { p.2.1 with ns := strOfNums (y.2.take y.1) } else { p.2.1 with sa := strOfNums (y.2.take y.1) }), p.2.2.set i (y.1 : Nat)))
    else if i = 3 then (if y.2.length < 4 ∨ 9 < y.1 then none else some (y.2.drop 4, { p.2.1 with addr := u32V y.2 4 }, p.2.2.set i (y.1 : Nat)))
    else some (y.2, p.2.1, p.2.2.set i (y.1 : Nat))
def runR (bs : List Int) : Nat → Option (List Int × Tk × List Int)
  | 0 => some (bs.drop 1, tk0, List.replicate 7 0)
  | i + 1 => (runR bs i).bind (stepR i)
/-- The token that the document's Read ends with. -/
def finT (p : List Int × Tk × List Int) : Tk := { p.2.1 with uid := (nth p.2.2 2).toNat, host := IntKind.i64.wrap (nth p.2.2 3), born := (nth p.2.2 4).toNat, til := (nth p.2.2 5).toNat, key := (nth p.2.2 6).toNat, mac := p.1 }
def refS (bs : List Int) : Option Tk := if bs.length < 1 ∨ nth bs 0 ≠ 1 then none else match runR bs 7 with
  | none => none
  | some p => if p.1.length ≠ 32 then none else if mayT (finT p) = true then some (finT p) else none
theorem runR_none (bs : List Int) (i : Nat) (h : runR bs i = none) : ∀ d, runR bs (i + d) = none
  | 0 => h
  | d + 1 => by rw [← Nat.add_assoc, runR, runR_none bs i h d]; rfl
theorem refS_stop {bs : List Int} {i : Nat} {p : List Int × Tk × List Int} (hi : i < 7) (h : runR bs i = some p) (hs : stepR i p = none) : refS bs = none := by
  have h1 : runR bs (i + 1) = none := by rw [runR, h]; exact hs
  have h7 : runR bs 7 = none := by
    have := runR_none bs (i + 1) h1 (6 - i)
    rwa [show i + 1 + (6 - i) = 7 by omega] at this
  unfold refS
  rw [h7]
  split <;> rfl
theorem runR_next {bs : List Int} {i : Nat} {p p' : List Int × Tk × List Int} (h : runR bs i = some p) (hs : stepR i p = some p') : runR bs (i + 1) = some p' := by rw [runR, h]; exact hs
theorem runR_prev {bs : List Int} {i : Nat} {p' : List Int × Tk × List Int} (h : runR bs (i + 1) = some p') : ∃ p, runR bs i = some p ∧ stepR i p = some p' := by
  rw [runR] at h
  cases hp : runR bs i with
  | none => rw [hp] at h; cases h
  | some p => rw [hp] at h; exact ⟨p, rfl, h⟩

theorem step_put_text (i : Nat) (hi : i < 2) (s : ByteArray) (hs : s.size ≤ 20) (r : List Int) (t : Tk) (l : List Int) : stepR i (textS s ++ r, t, l) = some (r, (if i = 0 then { t with ns := s } else { t with sa := s }), l.set i (s.size : Nat)) := by
  have hc : cutUS (textS s ++ r) = some (s.size, bytesOf s ++ r) := by
    rw [textS, List.append_assoc]
    exact cutUS_uintS _ _ (by omega)
  have hb := length_bytesOf s
  have h1 : (bytesOf s ++ r).take s.size = bytesOf s := List.take_left' hb
  have h2 : (bytesOf s ++ r).drop s.size = r := List.drop_left' hb
  unfold stepR
  rw [hc]
  dsimp only
  rw [if_pos hi, if_neg (by rw [List.length_append, hb]; omega), h1, h2, str_bytesOf]
theorem step_put_host (x : Nat) (hx : x ≤ 9) (a : Nat) (ha : a < 4294967296) (r : List Int) (t : Tk) (l : List Int) : stepR 3 (uintS x ++ (u32S a ++ r), t, l) = some (r, { t with addr := a }, l.set 3 (x : Nat)) := by
  have hc := cutUS_uintS x (u32S a ++ r) (by omega)
  have hl : (u32S a).length = 4 := length_u32T a 4
  unfold stepR
  rw [hc]
  dsimp only
  rw [if_neg (by omega), if_pos rfl, if_neg (by rw [List.length_append, hl]; omega), List.drop_left' hl, u32V_u32S a r ha]
theorem step_put_num (i : Nat) (h2 : ¬ i < 2) (h3 : i ≠ 3) (x : Nat) (hx : x < 18446744073709551616) (r : List Int) (t : Tk) (l : List Int) : stepR i (uintS x ++ r, t, l) = some (r, t, l.set i (x : Nat)) := by
  unfold stepR
  rw [cutUS_uintS x r hx]
  dsimp only
  rw [if_neg h2, if_neg h3]

theorem refS_put (t : Tk) (ho : t.ok) (hm : mayT t = true) : refS (saidS t ++ t.mac) = some t := by
  obtain ⟨m1, m2, _, _, ⟨m3, m4⟩, ⟨m5, m6⟩, m7, m8, m9, m10⟩ := mayT_parts hm
  unfold most at m4 m8 m10
  have hw : IntKind.i64.wrap (t.host.toNat : Int) = t.host := by rw [IntWalk.i64_in _ (by omega)]; omega
  rw [said_cons]
  obtain ⟨bs, hbs⟩ : ∃ bs, bs = 1 :: (textS t.ns ++ (textS t.sa ++ (uintS t.uid ++ (uintS t.host.toNat ++ (u32S t.addr ++ (uintS t.born ++ (uintS t.til ++ (uintS t.key ++ t.mac)))))))) := ⟨_, rfl⟩
  rw [← hbs]
  have r0 : runR bs 0 = some (textS t.ns ++ (textS t.sa ++ (uintS t.uid ++ (uintS t.host.toNat ++ (u32S t.addr ++ (uintS t.born ++ (uintS t.til ++ (uintS t.key ++ t.mac))))))), tk0, List.replicate 7 0) := by rw [hbs]; rfl
  have r1 := runR_next r0 (step_put_text 0 (by omega) t.ns m1 _ _ _)
  have r2 := runR_next r1 (step_put_text 1 (by omega) t.sa m2 _ _ _)
  have r3 := runR_next r2 (step_put_num 2 (by omega) (by omega) t.uid (by omega) _ _ _)
  have r4 := runR_next r3 (step_put_host t.host.toNat (by omega) t.addr ho.addr _ _ _)
  have r5 := runR_next r4 (step_put_num 4 (by omega) (by omega) t.born (by omega) _ _ _)
  have r6 := runR_next r5 (step_put_num 5 (by omega) (by omega) t.til (by omega) _ _ _)
  have r7 := runR_next r6 (step_put_num 6 (by omega) (by omega) t.key (by omega) _ _ _)
  have hh : ¬ (bs.length < 1 ∨ nth bs 0 ≠ 1) := by rw [hbs]; simp [nth]
  rw [refS, if_neg hh]
  obtain ⟨z, l, r7, z1, z2, z3, hl⟩ : ∃ (z : Tk) (l : List Int), runR bs 7 = some (t.mac, z, l) ∧ z.ns = t.ns ∧ z.sa = t.sa ∧ z.addr = t.addr ∧ l = [(t.ns.size : Int), (t.sa.size : Int), (t.uid : Int), (t.host.toNat : Int), (t.born : Int), (t.til : Int), (t.key : Int)] := ⟨_, _, r7, rfl, rfl, rfl, rfl⟩
  rw [r7]
  dsimp only
  rw [if_neg (by rw [ho.mac]; simp)]
  have hf : finT (t.mac, z, l) = t := by
    subst hl
    obtain ⟨zns, zsa, zuid, zhost, zaddr, zborn, ztil, zkey, zmac⟩ := z
    obtain ⟨ns, sa, uid, host, addr, born, til, key, mac⟩ := t
    dsimp only at *
    subst z1 z2 z3
    simp only [finT, nth, List.getD_cons_zero, List.getD_cons_succ, Int.toNat_natCast, hw]
  rw [hf, if_pos hm]

theorem step_of_text {i : Nat} (hi : i < 2) {rest : List Int} {t : Tk} {l : List Int} {p' : List Int × Tk × List Int} (hf : Fine rest) (h : stepR i (rest, t, l) = some p') : ∃ s : ByteArray, rest = textS s ++ p'.1 ∧ p'.2.1 = (if i = 0 then { t with ns := s } else { t with sa := s }) ∧ p'.2.2 = l.set i (s.size : Nat) ∧ Fine p'.1 ∧ s.size ≤ 20 := by
  unfold stepR at h
  cases hc : cutUS rest with
  | none => rw [hc] at h; cases h
  | some y =>
    rw [hc] at h
    dsimp only at h
    rw [if_pos hi] at h
    split at h
    · cases h
    · rename_i hn
      injection h with h
      have hy := fine_cutUS hf hc
      have hform := (cutUS_form rest y.1 y.2 hf.1 hc).2
      have htk : ∀ x ∈ y.2.take y.1, 0 ≤ x ∧ x < 256 := fun x hx => hy.1 x (List.mem_of_mem_take hx)
      have hsz : (strOfNums (y.2.take y.1)).size = y.1 := by rw [size_str _ htk]; simp; omega
      subst h
      refine ⟨strOfNums (y.2.take y.1), ?_, rfl, by rw [hsz], hy.drop _, by rw [hsz]; omega⟩
      rw [textS, hsz, bytesOf_str _ htk, List.append_assoc, List.take_append_drop, hform]
theorem step_of_host {rest : List Int} {t : Tk} {l : List Int} {p' : List Int × Tk × List Int} (hf : Fine rest) (h : stepR 3 (rest, t, l) = some p') : ∃ x a : Nat, rest = uintS x ++ (u32S a ++ p'.1) ∧ p'.2.1 = { t with addr := a } ∧ p'.2.2 = l.set 3 (x : Nat) ∧ Fine p'.1 ∧ x ≤ 9 ∧ a < 4294967296 := by
  unfold stepR at h
  cases hc : cutUS rest with
  | none => rw [hc] at h; cases h
  | some y =>
    rw [hc] at h
    dsimp only at h
    rw [if_neg (by omega), if_pos rfl] at h
    split at h
    · cases h
    · rename_i hn
      injection h with h
      have hy := fine_cutUS hf hc
      have hform := (cutUS_form rest y.1 y.2 hf.1 hc).2
      have hu := u32S_form y.2 hy.1 (by omega)
      subst h
      exact ⟨y.1, u32V y.2 4, by rw [hu.2, hform], rfl, rfl, hy.drop _, by omega, hu.1⟩
theorem step_of_num {i : Nat} (h2 : ¬ i < 2) (h3 : i ≠ 3) {rest : List Int} {t : Tk} {l : List Int} {p' : List Int × Tk × List Int} (hf : Fine rest) (h : stepR i (rest, t, l) = some p') : ∃ x : Nat, rest = uintS x ++ p'.1 ∧ p'.2.1 = t ∧ p'.2.2 = l.set i (x : Nat) ∧ Fine p'.1 ∧ x < 18446744073709551616 := by
  unfold stepR at h
  cases hc : cutUS rest with
  | none => rw [hc] at h; cases h
  | some y =>
    rw [hc] at h
    dsimp only at h
    rw [if_neg h2, if_neg h3] at h
    injection h with h
    have hy := fine_cutUS hf hc
    have hform := cutUS_form rest y.1 y.2 hf.1 hc
    subst h
    exact ⟨y.1, hform.2.symm, rfl, rfl, hy, hform.1⟩

theorem refS_form {bs : List Int} {t : Tk} (hf : Fine bs) (h : refS bs = some t) : t.ok ∧ mayT t = true ∧ bs = saidS t ++ t.mac := by
  unfold refS at h
  split at h
  · cases h
  · rename_i hh
    split at h
    · cases h
    · rename_i p7 r7
      split at h
      · cases h
      · rename_i hlen
        split at h
        · rename_i hm
          injection h with h
          obtain ⟨⟨q6, t6, l6⟩, r6, s6⟩ := runR_prev r7
          obtain ⟨⟨q5, t5, l5⟩, r5, s5⟩ := runR_prev r6
          obtain ⟨⟨q4, t4, l4⟩, r4, s4⟩ := runR_prev r5
          obtain ⟨⟨q3, t3, l3⟩, r3, s3⟩ := runR_prev r4
          obtain ⟨⟨q2, t2, l2⟩, r2, s2⟩ := runR_prev r3
          obtain ⟨⟨q1, t1, l1⟩, r1, s1⟩ := runR_prev r2
          obtain ⟨⟨q0, t0, l0⟩, r0, s0⟩ := runR_prev r1
          replace r0 : some (bs.drop 1, tk0, List.replicate 7 (0 : Int)) = some (q0, t0, l0) := r0
          injection r0 with r0
          injection r0 with e0 r0
          injection r0 with e1 e2
          subst e0 e1 e2
          obtain ⟨p7q, p7t, p7l⟩ := p7
          obtain ⟨ns, a1, b1, c1, f1, z1⟩ := step_of_text (by omega) (hf.drop 1) s0
          dsimp only at a1 b1 c1 f1
          obtain ⟨sa, a2, b2, c2, f2, z2⟩ := step_of_text (by omega) f1 s1
          dsimp only at a2 b2 c2 f2
          obtain ⟨uid, a3, b3, c3, f3, z3⟩ := step_of_num (by omega) (by omega) f2 s2
          dsimp only at a3 b3 c3 f3
          obtain ⟨host, addr, a4, b4, c4, f4, z4, y4⟩ := step_of_host f3 s3
          dsimp only at a4 b4 c4 f4
          obtain ⟨born, a5, b5, c5, f5, z5⟩ := step_of_num (by omega) (by omega) f4 s4
          dsimp only at a5 b5 c5 f5
          obtain ⟨til, a6, b6, c6, f6, z6⟩ := step_of_num (by omega) (by omega) f5 s5
          dsimp only at a6 b6 c6 f6
          obtain ⟨key, a7, b7, c7, f7, z7⟩ := step_of_num (by omega) (by omega) f6 s6
          dsimp only at a7 b7 c7 f7 hlen
          have hw : IntKind.i64.wrap (host : Int) = host := IntWalk.i64_in _ (by omega)
          have ht : finT (p7q, p7t, p7l) = ⟨ns, sa, uid, (host : Nat), addr, born, til, key, p7q⟩ := by
            rw [b7, b6, b5, b4, b3, b2, b1, c7, c6, c5, c4, c3, c2, c1]
            simp only [finT, List.replicate, List.set_cons_zero, List.set_cons_succ, nth, List.getD_cons_zero, List.getD_cons_succ, Int.toNat_natCast, hw, if_true, Nat.one_ne_zero, if_false]
          rw [ht] at h hm
          subst h
          refine ⟨⟨by dsimp only; omega, by dsimp only; omega, z3, by dsimp only; omega, by dsimp only; omega, y4, z5, z6, z7, by dsimp only; omega, f7.1⟩, hm, ?_⟩
          rw [said_cons]
          dsimp only
          rw [Int.toNat_natCast]
          have hb : bs = 1 :: bs.drop 1 := by
            cases bs with
            | nil => simp at hh
            | cons x r =>
              have : x = 1 := by simpa [nth] using hh
              rw [this]
              rfl
          rw [hb]
          congr 1
          rw [a1, a2, a3, a4, a5, a6, a7]
        · cases h

/-- The document's Read is the program's. -/
theorem refS_eq {bs : List Int} (hf : Fine bs) : refS bs = readS bs := by
  cases h1 : readS bs with
  | some t =>
    obtain ⟨h2, h3, h4⟩ := readS_form hf h1
    rw [h4]
    exact refS_put t h2 h3
  | none =>
    cases h5 : refS bs with
    | none => rfl
    | some t =>
      obtain ⟨h2, h3, h4⟩ := refS_form hf h5
      have := readS_put t h2 h3 []
      rw [List.append_nil, ← h4, h1] at this
      simp at this
end Go.Proofs.YtaomigfmjglggaaDoor
namespace Go.Proofs.YtaomigfmjglggaaDoor
open Go.RowKit

theorem run_storeVar_n (k : IntKind) (ty : TypeId) (hty : (Tryd.prog.info? ty).map (·.size) = some 1) (w : World) (b o : Nat) (n : Int) (ht : w.there b o 1) : (storeVar ty ⟨b, o, none⟩ (.int k n)).run Tryd.prog w = .ok () (w.setCell ⟨b, o, none⟩ (.int k n)) := by
  have h := run_storeCells_cells (P := Tryd.prog) b o [.int k n] 0 w (fun j hj => by simpa using (ht j (by simpa using hj)).1) (fun j hj => by simpa using (ht j (by simpa using hj)).2) (fun v hv => by simp at hv; rw [hv]; rfl)
  obtain ⟨i, hi, hs⟩ := Option.map_eq_some_iff.1 hty
  simp only [Nat.add_zero] at h
  simp [storeVar, sizeOf, typeInfo, hi, hs, Value.cells, h, World.setCells]
theorem run_storeVar_s (ty : TypeId) (hty : (Tryd.prog.info? ty).map (·.size) = some 1) (w : World) (b o : Nat) (s : ByteArray) (ht : w.there b o 1) : (storeVar ty ⟨b, o, none⟩ (.string s)).run Tryd.prog w = .ok () (w.setCell ⟨b, o, none⟩ (.string s)) := by
  have h := run_storeCells_cells (P := Tryd.prog) b o [.string s] 0 w (fun j hj => by simpa using (ht j (by simpa using hj)).1) (fun j hj => by simpa using (ht j (by simpa using hj)).2) (fun v hv => by simp at hv; rw [hv]; rfl)
  obtain ⟨i, hi, hs⟩ := Option.map_eq_some_iff.1 hty
  simp only [Nat.add_zero] at h
  simp [storeVar, sizeOf, typeInfo, hi, hs, Value.cells, h, World.setCells]
theorem there_one {w : World} {g i : Nat} (hc : (w.cell? ⟨g, i, none⟩).isSome = true) (hf : w.frozen? ⟨g, i, none⟩ = false) : w.there g i 1 := fun j hj => by
  obtain rfl : j = 0 := by omega
  exact ⟨hc, hf⟩
theorem wp_store_n {op : Oper} {a : Act} {w : World} {K : Act → World → Prop} {Q : Exit → Act → World → Prop} (k : IntKind) (ty : TypeId) (hty : (Tryd.prog.info? ty).map (·.size) = some 1) (x y : Operand) (ho : op.op = .store ty x y) (g i : Nat) (hx : a.eval x = .pointer (some ⟨g, i, none⟩)) (n : Int) (hy : a.eval y = .int k n)
    (hc : (w.cell? ⟨g, i, none⟩).isSome = true) (hf : w.frozen? ⟨g, i, none⟩ = false) (h : K (a.put op.dst undef) (w.setCell ⟨g, i, none⟩ (.int k n))) : Oper.wp Tryd.prog op a w K Q := by
  unfold Oper.wp execOp
  simp only [ho, hx, hy, Instr.storeAt, Instr.sureAddr, Sem.run_bind, Sem.run_pure, Result.andThen_ok, run_storeVar_n k ty hty w g i n (there_one hc hf)]
  exact h
theorem wpList_store_n {ops : Array Oper} {rest : List Oper} {op : Oper} {a : Act} {w : World} {Q : Exit → Act → World → Prop} (hgd : op.guard = none) (k : IntKind) (ty : TypeId) (hty : (Tryd.prog.info? ty).map (·.size) = some 1) (x y : Operand) (ho : op.op = .store ty x y) (g i : Nat) (hx : a.eval x = .pointer (some ⟨g, i, none⟩)) (n : Int) (hy : a.eval y = .int k n)
    (hc : (w.cell? ⟨g, i, none⟩).isSome = true) (hf : w.frozen? ⟨g, i, none⟩ = false) (Post : World → Prop) (hp : Post (w.setCell ⟨g, i, none⟩ (.int k n))) (h : ∀ w', Post w' → wpList Tryd.prog ops Q rest (a.put op.dst undef) w') : wpList Tryd.prog ops Q (op :: rest) a w := by
  refine wpList_plain hgd fun K hK => ?_
  exact wp_store_n k ty hty x y ho g i hx n hy hc hf (hK _ _ (h _ hp))
theorem wpList_store_s {ops : Array Oper} {rest : List Oper} {op : Oper} {a : Act} {w : World} {Q : Exit → Act → World → Prop} (hgd : op.guard = none) (ty : TypeId) (hty : (Tryd.prog.info? ty).map (·.size) = some 1) (x y : Operand) (ho : op.op = .store ty x y) (g i : Nat) (hx : a.eval x = .pointer (some ⟨g, i, none⟩)) (s : ByteArray) (hy : a.eval y = .string s)
    (hc : (w.cell? ⟨g, i, none⟩).isSome = true) (hf : w.frozen? ⟨g, i, none⟩ = false) (Post : World → Prop) (hp : Post (w.setCell ⟨g, i, none⟩ (.string s))) (h : ∀ w', Post w' → wpList Tryd.prog ops Q rest (a.put op.dst undef) w') : wpList Tryd.prog ops Q (op :: rest) a w := by
  refine wpList_plain hgd fun K hK => ?_
  unfold Oper.wp execOp
  simp only [ho, hx, hy, Instr.storeAt, Instr.sureAddr, Sem.run_bind, Sem.run_pure, Result.andThen_ok, run_storeVar_s ty hty w g i s (there_one hc hf)]
  exact hK _ _ (h _ hp)

/-- The boxes of the document's Read. -/
structure RR (w : World) (t : Tk) (l : List Int) (W : World) : Prop where
  z : TBox W w.heap.size tk0
  x : TBox W (w.heap.size + 1) t
  l : Blk W (w.heap.size + 2) 70 .u64 l
  b : Below w.heap.size w W
theorem RR.next {w : World} {t : Tk} {l : List Int} {W W' : World} (h : RR w t l W) (hb : Below W.heap.size W W') : RR w t l W' := ⟨h.z.next hb, h.x.next hb, h.l.below hb h.l.lt, h.b.trans (hb.mono h.b.size)⟩
theorem RR.setL {w : World} {t : Tk} {l : List Int} {W : World} (h : RR w t l W) (i : Nat) (n : Int) : RR w t (l.set i n) (W.setCell ⟨w.heap.size + 2, i, none⟩ (.int .u64 n)) :=
  ⟨(heap_setCell_other W ⟨w.heap.size + 2, i, none⟩ w.heap.size _ (by simp)).trans h.z, (heap_setCell_other W ⟨w.heap.size + 2, i, none⟩ (w.heap.size + 1) _ (by simp)).trans h.x, h.l.set i n, h.b.setCell (p := ⟨w.heap.size + 2, i, none⟩) (by simp) _⟩
theorem RR.setT {w : World} {t u : Tk} {l : List Int} {W : World} (h : RR w t l W) (i : Nat) (v : Value) (he : (tkC t).set i v = tkC u) : RR w u l (W.setCell ⟨w.heap.size + 1, i, none⟩ v) :=
  ⟨(heap_setCell_other W ⟨w.heap.size + 1, i, none⟩ w.heap.size _ (by simp)).trans h.z, h.x.setC i v he, h.l.other _ _ (by simp), h.b.setCell (p := ⟨w.heap.size + 1, i, none⟩) (by simp) _⟩
theorem RR.cellL {w : World} {t : Tk} {l : List Int} {W : World} (h : RR w t l W) (hl : l.length = 7) (i : Nat) (hi : i < 7) : (W.cell? ⟨w.heap.size + 2, i, none⟩).isSome = true := by rw [h.l.cell i (by omega)]; rfl
theorem RR.cellT {w : World} {t : Tk} {l : List Int} {W : World} (h : RR w t l W) (ht : t.mac.length = 32) (i : Nat) (hi : i < 40) : (W.cell? ⟨w.heap.size + 1, i, none⟩).isSome = true := by
  rw [h.x.cell i, List.getElem?_eq_getElem (by rw [tkC_len ht]; exact hi)]; rfl
theorem le4 (b0 b1 b2 b3 : Nat) (h0 : b0 < 256) (h1 : b1 < 256) (h2 : b2 < 256) (h3 : b3 < 256) :
    bits BinOp.or .u32 (bits BinOp.or .u32 (bits BinOp.or .u32 ((b0 : Int) % 4294967296) ((b1 : Int) % 4294967296 * 256 % 4294967296)) ((b2 : Int) % 4294967296 * 65536 % 4294967296)) ((b3 : Int) % 4294967296 * 16777216 % 4294967296) = ((b0 + b1 * 256 + b2 * 65536 + b3 * 16777216 : Nat) : Int) := by
  have e1 := u32_or b0 b1 1 (by omega) (by omega) h1
  have e2 := u32_or (b0 + b1 * 256) b2 2 (by omega) (by omega) h2
  have e3 := u32_or (b0 + b1 * 256 + b2 * 65536) b3 3 (by omega) (by omega) h3
  simp only [IntKind.wrap_u32, show (2 : Int) ^ (8 * 1) = 256 from rfl, show (2 : Int) ^ (8 * 2) = 65536 from rfl, show (2 : Int) ^ (8 * 3) = 16777216 from rfl, show 2 ^ (8 * 1) = 256 from rfl, show 2 ^ (8 * 2) = 65536 from rfl, show 2 ^ (8 * 3) = 16777216 from rfl] at e1 e2 e3
  rw [show (b0 : Int) % 4294967296 = b0 by omega, show (b1 : Int) % 4294967296 = b1 by omega, show (b2 : Int) % 4294967296 = b2 by omega, show (b3 : Int) % 4294967296 = b3 by omega, e1, e2, e3]
theorem u32V_drop (bs : List Int) (k : Nat) (b0 b1 b2 b3 : Nat) (h0 : nth bs k = b0) (h1 : nth bs (k + 1) = b1) (h2 : nth bs (k + 2) = b2) (h3 : nth bs (k + 3) = b3) : u32V (bs.drop k) 4 = b0 + b1 * 256 + b2 * 65536 + b3 * 16777216 := by
  have e : ∀ j, nth (bs.drop k) j = nth bs (k + j) := fun j => by simp [nth, List.getD, List.getElem?_drop]
  simp [u32V, e, h0, h1, h2, h3]
theorem refS_first {bs : List Int} (h : bs.length < 1 ∨ nth bs 0 ≠ 1) : refS bs = none := by rw [refS, if_pos h]
theorem refS_end {bs : List Int} {p : List Int × Tk × List Int} (h1 : ¬ (bs.length < 1 ∨ nth bs 0 ≠ 1)) (h7 : runR bs 7 = some p) : refS bs = if p.1.length ≠ 32 then none else if mayT (finT p) = true then some (finT p) else none := by
  rw [refS, if_neg h1, h7]
theorem step_cut {i : Nat} {r : List Int} {t : Tk} {l : List Int} (h : cutUS r = none) : stepR i (r, t, l) = none := by rw [stepR, h]
theorem step_text_no {i : Nat} (hi : i < 2) {r : List Int} {t : Tk} {l : List Int} {y : Nat × List Int} (h : cutUS r = some y) (hn : 20 < y.1 ∨ y.2.length < y.1) : stepR i (r, t, l) = none := by
  unfold stepR
  rw [h]
  dsimp only
  rw [if_pos hi, if_pos hn]
theorem step_text_go {i : Nat} (hi : i < 2) {r : List Int} {t : Tk} {l : List Int} {y : Nat × List Int} (h : cutUS r = some y) (hn : ¬ (20 < y.1 ∨ y.2.length < y.1)) : stepR i (r, t, l) = some (y.2.drop y.1, (if i = 0 then { t with ns := strOfNums (y.2.take y.1) } else { t with sa := strOfNums (y.2.take y.1) }), l.set i (y.1 : Nat)) := by
  unfold stepR
  rw [h]
  dsimp only
  rw [if_pos hi, if_neg hn]
theorem step_host_no {r : List Int} {t : Tk} {l : List Int} {y : Nat × List Int} (h : cutUS r = some y) (hn : y.2.length < 4 ∨ 9 < y.1) : stepR 3 (r, t, l) = none := by
  unfold stepR
  rw [h]
  dsimp only
  rw [if_neg (by omega), if_pos rfl, if_pos hn]
theorem step_host_go {r : List Int} {t : Tk} {l : List Int} {y : Nat × List Int} (h : cutUS r = some y) (hn : ¬ (y.2.length < 4 ∨ 9 < y.1)) : stepR 3 (r, t, l) = some (y.2.drop 4, { t with addr := u32V y.2 4 }, l.set 3 (y.1 : Nat)) := by
  unfold stepR
  rw [h]
  dsimp only
  rw [if_neg (by omega), if_pos rfl, if_neg hn]
theorem step_num_go {i : Nat} (h2 : ¬ i < 2) (h3 : i ≠ 3) {r : List Int} {t : Tk} {l : List Int} {y : Nat × List Int} (h : cutUS r = some y) : stepR i (r, t, l) = some (y.2, t, l.set i (y.1 : Nat)) := by
  unfold stepR
  rw [h]
  dsimp only
  rw [if_neg h2, if_neg h3]
end Go.Proofs.YtaomigfmjglggaaDoor
