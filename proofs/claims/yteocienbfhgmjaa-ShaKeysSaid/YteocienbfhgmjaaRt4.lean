/- The document's root of layer 1: its contract. -/
import Derived.Test.YteocienbfhgmjaaRt3
namespace Go.Proofs.Yteocienbfhgmjaa
open Go.RowKit

theorem rootN_some (p power : Nat) : ∀ (n : Nat) (r : Nat), rootN p power n = some r → ∀ i, i ≤ n → ∃ o, rootN p power i = some o
  | 0, r, h, i, hi => by obtain rfl : i = 0 := by omega
                         exact ⟨r, h⟩
  | n + 1, r, h, i, hi => by
    rcases Nat.eq_or_lt_of_le hi with rfl | hlt
    · exact ⟨r, h⟩
    · rw [rootN] at h
      cases h1 : rootN p power n with
      | none => rw [h1] at h; cases h
      | some o => exact rootN_some p power n o h1 i (by omega)

theorem rootN_step {p power s x r : Nat} (h : rootN p power s = some x) (h1 : rootN p power (s + 1) = some r) : ∃ l, powN (x ||| 2 ^ (39 - s)) (power - 1) = some l ∧
    r = bif aboveN l (wantN (ln l) p (2 * power) 4) (ln l + 2 * power + 4) then x else (x ||| 2 ^ (39 - s)) := by
  rw [rootN, h] at h1
  simp only [Option.bind_some] at h1
  cases h2 : powN (x ||| 2 ^ (39 - s)) (power - 1) with
  | none => rw [h2] at h1; cases h1
  | some l =>
    rw [h2] at h1
    simp only [Option.bind_some] at h1
    refine ⟨l, rfl, ?_⟩
    cases h3 : aboveN l (wantN (ln l) p (2 * power) 4) (ln l + 2 * power + 4) with
    | true => rw [h3] at h1; simpa using h1.symm
    | false => rw [h3] at h1; simpa using h1.symm

theorem rootN_lt {p power : Nat} : ∀ {s x : Nat}, s ≤ 40 → rootN p power s = some x → x < 1099511627776
  | 0, x, _, h => by rw [rootN] at h; injection h with h; omega
  | s + 1, r, hs, h => by
    obtain ⟨x, hx⟩ := rootN_some p power (s + 1) r h s (by omega)
    have hlt := rootN_lt (by omega) hx
    obtain ⟨l, _, hr⟩ := rootN_step hx h
    have hor : x ||| 2 ^ (39 - s) < 2 ^ 40 := Nat.or_lt_two_pow hlt (Nat.pow_lt_pow_right (by omega) (by omega))
    rw [hr]
    cases aboveN l (wantN (ln l) p (2 * power) 4) (ln l + 2 * power + 4) with
    | true => exact hlt
    | false => exact hor

theorem powN_some (y : Nat) : ∀ (n : Nat) (r : List Nat), powN y n = some r → ∀ i, i ≤ n → ∃ o, powN y i = some o
  | 0, r, h, i, hi => by obtain rfl : i = 0 := by omega
                         exact ⟨r, h⟩
  | n + 1, r, h, i, hi => by
    rcases Nat.eq_or_lt_of_le hi with rfl | hlt
    · exact ⟨r, h⟩
    · rw [powN] at h
      cases h1 : powN y n with
      | none => rw [h1] at h; cases h
      | some o => exact powN_some y n o h1 i (by omega)
theorem powN_step {y i : Nat} {l r : List Nat} (h : powN y i = some l) (h1 : powN y (i + 1) = some r) : timesN l (limbsN y) = some r := by
  rw [powN, h] at h1
  exact h1

theorem gt_limbs (n i : Nat) : gt (limbsN n) i < 4294967296 := by
  unfold limbsN
  match i with
  | 0 => simp only [gt]; omega
  | 1 => simp only [gt]; omega
  | 2 => simp only [gt]; omega
  | 3 => simp only [gt]; omega
  | k + 4 => simp only [gt]; omega

theorem gt_st (l : List Nat) (i v : Nat) (hv : v < 65536) (h : ∀ j, gt l j < 65536) : ∀ j, gt (st l i v) j < 65536 := by
  induction l generalizing i with
  | nil => intro j; simp [st, gt]
  | cons a l ih =>
    cases i with
    | zero =>
      intro j
      cases j with
      | zero => exact hv
      | succ j => exact h (j + 1)
    | succ i =>
      intro j
      cases j with
      | zero => exact h 0
      | succ j => exact ih i (fun j => h (j + 1)) j

theorem rowN_small (x : Nat) (b : List Nat) (i : Nat) : ∀ (f k c : Nat) (out r : List Nat), rowN x b i f k c out = some r → (∀ j, gt out j < 65536) → ∀ j, gt r j < 65536
  | 0, _, _, _, _, h, _ => by simp [rowN] at h
  | f + 1, k, c, out, r, h, ho => by
    by_cases ht : k < b.length ∨ 0 < c
    · obtain ⟨f', hf, _, _, h'⟩ := rowN_go h ht
      obtain rfl : f = f' := by omega
      exact rowN_small x b i f _ _ _ r h' (gt_st _ _ _ (by omega) ho)
    · rw [← rowN_end h (fun h => ht (.inl h)) (fun h => ht (.inr h))]
      exact ho

theorem gt_zeros (n : Nat) : ∀ j, gt (List.replicate n 0) j < 65536 := by
  induction n with
  | zero => intro j; simp [gt]
  | succ n ih =>
    intro j
    rw [List.replicate_succ]
    cases j with
    | zero => simp [gt]
    | succ j => exact ih j

theorem rowsN_small (a b : List Nat) : ∀ (i : Nat) (o : List Nat), rowsN a b i = some o → ∀ j, gt o j < 65536
  | 0, o, h => by
    rw [rowsN] at h
    injection h with h
    rw [← h]
    exact gt_zeros _
  | i + 1, o, h => by
    rw [rowsN] at h
    cases h1 : rowsN a b i with
    | none => rw [h1] at h; cases h
    | some p =>
      rw [h1] at h
      exact rowN_small _ _ _ _ _ _ _ _ h (rowsN_small a b i p h1)

theorem powN_fit (y : Nat) : ∀ (i : Nat) (l : List Nat), powN y i = some l → l.length = 4 + 5 * i ∧ ∀ j, gt l j < 4294967296
  | 0, l, h => by
    rw [powN] at h
    injection h with h
    rw [← h]
    exact ⟨rfl, gt_limbs y⟩
  | i + 1, l, h => by
    obtain ⟨o, ho⟩ := powN_some y (i + 1) l h i (by omega)
    have ht := powN_step ho h
    obtain ⟨h1, _⟩ := powN_fit y i o ho
    have h2 := rowsN_length _ _ _ _ ht
    have h3 := rowsN_small _ _ _ _ ht
    refine ⟨by rw [h2, h1]; simp [limbsN]; omega, fun j => by have := h3 j; omega⟩

theorem or_bit (x k : Nat) (hx : x < 1099511627776) (hk : k ≤ 39) : bits BinOp.or IntKind.u64 (x : Int) (IntKind.u64.wrap (2 ^ k)) = ((x ||| 2 ^ k : Nat) : Int) := by
  have h : 2 ^ k < 2 ^ 40 := Nat.pow_lt_pow_right (by omega) (by omega)
  have e : ((2 : Int) ^ k) = ((2 ^ k : Nat) : Int) := by simp
  rw [e]
  generalize 2 ^ k = q at h ⊢
  rw [show IntKind.u64.wrap ((q : Nat) : Int) = ((q : Nat) : Int) by rw [IntKind.wrap_u64]; omega]
  exact u64_or_nat x q (by omega) (by omega)

set_option maxRecDepth 100000 in
set_option maxHeartbeats 1000000 in
theorem root_ref (p power r : Nat) (w : World) (hp : p ≤ 1000) (h1 : 1 ≤ power) (h3 : power ≤ 3) (hr : rootN p power 40 = some r) :
    Calls Try.prog 45 #[.int .u64 p, .int .i64 power] w (fun e w' => e = .returned (.int .u64 r) ∧ Below w.heap.size w w') := by
  have HR := hide hr
  clear hr
  go_enter Try.func45, Try.ntmps45
  go_wp2_with fail
  go_loopw [5, 6] (fun x b wr => ∃ (s k x' : Nat), k + s = 40 ∧ b = .int .i64 ((k : Int) - 1) ∧ x = .int .u64 (x' : Int) ∧ rootN p power s = some x' ∧ Below w.heap.size w wr) (fun _ b _ => (intOf b + 1).toNat)
  case atStart => exact ⟨0, 40, 0, rfl, rfl, rfl, rfl, Below.refl _ _⟩
  case round =>
    obtain ⟨s, k, x, hks, rfl, rfl, hs, hB⟩ := hrel
    have HS := hide hs
    have HB := hide hB
    have hxl := rootN_lt (by omega) hs
    clear hs hB
    cases k with
    | zero =>
      obtain rfl : s = 40 := by omega
      have hrx : x = r := by
        have h := HR.out
        rw [HS.out] at h
        injection h
      subst hrx
      have h0 : (((0 : Nat)) : Int) - 1 = -1 := rfl
      rw [h0]
      clear h0
      go_wp2_with fail
      go_ret
      exact ⟨rfl, HB.out⟩
    | succ k =>
      rw [show (((k + 1 : Nat)) : Int) - 1 = (k : Int) by omega]
      obtain ⟨x2, hx2⟩ := rootN_some p power 40 r HR.out (s + 1) (by omega)
      obtain ⟨l, hl, hxe⟩ := rootN_step HS.out hx2
      have hk39 : 39 - s = k := by omega
      rw [hk39] at hl hxe
      have hor := or_bit x k hxl (by omega)
      obtain ⟨y, hy⟩ : ∃ y, y = x ||| 2 ^ k := ⟨_, rfl⟩
      rw [← hy] at hl hxe hor
      have hyl : y < 1099511627776 := by
        have : x ||| 2 ^ k < 2 ^ 40 := Nat.or_lt_two_pow hxl (Nat.pow_lt_pow_right (by omega) (by omega))
        omega
      have HL := hide hl
      have HXE := hide hxe
      have HOR := hide hor
      have HX2 := hide hx2
      clear hl hxe hor hx2 hy
      go_upto_region 6 with (fail)
      rw [HOR.out]
      clear HOR
      generalize IntKind.u64.wrap ((2 : Int) ^ k) = pk
      go_wp2_with fail
      refine (limbs_ref y _ (by omega)).mono ?_
      rintro e w1 ⟨g1, rfl, hg1, hb1, hBX⟩
      have Hb1 := hide hb1
      have HB1 := hide (below_through hBX HB.out)
      clear hb1 hBX hg1 HB
      go_wp2_with fail
      go_loopw [8, 9] (fun v i wr => ∃ (j g : Nat) (li : List Nat), 1 ≤ j ∧ j ≤ power ∧ i = .int .i64 (j : Int) ∧ powN y (j - 1) = some li ∧ v = .slice (some ⟨g, 0, none⟩) li.length li.length ∧ Blk wr g 23 .u32 (ints li) ∧ Below w.heap.size w wr) (fun _ i _ => power - (intOf i).toNat)
      case atStart => exact ⟨1, g1, limbsN y, by omega, h1, rfl, rfl, rfl, Hb1.out, HB1.out⟩
      case round =>
        obtain ⟨j, g, li, hj1, hj2, rfl, hli, rfl, hbg, hB⟩ := hrel
        clear Hb1 HB1
        have HLI := hide hli
        have Hbg := hide hbg
        have HB := hide hB
        clear hli hbg hB
        by_cases hlt : j < power
        · obtain ⟨ln', hn'⟩ := powN_some y (power - 1) l HL.out j (by omega)
          have HN' := hide hn'
          have HT : Hid (timesN li (limbsN y) = some ln') := hide (powN_step HLI.out (by rw [show j - 1 + 1 = j by omega]; exact hn'))
          have HF := hide (powN_fit y (j - 1) li HLI.out)
          clear hn'
          go_wp2_with fail
          refine (limbs_ref y _ (by omega)).mono ?_
          rintro e w2 ⟨g2, rfl, hg2, hb2, hBX⟩
          have Hb2 := hide hb2
          have HB2 := hide (below_through hBX HB.out)
          have Hbg2 := hide (blk_through hBX Hbg.out)
          clear hb2 hBX hg2
          go_wp2_with fail
          refine (times_ref li (limbsN y) ln' _ _ w2 ⟨g, rfl, Hbg2.out⟩ ⟨g2, rfl, Hb2.out⟩ HT.out (by rw [HF.out.1]; omega) (by simp [limbsN]) HF.out.2 (gt_limbs y)).mono ?_
          rintro e w3 ⟨g3, rfl, hg3, hb3, hBX⟩
          have Hb3 := hide hb3
          have HB3 := hide (below_through hBX HB2.out)
          clear hb3 hBX hg3
          go_wp2_with fail
          go_roundw
          case rel => exact ⟨j + 1, g3, ln', by omega, by omega, by go_num, by rw [Nat.add_sub_cancel]; exact HN'.out, rfl, Hb3.out, HB3.out⟩
          case measure => simp [intOf] <;> omega
        · obtain rfl : j = power := by omega
          have hll : li = l := by
            have h := HLI.out
            rw [HL.out] at h
            injection h with h
            exact h.symm
          subst hll
          have hlen := (powN_fit y (j - 1) li HLI.out).1
          have HAB := hide (above_ref li (.slice (some ⟨g, 0, none⟩) li.length li.length) p (2 * j) wr ⟨g, rfl, Hbg.out⟩ (by omega) (by omega) (by rw [hlen]; omega))
          clear hlen
          rw [show (((2 * j : Nat)) : Int) = 2 * (j : Int) by omega] at HAB
          go_wp2_with fail
          refine HAB.out.mono ?_
          rintro e w2 ⟨rfl, hBX⟩
          have HB2 := hide (below_through hBX HB.out)
          clear hBX HAB HB
          obtain ⟨c, hc⟩ : ∃ c, c = aboveN li (wantN (ln li) p (2 * j) 4) (ln li + 2 * j + 4) := ⟨_, rfl⟩
          rw [← hc] at HXE ⊢
          clear hc
          cases c with
          | true =>
            have hxx : x2 = x := HXE.out
            subst hxx
            go_wp2_with fail
            go_roundw
            case rel => exact ⟨s + 1, k, x2, by omega, by go_num, rfl, HX2.out, HB2.out⟩
            case measure => simp [intOf] <;> omega
          | false =>
            have hxx : x2 = y := HXE.out
            subst hxx
            go_wp2_with fail
            go_roundw
            case rel => exact ⟨s + 1, k, x2, by omega, by go_num, rfl, HX2.out, HB2.out⟩
            case measure => simp [intOf] <;> omega
end Go.Proofs.Yteocienbfhgmjaa
