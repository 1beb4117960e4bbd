/- Package code: cutUint. -/
import Derived.Test.YtdlhengfhmkpdaaDoorCdUint
import Derived.Lib.EndianBits
import Derived.BigQuiet
import Derived.Deep.QuietTactic
import Derived.StillTailTactics
namespace Go.Proofs.YtdlhengfhmkpdaaDoor
open Go.RowKit

/-- The number at the front of bytes whose place is the i-th seven of bits, and what is behind it. -/
def cutL : Nat → Nat → List Int → Option (Nat × List Int)
  | 0, _, _ => none
  | _ + 1, _, [] => none
  | n + 1, i, b :: r =>
    if 18446744073709551616 ≤ b.toNat % 128 * 2 ^ (7 * i) ∨ (b = 0 ∧ 0 < i) then none
    else if b < 128 then some (b.toNat % 128 * 2 ^ (7 * i), r)
    else (cutL n (i + 1) r).map fun y => (b.toNat % 128 * 2 ^ (7 * i) + y.1, y.2)
def cutUS (bs : List Int) : Option (Nat × List Int) := cutL 10 0 bs

theorem andNot128 : ∀ a : Fin 256, bits BinOp.andNot IntKind.u8 (a.val : Int) 128 = ((a.val % 128 : Nat) : Int) := by decide +kernel
theorem andNot_b (b : Int) (h : 0 ≤ b ∧ b < 256) : bits BinOp.andNot IntKind.u8 b 128 = ((b.toNat % 128 : Nat) : Int) := by
  have := andNot128 ⟨b.toNat, by omega⟩
  rw [show ((b.toNat : Nat) : Int) = b by omega] at this
  exact this

theorem shift_back (m k : Nat) (hm : m < 128) (hk : k < 10) : (m * 2 ^ (7 * k) % 18446744073709551616 / 2 ^ (7 * k) = m) ↔ m * 2 ^ (7 * k) < 18446744073709551616 := by
  have : k = 0 ∨ k = 1 ∨ k = 2 ∨ k = 3 ∨ k = 4 ∨ k = 5 ∨ k = 6 ∨ k = 7 ∨ k = 8 ∨ k = 9 := by omega
  rcases this with rfl | rfl | rfl | rfl | rfl | rfl | rfl | rfl | rfl | rfl <;> simp <;> omega

theorem or_add (acc m k : Nat) (ha : acc < 2 ^ (7 * k)) (hs : m * 2 ^ (7 * k) < 18446744073709551616) (ha2 : acc < 18446744073709551616) : bits BinOp.or IntKind.u64 (acc : Int) ((m * 2 ^ (7 * k) : Nat) : Int) = ((acc + m * 2 ^ (7 * k) : Nat) : Int) := by
  have h := (bits_nat .u64 64 (by decide) wraps_u64 acc (m * 2 ^ (7 * k)) (by omega) (by omega)).2
  rw [h, Nat.or_comm, Nat.mul_comm, ← Nat.two_pow_add_eq_or_of_lt ha, Nat.add_comm]

theorem acc_more (acc m k : Nat) (hm : m < 128) (ha : acc < 2 ^ (7 * k)) (hs : m * 2 ^ (7 * k) < 18446744073709551616) (hk : k < 10) : acc + m * 2 ^ (7 * k) < 2 ^ (7 * (k + 1)) ∧ acc + m * 2 ^ (7 * k) < 18446744073709551616 := by
  have : k = 0 ∨ k = 1 ∨ k = 2 ∨ k = 3 ∨ k = 4 ∨ k = 5 ∨ k = 6 ∨ k = 7 ∨ k = 8 ∨ k = 9 := by omega
  rcases this with rfl | rfl | rfl | rfl | rfl | rfl | rfl | rfl | rfl | rfl <;> simp at * <;> omega

/-- What cutUint answers. -/
def CutU (W : World) (sv : Value) (bs : List Int) (e : Ending) (w' : World) : Prop :=
  Below W.heap.size W w' ∧ match cutUS bs with
    | none => ∃ f s, e = .returned (.tuple #[f, s, .bool false])
    | some y => ∃ s, e = .returned (.tuple #[.int .u64 (y.1 : Nat), s, .bool true]) ∧ SlAt w' s y.2 ∧ (∀ k, s.ownBlock = some k → sv.ownBlock = some k)

theorem sl_own (ad : Addr) (l m c : Nat) : ∀ k, (sl (some ad) l m c).ownBlock = some k → (Value.slice (some ad) m c).ownBlock = some k := by
  intro k h
  unfold sl at h
  split at h
  · exact h
  · simp only [Option.map_some, Value.ownBlock, addr_block] at h ⊢
    exact h

theorem sl_own' (ad : Addr) (l m c n : Nat) : ∀ k, (sl (some ad) l m c).ownBlock = some k → (Value.slice (some ad) n c).ownBlock = some k := fun k h => sl_own ad l m c k h

set_option maxRecDepth 100000 in
set_option maxHeartbeats 1000000 in
theorem cutUint_any (sv : Value) (bs : List Int) (W : World) (ht : Tab W) (hs : SlAt W sv bs) (hr : ∀ x ∈ bs, 0 ≤ x ∧ x < 256) :
    Calls Tryd.prog 68 #[sv] W (CutU W sv bs) := by
  obtain ⟨ao, cap, rfl⟩ := hs.len
  obtain ⟨_, ⟨t, fr, htab⟩⟩ := ht
  have hal2 : Tryd.prog.arrayLen 124 = 10 := by kernel_rfl
  have c0 := (cell_of_row _ 1 0 _ t fr htab).trans (show _ = some (Value.int .i64 0) from rfl)
  have c1 := (cell_of_row _ 1 1 _ t fr htab).trans (show _ = some (Value.int .i64 7) from rfl)
  have c2 := (cell_of_row _ 1 2 _ t fr htab).trans (show _ = some (Value.int .i64 14) from rfl)
  have c3 := (cell_of_row _ 1 3 _ t fr htab).trans (show _ = some (Value.int .i64 21) from rfl)
  have c4 := (cell_of_row _ 1 4 _ t fr htab).trans (show _ = some (Value.int .i64 28) from rfl)
  have c5 := (cell_of_row _ 1 5 _ t fr htab).trans (show _ = some (Value.int .i64 35) from rfl)
  have c6 := (cell_of_row _ 1 6 _ t fr htab).trans (show _ = some (Value.int .i64 42) from rfl)
  have c7 := (cell_of_row _ 1 7 _ t fr htab).trans (show _ = some (Value.int .i64 49) from rfl)
  have c8 := (cell_of_row _ 1 8 _ t fr htab).trans (show _ = some (Value.int .i64 56) from rfl)
  have c9 := (cell_of_row _ 1 9 _ t fr htab).trans (show _ = some (Value.int .i64 63) from rfl)
  have HS := hide hs
  have HR := hide hr
  clear htab hs hr
  go_enter Tryd.func68, Tryd.ntmps68
  go_wp2_with fail
  go_loopw [2, 11] (fun a i wr => ∃ k acc : Nat, k ≤ 10 ∧ i = .int .i64 k ∧ a = .int .u64 acc ∧ acc < 2 ^ (7 * k) ∧ acc < 18446744073709551616 ∧ k ≤ bs.length ∧ wr = W ∧ Hid (cutUS bs = (cutL (10 - k) k (bs.drop k)).map fun y => (acc + y.1, y.2)))
    (fun a i _ => 10 - (intOf i).toNat)
  case atStart => exact ⟨0, 0, by omega, rfl, rfl, by simp, by omega, by omega, rfl, hide (by simp [cutUS])⟩
  case round =>
    clear c0 c1 c2 c3 c4 c5 c6 c7 c8 c9
    obtain ⟨k, acc, hk, rfl, rfl, ha, ha64, hkl, rfl, hc⟩ := hrel
    by_cases hlt : k < 10
    · have hix := run_index_cells (P := Tryd.prog) 124 3 10 .i64 .i64 Tryd.underlying124 Tryd.underlying3 (by kernel_rfl) places10 rfl k (by omega)
      rw [nth_places10 ⟨k, by omega⟩, arr10] at hix
      by_cases hend : k = bs.length
      · subst hend
        go_wp2_with fail
        (try simp only [Exit.inBlock, Exit.then]); refine bodyPost_ret (results_tmp3 rfl _ _ _) rfl ?_
        refine ⟨Below.refl _ _, ?_⟩
        rw [hc.out, List.drop_eq_nil_of_le (Nat.le_refl _), show 10 - bs.length = (9 - bs.length) + 1 by omega, cutL]
        exact ⟨_, _, rfl⟩
      · have hkb : k < bs.length := by omega
        have hle : bs.length ≤ cap := HS.out.le.1
        obtain ⟨ad, rfl, hsp, hcell⟩ : ∃ ad, ao = some ad ∧ ad.spot = none ∧ wr.cell? (ad.add k) = some (.int .u8 (nth bs k)) := by
          obtain ⟨ao', cap', hv, hn, _, hcc⟩ := HS.out
          injection hv with e1 e2 e3
          subst e1
          cases hao : ao with
          | none => rw [(hn hao).1] at hkb; simp at hkb
          | some ad => exact ⟨ad, rfl, (hcc ad hao k hkb).1, (hcc ad hao k hkb).2.2⟩
        have hb := nth_range HR.out k
        have hne : (k : Int) ≠ (bs.length : Int) := by omega
        obtain ⟨b, hbn⟩ : ∃ b : Nat, nth bs k = b := ⟨(nth bs k).toNat, by omega⟩
        have hb2 : b < 256 := by omega
        have han := andNot_b (nth bs k) hb
        rw [hbn] at hcell han
        have hbd : bs.drop k = (b : Int) :: bs.drop (k + 1) := by
          rw [List.drop_eq_getElem_cons hkb, ← hbn]
          simp [nth, List.getD, hkb]
        obtain ⟨m, hm⟩ : ∃ m : Nat, ((b : Int).toNat % 128) = m := ⟨_, rfl⟩
        rw [hm] at han
        have hm1 : m = b % 128 := by omega
        have hm2 : m < 128 := by omega
        rw [show 10 - k = (9 - k) + 1 by omega, hbd, cutL, hm] at hc
        have hwm : IntKind.u64.wrap (m : Int) = m := IntWalk.u64_in _ (by omega)
        obtain ⟨s, hs⟩ : ∃ s : Nat, m * 2 ^ (7 * k) % 18446744073709551616 = s := ⟨_, rfl⟩
        have hsh : IntKind.u64.wrap ((m : Int) * 2 ^ (7 * k)) = (s : Int) := by
          rw [show (m : Int) * 2 ^ (7 * k) = ((m * 2 ^ (7 * k) : Nat) : Int) by push_cast; rfl, ← hs]
          rw [IntKind.wrap_u64]
          omega
        obtain ⟨d, hd⟩ : ∃ d : Nat, s / 2 ^ (7 * k) = d := ⟨_, rfl⟩
        have hsd : (s : Int) / 2 ^ (7 * k) = (d : Int) := by rw [← hd]; push_cast; rfl
        have hback := shift_back m k hm2 hlt
        rw [hs, hd] at hback
        have HBK := hide hback
        have HM2 := hide hm2
        have HM1 := hide hm1
        have HSV : Hid (m * 2 ^ (7 * k) < 18446744073709551616 → s = m * 2 ^ (7 * k)) := hide (fun h => by rw [← hs, Nat.mod_eq_of_lt h])
        have hbw : b = m ∨ 128 ≤ b := by omega
        have hm0 : b = 0 → m = 0 := by omega
        clear hback hm2 hm1 hm hbn hb hbd hs hd
        by_cases hz : b = 0
        · obtain rfl := hm0 hz
          subst hz
          have hcell0 : wr.cell? (ad.add k) = some (.int .u8 0) := hcell
          have han0 : bits BinOp.andNot IntKind.u8 (0 : Int) 128 = 0 := by decide
          have hw0 : IntKind.u64.wrap 0 = 0 := by decide
          have hd0 : (0 : Int) / 2 ^ (7 * k) = 0 := by simp
          clear hcell han hwm hsh hsd hbw hm0
          by_cases hk0 : k = 0
          · have hc2 : Hid (cutUS bs = some (acc, bs.drop (k + 1))) := hide (by rw [hc.out, if_neg (by omega)]; simp)
            have hcut := run_cut_l (P := Tryd.prog) Tryd.underlying22 size5 (some ad) bs.length cap (k + 1) (by omega)
            rw [show ((k + 1 : Nat) : Int) = (k : Int) + 1 by omega] at hcut
            have HSL := hide (HS.out.cut (lo := k + 1) (m := bs.length - (k + 1)) (by omega))
            have hor : bits BinOp.or IntKind.u64 (acc : Int) 0 = acc := by
              have := or_add acc 0 k ha (by simp) ha64
              simpa using this
            have hkn : ¬ 0 < k := by omega
            clear hc ha hk0
            go_wp2_with fail
            go_quiet (fail)
            go_wp2_with fail
            (try simp only [Exit.inBlock, Exit.then]); refine bodyPost_ret (results_tmp3 rfl _ _ _) rfl ?_
            refine ⟨drewN_below _ _, ?_⟩
            rw [hc2.out]
            refine ⟨_, rfl, ?_, sl_own' _ _ _ _ _⟩
            have := HSL.out.below (drewN_below wr nq)
            rw [List.take_of_length_le (by simp)] at this
            exact this
          · have hk1 : 0 < k := by omega
            have hc2 : Hid (cutUS bs = none) := hide (by rw [hc.out, if_pos (.inr ⟨rfl, hk1⟩)]; rfl)
            clear hc
            go_wp2_with fail
            (try simp only [Exit.inBlock, Exit.then]); refine bodyPost_ret (results_tmp3 rfl _ _ _) rfl ?_
            refine ⟨Below.refl _ _, ?_⟩
            rw [hc2.out]
            exact ⟨_, _, rfl⟩
        · have hbz : (b : Int) ≠ 0 := by omega
          by_cases hw : d = m
          · obtain rfl := hw
            have hnw : d * 2 ^ (7 * k) < 18446744073709551616 := HBK.out.1 rfl
            have hsv : s = d * 2 ^ (7 * k) := by
              exact HSV.out hnw
            have hor : bits BinOp.or IntKind.u64 (acc : Int) (s : Int) = ((acc + s : Nat) : Int) := by rw [hsv]; exact or_add acc d k ha hnw ha64
            have hmore := acc_more acc d k HM2.out ha hnw hlt
            rw [← hsv] at hmore
            by_cases hlast : (b : Int) < 128
            · have hc2 : Hid (cutUS bs = some (acc + s, bs.drop (k + 1))) := hide (by rw [hc.out, if_neg (by omega), if_pos hlast, ← hsv]; rfl)
              have hcut := run_cut_l (P := Tryd.prog) Tryd.underlying22 size5 (some ad) bs.length cap (k + 1) (by omega)
              rw [show ((k + 1 : Nat) : Int) = (k : Int) + 1 by omega] at hcut
              have HSL := hide (HS.out.cut (lo := k + 1) (m := bs.length - (k + 1)) (by omega))
              clear hc ha hsv hnw hmore hbw hm0 hz
              go_wp2_with fail
              go_quiet (fail)
              go_wp2_with fail
              (try simp only [Exit.inBlock, Exit.then]); refine bodyPost_ret (results_tmp3 rfl _ _ _) rfl ?_
              refine ⟨drewN_below _ _, ?_⟩
              rw [hc2.out]
              refine ⟨_, rfl, ?_, sl_own' _ _ _ _ _⟩
              have := HSL.out.below (drewN_below wr nq)
              rw [List.take_of_length_le (by simp)] at this
              exact this
            · have hc2 : Hid (cutUS bs = (cutL (10 - (k + 1)) (k + 1) (bs.drop (k + 1))).map fun y => (acc + s + y.1, y.2)) := hide (by
                rw [hc.out, if_neg (by omega), if_neg hlast, ← hsv, Option.map_map]
                congr 1
                · funext y; simp [Nat.add_assoc]
                · rw [show 10 - (k + 1) = 9 - k by omega])
              have HMO := hide hmore
              have HKL : Hid (k + 1 ≤ bs.length) := hide hkb
              clear hc ha hsv hnw hmore hbw hm0 hz
              go_wp2_with fail
              go_roundw
              case rel => exact ⟨k + 1, acc + s, by omega, by go_num, (by first | trivial | rfl | simp), HMO.out.1, HMO.out.2, HKL.out, (by first | trivial | rfl | simp), hc2⟩
              case measure => simp [intOf]; omega
          · have hdm : (d : Int) ≠ (m : Int) := by omega
            have hwide : 18446744073709551616 ≤ m * 2 ^ (7 * k) := by
              rcases Nat.lt_or_ge (m * 2 ^ (7 * k)) 18446744073709551616 with h | h
              · exact absurd (HBK.out.2 h) hw
              · exact h
            have hc2 : Hid (cutUS bs = none) := hide (by rw [hc.out, if_pos (.inl hwide)]; rfl)
            clear hc hwide hbw hm0 hz
            go_wp2_with fail
            (try simp only [Exit.inBlock, Exit.then]); refine bodyPost_ret (results_tmp3 rfl _ _ _) rfl ?_
            refine ⟨Below.refl _ _, ?_⟩
            rw [hc2.out]
            exact ⟨_, _, rfl⟩
    · obtain rfl : k = 10 := by omega
      have hc2 : Hid (cutUS bs = none) := hide (by rw [hc.out]; simp [cutL])
      go_wp2_with fail
      (try simp only [Exit.inBlock, Exit.then]); refine bodyPost_ret (results_tmp3 rfl _ _ _) rfl ?_
      refine ⟨Below.refl _ _, ?_⟩
      rw [hc2.out]
      exact ⟨_, _, rfl⟩
end Go.Proofs.YtdlhengfhmkpdaaDoor
