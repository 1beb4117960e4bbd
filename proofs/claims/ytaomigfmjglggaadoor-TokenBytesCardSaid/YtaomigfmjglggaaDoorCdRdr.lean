/- Package code: cutUint. Package code: a reader's Err, Fail, Left, End, and take at each of its types. Package code: one byte, and four, cut from the front. Package code: a text cut, and bytes cut. Package code: NewReader, and what a reader is asked for. Package code: objects that own a span of blocks; what reads of a literal. -/
import Derived.Test.YtaomigfmjglggaaDoorCdWr
import Derived.Lib.EndianBits
import Derived.BigQuiet
import Derived.Deep.QuietTactic
import Derived.StillTailTactics
import Derived.Deep.RegionHeld3
import Derived.Deep.MidRow
namespace Go.Proofs.YtaomigfmjglggaaDoor
open Go.RowKit

/-- The number at the front of bytes whose place is the i-th seven of bits, and what is behind it. -/
def cutL : Nat → Nat → List Int → Option (Nat × List Int)
  | 0, _, _ => none
  | _ + 1, _, [] => none
  | n + 1, i, b :: r =>
    if 18446744073709551616 ≤ b.toNat % 128 * 2 ^ (7 * i) ∨ (b = 0 ∧ 0 < i) then none
    else if b < 128 then some (b.toNat % 128 * 2 ^ (7 * i), r)
    else (cutL n (i + 1) r).map fun y => (b.toNat % 128 * 2 ^ (7 * i) + y.1, y.2)
def cutUS (bs : List Int) : Option (Nat × List Int) := cutL 10 0 bs

theorem andNot128 : ∀ a : Fin 256, bits BinOp.andNot IntKind.u8 (a.val : Int) 128 = ((a.val % 128 : Nat) : Int) := by decide +kernel
theorem andNot_b (b : Int) (h : 0 ≤ b ∧ b < 256) : bits BinOp.andNot IntKind.u8 b 128 = ((b.toNat % 128 : Nat) : Int) := by
  have := andNot128 ⟨b.toNat, by omega⟩
  rw [show ((b.toNat : Nat) : Int) = b by omega] at this
  exact this

theorem shift_back (m k : Nat) (hm : m < 128) (hk : k < 10) : (m * 2 ^ (7 * k) % 18446744073709551616 / 2 ^ (7 * k) = m) ↔ m * 2 ^ (7 * k) < 18446744073709551616 := by
  have : k = 0 ∨ k = 1 ∨ k = 2 ∨ k = 3 ∨ k = 4 ∨ k = 5 ∨ k = 6 ∨ k = 7 ∨ k = 8 ∨ k = 9 := by omega
  rcases this with rfl | rfl | rfl | rfl | rfl | rfl | rfl | rfl | rfl | rfl <;> simp <;> omega

theorem or_add (acc m k : Nat) (ha : acc < 2 ^ (7 * k)) (hs : m * 2 ^ (7 * k) < 18446744073709551616) (ha2 : acc < 18446744073709551616) : bits BinOp.or IntKind.u64 (acc : Int) ((m * 2 ^ (7 * k) : Nat) : Int) = ((acc + m * 2 ^ (7 * k) : Nat) : Int) := by
  have h := (bits_nat .u64 64 (by decide) wraps_u64 acc (m * 2 ^ (7 * k)) (by omega) (by omega)).2
  rw [h, Nat.or_comm, Nat.mul_comm, ← Nat.two_pow_add_eq_or_of_lt ha, Nat.add_comm]

theorem acc_more (acc m k : Nat) (hm : m < 128) (ha : acc < 2 ^ (7 * k)) (hs : m * 2 ^ (7 * k) < 18446744073709551616) (hk : k < 10) : acc + m * 2 ^ (7 * k) < 2 ^ (7 * (k + 1)) ∧ acc + m * 2 ^ (7 * k) < 18446744073709551616 := by
  have : k = 0 ∨ k = 1 ∨ k = 2 ∨ k = 3 ∨ k = 4 ∨ k = 5 ∨ k = 6 ∨ k = 7 ∨ k = 8 ∨ k = 9 := by omega
  rcases this with rfl | rfl | rfl | rfl | rfl | rfl | rfl | rfl | rfl | rfl <;> simp at * <;> omega

/-- What cutUint answers. -/
def CutU (W : World) (sv : Value) (bs : List Int) (e : Ending) (w' : World) : Prop :=
  Below W.heap.size W w' ∧ match cutUS bs with
    | none => ∃ f s, e = .returned (.tuple #[f, s, .bool false])
    | some y => ∃ s, e = .returned (.tuple #[.int .u64 (y.1 : Nat), s, .bool true]) ∧ SlAt w' s y.2 ∧ (∀ k, s.ownBlock = some k → sv.ownBlock = some k)

theorem sl_own (ad : Addr) (l m c : Nat) : ∀ k, (sl (some ad) l m c).ownBlock = some k → (Value.slice (some ad) m c).ownBlock = some k := by
  intro k h
  unfold sl at h
  split at h
  · exact h
  · simp only [Option.map_some, Value.ownBlock, addr_block] at h ⊢
    exact h

theorem sl_own' (ad : Addr) (l m c n : Nat) : ∀ k, (sl (some ad) l m c).ownBlock = some k → (Value.slice (some ad) n c).ownBlock = some k := fun k h => sl_own ad l m c k h

set_option maxRecDepth 100000 in
set_option maxHeartbeats 1000000 in
theorem cutUint_any (sv : Value) (bs : List Int) (W : World) (ht : Tab W) (hs : SlAt W sv bs) (hr : ∀ x ∈ bs, 0 ≤ x ∧ x < 256) :
    Calls Tryd.prog 79 #[sv] W (CutU W sv bs) := by
  obtain ⟨ao, cap, rfl⟩ := hs.len
  obtain ⟨_, ⟨t, fr, htab⟩⟩ := ht
  have hal2 : Tryd.prog.arrayLen 133 = 10 := by kernel_rfl
  have c0 := (cell_of_row _ 1 0 _ t fr htab).trans (show _ = some (Value.int .i64 0) from rfl)
  have c1 := (cell_of_row _ 1 1 _ t fr htab).trans (show _ = some (Value.int .i64 7) from rfl)
  have c2 := (cell_of_row _ 1 2 _ t fr htab).trans (show _ = some (Value.int .i64 14) from rfl)
  have c3 := (cell_of_row _ 1 3 _ t fr htab).trans (show _ = some (Value.int .i64 21) from rfl)
  have c4 := (cell_of_row _ 1 4 _ t fr htab).trans (show _ = some (Value.int .i64 28) from rfl)
  have c5 := (cell_of_row _ 1 5 _ t fr htab).trans (show _ = some (Value.int .i64 35) from rfl)
  have c6 := (cell_of_row _ 1 6 _ t fr htab).trans (show _ = some (Value.int .i64 42) from rfl)
  have c7 := (cell_of_row _ 1 7 _ t fr htab).trans (show _ = some (Value.int .i64 49) from rfl)
  have c8 := (cell_of_row _ 1 8 _ t fr htab).trans (show _ = some (Value.int .i64 56) from rfl)
  have c9 := (cell_of_row _ 1 9 _ t fr htab).trans (show _ = some (Value.int .i64 63) from rfl)
  have HS := hide hs
  have HR := hide hr
  clear htab hs hr
  go_enter Tryd.func79, Tryd.ntmps79
  go_wp2_with fail
  go_loopw [2, 11] (fun a i wr => ∃ k acc : Nat, k ≤ 10 ∧ i = .int .i64 k ∧ a = .int .u64 acc ∧ acc < 2 ^ (7 * k) ∧ acc < 18446744073709551616 ∧ k ≤ bs.length ∧ wr = W ∧ Hid (cutUS bs = (cutL (10 - k) k (bs.drop k)).map fun y => (acc + y.1, y.2)))
    (fun a i _ => 10 - (intOf i).toNat)
  case atStart => exact ⟨0, 0, by omega, rfl, rfl, by simp, by omega, by omega, rfl, hide (by simp [cutUS])⟩
  case round =>
    clear c0 c1 c2 c3 c4 c5 c6 c7 c8 c9
    obtain ⟨k, acc, hk, rfl, rfl, ha, ha64, hkl, rfl, hc⟩ := hrel
    by_cases hlt : k < 10
    · have hix := run_index_cells (P := Tryd.prog) 133 3 10 .i64 .i64 Tryd.underlying133 Tryd.underlying3 (by kernel_rfl) places10 rfl k (by omega)
      rw [nth_places10 ⟨k, by omega⟩, arr10] at hix
      by_cases hend : k = bs.length
      · subst hend
        go_wp2_with fail
        (try simp only [Exit.inBlock, Exit.then]); refine bodyPost_ret (results_tmp3 rfl _ _ _) rfl ?_
        refine ⟨Below.refl _ _, ?_⟩
        rw [hc.out, List.drop_eq_nil_of_le (Nat.le_refl _), show 10 - bs.length = (9 - bs.length) + 1 by omega, cutL]
        exact ⟨_, _, rfl⟩
      · have hkb : k < bs.length := by omega
        have hle : bs.length ≤ cap := HS.out.le.1
        obtain ⟨ad, rfl, hsp, hcell⟩ : ∃ ad, ao = some ad ∧ ad.spot = none ∧ wr.cell? (ad.add k) = some (.int .u8 (nth bs k)) := by
          obtain ⟨ao', cap', hv, hn, _, hcc⟩ := HS.out
          injection hv with e1 e2 e3
          subst e1
          cases hao : ao with
          | none => rw [(hn hao).1] at hkb; simp at hkb
          | some ad => exact ⟨ad, rfl, (hcc ad hao k hkb).1, (hcc ad hao k hkb).2.2⟩
        have hb := nth_range HR.out k
        have hne : (k : Int) ≠ (bs.length : Int) := by omega
        obtain ⟨b, hbn⟩ : ∃ b : Nat, nth bs k = b := ⟨(nth bs k).toNat, by omega⟩
        have hb2 : b < 256 := by omega
        have han := andNot_b (nth bs k) hb
        rw [hbn] at hcell han
        have hbd : bs.drop k = (b : Int) :: bs.drop (k + 1) := by
          rw [List.drop_eq_getElem_cons hkb, ← hbn]
          simp [nth, List.getD, hkb]
        obtain ⟨m, hm⟩ : ∃ m : Nat, ((b : Int).toNat % 128) = m := ⟨_, rfl⟩
        rw [hm] at han
        have hm1 : m = b % 128 := by omega
        have hm2 : m < 128 := by omega
        rw [show 10 - k = (9 - k) + 1 by omega, hbd, cutL, hm] at hc
        have hwm : IntKind.u64.wrap (m : Int) = m := IntWalk.u64_in _ (by omega)
        obtain ⟨s, hs⟩ : ∃ s : Nat, m * 2 ^ (7 * k) % 18446744073709551616 = s := ⟨_, rfl⟩
        have hsh : IntKind.u64.wrap ((m : Int) * 2 ^ (7 * k)) = (s : Int) := by
          rw [show (m : Int) * 2 ^ (7 * k) = ((m * 2 ^ (7 * k) : Nat) : Int) by push_cast; rfl, ← hs]
          rw [IntKind.wrap_u64]
          omega
        obtain ⟨d, hd⟩ : ∃ d : Nat, s / 2 ^ (7 * k) = d := ⟨_, rfl⟩
        have hsd : (s : Int) / 2 ^ (7 * k) = (d : Int) := by rw [← hd]; push_cast; rfl
        have hback := shift_back m k hm2 hlt
        rw [hs, hd] at hback
        have HBK := hide hback
        have HM2 := hide hm2
        have HM1 := hide hm1
        have HSV : Hid (m * 2 ^ (7 * k) < 18446744073709551616 → s = m * 2 ^ (7 * k)) := hide (fun h => by rw [← hs, Nat.mod_eq_of_lt h])
        have hbw : b = m ∨ 128 ≤ b := by omega
        have hm0 : b = 0 → m = 0 := by omega
        clear hback hm2 hm1 hm hbn hb hbd hs hd
        by_cases hz : b = 0
        · obtain rfl := hm0 hz
          subst hz
          have hcell0 : wr.cell? (ad.add k) = some (.int .u8 0) := hcell
          have han0 : bits BinOp.andNot IntKind.u8 (0 : Int) 128 = 0 := by decide
          have hw0 : IntKind.u64.wrap 0 = 0 := by decide
          have hd0 : (0 : Int) / 2 ^ (7 * k) = 0 := by simp
          clear hcell han hwm hsh hsd hbw hm0
          by_cases hk0 : k = 0
          · have hc2 : Hid (cutUS bs = some (acc, bs.drop (k + 1))) := hide (by rw [hc.out, if_neg (by omega)]; simp)
            have hcut := run_cut_l (P := Tryd.prog) Tryd.underlying22 size5 (some ad) bs.length cap (k + 1) (by omega)
            rw [show ((k + 1 : Nat) : Int) = (k : Int) + 1 by omega] at hcut
            have HSL := hide (HS.out.cut (lo := k + 1) (m := bs.length - (k + 1)) (by omega))
            have hor : bits BinOp.or IntKind.u64 (acc : Int) 0 = acc := by
              have := or_add acc 0 k ha (by simp) ha64
              simpa using this
            have hkn : ¬ 0 < k := by omega
            clear hc ha hk0
            go_wp2_with fail
            go_quiet (fail)
            go_wp2_with fail
            (try simp only [Exit.inBlock, Exit.then]); refine bodyPost_ret (results_tmp3 rfl _ _ _) rfl ?_
            refine ⟨drewN_below _ _, ?_⟩
            rw [hc2.out]
            refine ⟨_, rfl, ?_, sl_own' _ _ _ _ _⟩
            have := HSL.out.below (drewN_below wr nq)
            rw [List.take_of_length_le (by simp)] at this
            exact this
          · have hk1 : 0 < k := by omega
            have hc2 : Hid (cutUS bs = none) := hide (by rw [hc.out, if_pos (.inr ⟨rfl, hk1⟩)]; rfl)
            clear hc
            go_wp2_with fail
            (try simp only [Exit.inBlock, Exit.then]); refine bodyPost_ret (results_tmp3 rfl _ _ _) rfl ?_
            refine ⟨Below.refl _ _, ?_⟩
            rw [hc2.out]
            exact ⟨_, _, rfl⟩
        · have hbz : (b : Int) ≠ 0 := by omega
          by_cases hw : d = m
          · obtain rfl := hw
            have hnw : d * 2 ^ (7 * k) < 18446744073709551616 := HBK.out.1 rfl
            have hsv : s = d * 2 ^ (7 * k) := by
              exact HSV.out hnw
            have hor : bits BinOp.or IntKind.u64 (acc : Int) (s : Int) = ((acc + s : Nat) : Int) := by rw [hsv]; exact or_add acc d k ha hnw ha64
            have hmore := acc_more acc d k HM2.out ha hnw hlt
            rw [← hsv] at hmore
            by_cases hlast : (b : Int) < 128
            · have hc2 : Hid (cutUS bs = some (acc + s, bs.drop (k + 1))) := hide (by rw [hc.out, if_neg (by omega), if_pos hlast, ← hsv]; rfl)
              have hcut := run_cut_l (P := Tryd.prog) Tryd.underlying22 size5 (some ad) bs.length cap (k + 1) (by omega)
              rw [show ((k + 1 : Nat) : Int) = (k : Int) + 1 by omega] at hcut
              have HSL := hide (HS.out.cut (lo := k + 1) (m := bs.length - (k + 1)) (by omega))
              clear hc ha hsv hnw hmore hbw hm0 hz
              go_wp2_with fail
              go_quiet (fail)
              go_wp2_with fail
              (try simp only [Exit.inBlock, Exit.then]); refine bodyPost_ret (results_tmp3 rfl _ _ _) rfl ?_
              refine ⟨drewN_below _ _, ?_⟩
              rw [hc2.out]
              refine ⟨_, rfl, ?_, sl_own' _ _ _ _ _⟩
              have := HSL.out.below (drewN_below wr nq)
              rw [List.take_of_length_le (by simp)] at this
              exact this
            · have hc2 : Hid (cutUS bs = (cutL (10 - (k + 1)) (k + 1) (bs.drop (k + 1))).map fun y => (acc + s + y.1, y.2)) := hide (by
                rw [hc.out, if_neg (by omega), if_neg hlast, ← hsv, Option.map_map]
                congr 1
                · funext y; simp [Nat.add_assoc]
                · rw [show 10 - (k + 1) = 9 - k by omega])
              have HMO := hide hmore
              have HKL : Hid (k + 1 ≤ bs.length) := hide hkb
              clear hc ha hsv hnw hmore hbw hm0 hz
              go_wp2_with fail
              go_roundw
              case rel => exact ⟨k + 1, acc + s, by omega, by go_num, (by first | trivial | rfl | simp), HMO.out.1, HMO.out.2, HKL.out, (by first | trivial | rfl | simp), hc2⟩
              case measure => simp [intOf]; omega
          · have hdm : (d : Int) ≠ (m : Int) := by omega
            have hwide : 18446744073709551616 ≤ m * 2 ^ (7 * k) := by
              rcases Nat.lt_or_ge (m * 2 ^ (7 * k)) 18446744073709551616 with h | h
              · exact absurd (HBK.out.2 h) hw
              · exact h
            have hc2 : Hid (cutUS bs = none) := hide (by rw [hc.out, if_pos (.inl hwide)]; rfl)
            clear hc hwide hbw hm0 hz
            go_wp2_with fail
            (try simp only [Exit.inBlock, Exit.then]); refine bodyPost_ret (results_tmp3 rfl _ _ _) rfl ?_
            refine ⟨Below.refl _ _, ?_⟩
            rw [hc2.out]
            exact ⟨_, _, rfl⟩
    · obtain rfl : k = 10 := by omega
      have hc2 : Hid (cutUS bs = none) := hide (by rw [hc.out]; simp [cutL])
      go_wp2_with fail
      (try simp only [Exit.inBlock, Exit.then]); refine bodyPost_ret (results_tmp3 rfl _ _ _) rfl ?_
      refine ⟨Below.refl _ _, ?_⟩
      rw [hc2.out]
      exact ⟨_, _, rfl⟩
end Go.Proofs.YtaomigfmjglggaaDoor
namespace Go.Proofs.YtaomigfmjglggaaDoor
open Go.RowKit

theorem Rd.cells {W : World} {B g : Nat} {F : Nat → Prop} {bs : List Int} {st : Bool} (h : Rd W B F g bs st) : ∃ ao cap, W.heap[g]? = some (.cells #[.slice ao bs.length cap, .bool st] 90 (0, 0)) ∧ SlAt W (.slice ao bs.length cap) bs ∧ (∀ k, (Value.slice ao bs.length cap).ownBlock = some k → F k ∧ k ≠ g) ∧
    W.cell? ⟨g, 0, none⟩ = some (.slice ao bs.length cap) ∧ W.cell? ⟨g, 1, none⟩ = some (.bool st) ∧ W.frozen? ⟨g, 0, none⟩ = false ∧ W.frozen? ⟨g, 1, none⟩ = false := by
  obtain ⟨v, hg, hs, hv⟩ := h.shape
  obtain ⟨ao, cap, rfl⟩ := hs.len
  exact ⟨ao, cap, hg, hs, hv, (cell_of_row W g 0 _ _ _ hg).trans rfl, (cell_of_row W g 1 _ _ _ hg).trans rfl, frozen_of_row W g 0 _ _ hg, frozen_of_row W g 1 _ _ hg⟩

def errOf (st : Bool) : Int := if st then 2 else 0

set_option maxRecDepth 100000 in
theorem err_nil (W : World) : Calls Tryd.prog 68 #[.pointer none] W (fun e w' => e = .returned (.int .i64 2) ∧ w' = W) := by
  go_enter Tryd.func68, Tryd.ntmps68
  go_wp2_with fail
  go_ret
  exact ⟨rfl, rfl⟩

set_option maxRecDepth 100000 in
theorem err_any (W : World) (B : Nat) (F : Nat → Prop) (g : Nat) (bs : List Int) (st : Bool) (h : Rd W B F g bs st) :
    Calls Tryd.prog 68 #[.pointer (some ⟨g, 0, none⟩)] W (fun e w' => e = .returned (.int .i64 (errOf st)) ∧ w' = W) := by
  obtain ⟨ao, cap, hg, hs, hv, c0, c1, f0, f1⟩ := h.cells
  clear h hg hs hv
  cases st <;>
  · go_enter Tryd.func68, Tryd.ntmps68
    go_wp2_with fail
    go_ret
    exact ⟨rfl, rfl⟩

set_option maxRecDepth 100000 in
theorem left_nil (W : World) : Calls Tryd.prog 66 #[.pointer none] W (fun e w' => e = .returned (.int .i64 0) ∧ w' = W) := by
  go_enter Tryd.func66, Tryd.ntmps66
  go_wp2_with fail
  go_ret
  exact ⟨rfl, rfl⟩

set_option maxRecDepth 100000 in
theorem left_any (W : World) (B : Nat) (F : Nat → Prop) (g : Nat) (bs : List Int) (st : Bool) (h : Rd W B F g bs st) :
    Calls Tryd.prog 66 #[.pointer (some ⟨g, 0, none⟩)] W (fun e w' => e = .returned (.int .i64 bs.length) ∧ w' = W) := by
  obtain ⟨ao, cap, hg, hs, hv, c0, c1, f0, f1⟩ := h.cells
  clear h hg hs hv
  go_enter Tryd.func66, Tryd.ntmps66
  go_wp2_with fail
  go_ret
  exact ⟨rfl, rfl⟩

set_option maxRecDepth 100000 in
theorem fail_nil (W : World) : Calls Tryd.prog 67 #[.pointer none] W (fun e w' => e = .returned (.tuple #[]) ∧ w' = W) := by
  go_enter Tryd.func67, Tryd.ntmps67
  go_wp2_with fail
  first | go_end0 | refine bodyPost_ret (results_none rfl _ _ _) rfl ?_
  exact ⟨rfl, rfl⟩

theorem Rd.stop {W : World} {B g : Nat} {F : Nat → Prop} {bs : List Int} {st : Bool} (h : Rd W B F g bs st) : Rd (W.setCell ⟨g, 1, none⟩ (.bool true)) B F g bs true ∧ Keep F W (W.setCell ⟨g, 1, none⟩ (.bool true)) := by
  have hk : Keep (fun k => k = g) W (W.setCell ⟨g, 1, none⟩ (.bool true)) := Keep.set _ _ _ rfl
  obtain ⟨v, hg, hs, hv⟩ := h.shape
  refine ⟨⟨h.own, fun k hk => by simpa using h.ge k hk, v, ?_, hs.keep hk (fun k e => (hv k e).2), hv⟩, hk.mono (fun x e => .inl (e ▸ h.own))⟩
  rw [heap_setCell_same _ g 1 _ _ _ hg]
  rfl

theorem Rd.took {W : World} {B g : Nat} {F : Nat → Prop} {bs rest : List Int} {st : Bool} {sv : Value} (h : Rd W B F g bs st) (hs : SlAt W sv rest) (ho : ∀ k, sv.ownBlock = some k → F k ∧ k ≠ g) : Rd (W.setCell ⟨g, 0, none⟩ sv) B F g rest st ∧ Keep F W (W.setCell ⟨g, 0, none⟩ sv) := by
  have hk : Keep (fun k => k = g) W (W.setCell ⟨g, 0, none⟩ sv) := Keep.set _ _ _ rfl
  obtain ⟨v, hg, _, _⟩ := h.shape
  refine ⟨⟨h.own, fun k hk => by simpa using h.ge k hk, sv, ?_, hs.keep hk (fun k e => (ho k e).2), ho⟩, hk.mono (fun x e => .inl (e ▸ h.own))⟩
  rw [heap_setCell_same _ g 0 _ _ _ hg]
  rfl

set_option maxRecDepth 100000 in
theorem fail_any (W : World) (B : Nat) (F : Nat → Prop) (g : Nat) (bs : List Int) (st : Bool) (h : Rd W B F g bs st) :
    Calls Tryd.prog 67 #[.pointer (some ⟨g, 0, none⟩)] W (fun e w' => e = .returned (.tuple #[]) ∧ Keep F W w' ∧ Rd w' B F g bs true) := by
  obtain ⟨ao, cap, hg, hs, hv, c0, c1, f0, f1⟩ := h.cells
  have HH := hide h
  clear h hg hs hv
  go_enter Tryd.func67, Tryd.ntmps67
  go_wp2_with fail
  first | go_end0 | refine bodyPost_ret (results_none rfl _ _ _) rfl ?_
  exact ⟨rfl, HH.out.stop.2, HH.out.stop.1⟩

set_option maxRecDepth 100000 in
theorem end_nil (W : World) : Calls Tryd.prog 42 #[.pointer none] W (fun e w' => e = .returned (.int .i64 2) ∧ w' = W) := by
  go_enter Tryd.func42, Tryd.ntmps42
  go_wp2_with fail
  refine (left_nil _).mono ?_
  rintro e w1 ⟨rfl, rfl⟩
  go_wp2_with fail
  refine (err_nil _).mono ?_
  rintro e w2 ⟨rfl, rfl⟩
  go_wp2_with fail
  go_ret
  exact ⟨rfl, rfl⟩

set_option maxRecDepth 100000 in
theorem endr_any (W : World) (B : Nat) (F : Nat → Prop) (g : Nat) (bs : List Int) (st : Bool) (h : Rd W B F g bs st) :
    Calls Tryd.prog 42 #[.pointer (some ⟨g, 0, none⟩)] W (fun e w' => e = .returned (.int .i64 (errOf (st || !bs.isEmpty))) ∧ Keep F W w' ∧ Rd w' B F g bs (st || !bs.isEmpty)) := by
  have HH := hide h
  clear h
  go_enter Tryd.func42, Tryd.ntmps42
  go_wp2_with fail
  refine (left_any _ B F g bs st HH.out).mono ?_
  rintro e w1 ⟨rfl, rfl⟩
  cases bs with
  | nil =>
    go_wp2_with fail
    refine (err_any _ B F g _ st HH.out).mono ?_
    rintro e w2 ⟨rfl, rfl⟩
    go_wp2_with fail
    go_ret
    exact ⟨by simp, Keep.refl _ _, by simpa using HH.out⟩
  | cons x bs =>
    have hl : 0 < ((x :: bs).length : Int) := by simp
    go_wp2_with fail
    refine (fail_any _ B F g _ st HH.out).mono ?_
    rintro e w2 ⟨rfl, hk, hr⟩
    have HK := hide hk
    have HR := hide hr
    clear hk hr
    go_wp2_with fail
    refine (err_any _ B F g _ true HR.out).mono ?_
    rintro e w3 ⟨rfl, rfl⟩
    go_wp2_with fail
    go_ret
    exact ⟨by simp, HK.out, by simpa using HR.out⟩

/-- Behind what cuts a field from the front of bytes. -/
def CutPost (W : World) (sv : Value) (P : Value → World → Prop) (r : Option (List Int)) (e : Ending) (w' : World) : Prop :=
  Below W.heap.size W w' ∧ match r with
    | none => ∃ f s, e = .returned (.tuple #[f, s, .bool false])
    | some rest => ∃ f s, e = .returned (.tuple #[f, s, .bool true]) ∧ P f w' ∧ SlAt w' s rest ∧ (∀ k, s.ownBlock = some k → sv.ownBlock = some k)

/-- Behind a field that a reader was asked for. -/
def RdPost (W : World) (B : Nat) (F : Nat → Prop) (g : Nat) (bs : List Int) (z : Value) (P : Value → World → Prop) (r : Option (List Int)) (e : Ending) (w' : World) : Prop :=
  Keep F W w' ∧ match r with
    | none => e = .returned z ∧ Rd w' B F g bs true
    | some rest => ∃ f, e = .returned f ∧ P f w' ∧ Rd w' B F g rest false

theorem rdPost_some {W w1 : World} {B g : Nat} {F : Nat → Prop} {bs rest : List Int} {P : Value → World → Prop} {sv s f z : Value} (h : Rd W B F g bs false) (hb : Below W.heap.size W w1) (hsv : ∀ k, sv.ownBlock = some k → F k ∧ k ≠ g) (hs : SlAt w1 s rest) (ho : ∀ k, s.ownBlock = some k → sv.ownBlock = some k) (hP : P f w1)
    (hst : ∀ f w1 w2, P f w1 → Keep (fun k => k = g) w1 w2 → P f w2) : RdPost W B F g bs z P (some rest) (.returned f) (w1.setCell ⟨g, 0, none⟩ s) := by
  have h1 : Rd w1 B F g bs false := h.keep (Keep.of_below hb : Keep (fun _ => False) W w1) (fun _ _ => id)
  have h2 := h1.took hs (fun k e => hsv k (ho k e))
  exact ⟨(Keep.of_below hb : Keep F W w1).trans h2.2 (fun _ h => .inl h), f, rfl, hst _ _ _ hP (Keep.set _ _ _ rfl), h2.1⟩

set_option maxRecDepth 100000 in
theorem take_u8_nil (cv : Value) (W : World) : Calls Tryd.prog 97 #[.pointer none, cv] W (fun e w' => e = .returned (.int .u8 0) ∧ w' = W) := by
  go_enter Tryd.func97, Tryd.ntmps97
  go_wp2_with fail
  refine (err_nil _).mono ?_
  rintro e w1 ⟨rfl, rfl⟩
  go_wp2_with fail
  go_ret
  exact ⟨rfl, rfl⟩

set_option maxRecDepth 100000 in
theorem take_u8_stop (cv : Value) (W : World) (B : Nat) (F : Nat → Prop) (g : Nat) (bs : List Int) (h : Rd W B F g bs true) : Calls Tryd.prog 97 #[.pointer (some ⟨g, 0, none⟩), cv] W (fun e w' => e = .returned (.int .u8 0) ∧ w' = W) := by
  have HH := hide h
  clear h
  go_enter Tryd.func97, Tryd.ntmps97
  go_wp2_with fail
  refine (err_any _ B F g bs true HH.out).mono ?_
  rintro e w1 ⟨rfl, rfl⟩
  rw [show errOf true = 2 from rfl]
  go_wp2_with fail
  go_ret
  exact ⟨rfl, rfl⟩

set_option maxRecDepth 100000 in
set_option maxHeartbeats 1000000 in
theorem take_u8_go (W : World) (B : Nat) (F : Nat → Prop) (g : Nat) (bs : List Int) (P : Value → World → Prop) (r : Option (List Int)) (h : Rd W B F g bs false) (hst : ∀ f w1 w2, P f w1 → Keep (fun k => k = g) w1 w2 → P f w2)
    (hcut : ∀ sv, SlAt W sv bs → Calls Tryd.prog 98 #[sv] W (CutPost W sv P r)) :
    Calls Tryd.prog 97 #[.pointer (some ⟨g, 0, none⟩), .func (.func 98) #[] #[]] W (RdPost W B F g bs (.int .u8 0) P r) := by
  obtain ⟨ao, cap, hg, hs, hv, c0, c1, f0, f1⟩ := h.cells
  have HC := hide (hcut _ hs)
  have HS := hide hst
  have HV := hide hv
  have HH := hide h
  clear h hcut hst hv hg hs
  go_enter Tryd.func97, Tryd.ntmps97
  go_wp2_with fail
  refine (err_any _ B F g bs false HH.out).mono ?_
  rintro e w1 ⟨rfl, rfl⟩
  rw [show errOf false = 0 from rfl]
  go_wp2_with fail
  refine HC.out.mono ?_
  intro e w2 hp
  obtain ⟨hb, hp⟩ := hp
  have hlt : g < w1.heap.size := (HH.out.ge g HH.out.own).2
  have d0 : w2.cell? ⟨g, 0, none⟩ = some (.slice ao bs.length cap) := (hb.cell (p := ⟨g, 0, none⟩) hlt).trans c0
  have e0 : w2.frozen? ⟨g, 0, none⟩ = false := (hb.frozen (p := ⟨g, 0, none⟩) hlt).trans f0
  have HB := hide hb
  clear hb c0 c1 f0 f1 hlt HC
  cases r with
  | none =>
    obtain ⟨f, s, rfl⟩ := hp
    go_wp2_with fail
    refine (fail_any w2 B F g bs false (HH.out.keep (Keep.of_below HB.out : Keep (fun _ => False) w1 w2) (fun _ _ => id))).mono ?_
    rintro e w3 ⟨rfl, hk, hr⟩
    have HK := hide hk
    have HR := hide hr
    clear hk hr
    go_wp2_with fail
    go_ret
    exact ⟨(Keep.of_below HB.out : Keep F w1 w2).trans HK.out (fun _ h => .inl h), rfl, HR.out⟩
  | some rest =>
    obtain ⟨f, s, rfl, hP, hs, ho⟩ := hp
    have HP := hide hP
    have HSL := hide hs
    have HO := hide ho
    have HLN := hide hs.len
    clear hP hs ho
    obtain ⟨ao', cap', rfl⟩ := HLN.out
    go_wp2_with fail
    go_ret
    exact rdPost_some HH.out HB.out HV.out HSL.out HO.out HP.out HS.out

set_option maxRecDepth 100000 in
theorem take_u32_nil (cv : Value) (W : World) : Calls Tryd.prog 81 #[.pointer none, cv] W (fun e w' => e = .returned (.int .u32 0) ∧ w' = W) := by
  go_enter Tryd.func81, Tryd.ntmps81
  go_wp2_with fail
  refine (err_nil _).mono ?_
  rintro e w1 ⟨rfl, rfl⟩
  go_wp2_with fail
  go_ret
  exact ⟨rfl, rfl⟩

set_option maxRecDepth 100000 in
theorem take_u32_stop (cv : Value) (W : World) (B : Nat) (F : Nat → Prop) (g : Nat) (bs : List Int) (h : Rd W B F g bs true) : Calls Tryd.prog 81 #[.pointer (some ⟨g, 0, none⟩), cv] W (fun e w' => e = .returned (.int .u32 0) ∧ w' = W) := by
  have HH := hide h
  clear h
  go_enter Tryd.func81, Tryd.ntmps81
  go_wp2_with fail
  refine (err_any _ B F g bs true HH.out).mono ?_
  rintro e w1 ⟨rfl, rfl⟩
  rw [show errOf true = 2 from rfl]
  go_wp2_with fail
  go_ret
  exact ⟨rfl, rfl⟩

set_option maxRecDepth 100000 in
set_option maxHeartbeats 1000000 in
theorem take_u32_go (W : World) (B : Nat) (F : Nat → Prop) (g : Nat) (bs : List Int) (P : Value → World → Prop) (r : Option (List Int)) (h : Rd W B F g bs false) (hst : ∀ f w1 w2, P f w1 → Keep (fun k => k = g) w1 w2 → P f w2)
    (hcut : ∀ sv, SlAt W sv bs → Calls Tryd.prog 82 #[sv] W (CutPost W sv P r)) :
    Calls Tryd.prog 81 #[.pointer (some ⟨g, 0, none⟩), .func (.func 82) #[] #[]] W (RdPost W B F g bs (.int .u32 0) P r) := by
  obtain ⟨ao, cap, hg, hs, hv, c0, c1, f0, f1⟩ := h.cells
  have HC := hide (hcut _ hs)
  have HS := hide hst
  have HV := hide hv
  have HH := hide h
  clear h hcut hst hv hg hs
  go_enter Tryd.func81, Tryd.ntmps81
  go_wp2_with fail
  refine (err_any _ B F g bs false HH.out).mono ?_
  rintro e w1 ⟨rfl, rfl⟩
  rw [show errOf false = 0 from rfl]
  go_wp2_with fail
  refine HC.out.mono ?_
  intro e w2 hp
  obtain ⟨hb, hp⟩ := hp
  have hlt : g < w1.heap.size := (HH.out.ge g HH.out.own).2
  have d0 : w2.cell? ⟨g, 0, none⟩ = some (.slice ao bs.length cap) := (hb.cell (p := ⟨g, 0, none⟩) hlt).trans c0
  have e0 : w2.frozen? ⟨g, 0, none⟩ = false := (hb.frozen (p := ⟨g, 0, none⟩) hlt).trans f0
  have HB := hide hb
  clear hb c0 c1 f0 f1 hlt HC
  cases r with
  | none =>
    obtain ⟨f, s, rfl⟩ := hp
    go_wp2_with fail
    refine (fail_any w2 B F g bs false (HH.out.keep (Keep.of_below HB.out : Keep (fun _ => False) w1 w2) (fun _ _ => id))).mono ?_
    rintro e w3 ⟨rfl, hk, hr⟩
    have HK := hide hk
    have HR := hide hr
    clear hk hr
    go_wp2_with fail
    go_ret
    exact ⟨(Keep.of_below HB.out : Keep F w1 w2).trans HK.out (fun _ h => .inl h), rfl, HR.out⟩
  | some rest =>
    obtain ⟨f, s, rfl, hP, hs, ho⟩ := hp
    have HP := hide hP
    have HSL := hide hs
    have HO := hide ho
    have HLN := hide hs.len
    clear hP hs ho
    obtain ⟨ao', cap', rfl⟩ := HLN.out
    go_wp2_with fail
    go_ret
    exact rdPost_some HH.out HB.out HV.out HSL.out HO.out HP.out HS.out

set_option maxRecDepth 100000 in
theorem take_uint_nil (cv : Value) (W : World) : Calls Tryd.prog 80 #[.pointer none, cv] W (fun e w' => e = .returned (.int .u64 0) ∧ w' = W) := by
  go_enter Tryd.func80, Tryd.ntmps80
  go_wp2_with fail
  refine (err_nil _).mono ?_
  rintro e w1 ⟨rfl, rfl⟩
  go_wp2_with fail
  go_ret
  exact ⟨rfl, rfl⟩

set_option maxRecDepth 100000 in
theorem take_uint_stop (cv : Value) (W : World) (B : Nat) (F : Nat → Prop) (g : Nat) (bs : List Int) (h : Rd W B F g bs true) : Calls Tryd.prog 80 #[.pointer (some ⟨g, 0, none⟩), cv] W (fun e w' => e = .returned (.int .u64 0) ∧ w' = W) := by
  have HH := hide h
  clear h
  go_enter Tryd.func80, Tryd.ntmps80
  go_wp2_with fail
  refine (err_any _ B F g bs true HH.out).mono ?_
  rintro e w1 ⟨rfl, rfl⟩
  rw [show errOf true = 2 from rfl]
  go_wp2_with fail
  go_ret
  exact ⟨rfl, rfl⟩

set_option maxRecDepth 100000 in
set_option maxHeartbeats 1000000 in
theorem take_uint_go (W : World) (B : Nat) (F : Nat → Prop) (g : Nat) (bs : List Int) (P : Value → World → Prop) (r : Option (List Int)) (h : Rd W B F g bs false) (hst : ∀ f w1 w2, P f w1 → Keep (fun k => k = g) w1 w2 → P f w2)
    (hcut : ∀ sv, SlAt W sv bs → Calls Tryd.prog 79 #[sv] W (CutPost W sv P r)) :
    Calls Tryd.prog 80 #[.pointer (some ⟨g, 0, none⟩), .func (.func 79) #[] #[]] W (RdPost W B F g bs (.int .u64 0) P r) := by
  obtain ⟨ao, cap, hg, hs, hv, c0, c1, f0, f1⟩ := h.cells
  have HC := hide (hcut _ hs)
  have HS := hide hst
  have HV := hide hv
  have HH := hide h
  clear h hcut hst hv hg hs
  go_enter Tryd.func80, Tryd.ntmps80
  go_wp2_with fail
  refine (err_any _ B F g bs false HH.out).mono ?_
  rintro e w1 ⟨rfl, rfl⟩
  rw [show errOf false = 0 from rfl]
  go_wp2_with fail
  refine HC.out.mono ?_
  intro e w2 hp
  obtain ⟨hb, hp⟩ := hp
  have hlt : g < w1.heap.size := (HH.out.ge g HH.out.own).2
  have d0 : w2.cell? ⟨g, 0, none⟩ = some (.slice ao bs.length cap) := (hb.cell (p := ⟨g, 0, none⟩) hlt).trans c0
  have e0 : w2.frozen? ⟨g, 0, none⟩ = false := (hb.frozen (p := ⟨g, 0, none⟩) hlt).trans f0
  have HB := hide hb
  clear hb c0 c1 f0 f1 hlt HC
  cases r with
  | none =>
    obtain ⟨f, s, rfl⟩ := hp
    go_wp2_with fail
    refine (fail_any w2 B F g bs false (HH.out.keep (Keep.of_below HB.out : Keep (fun _ => False) w1 w2) (fun _ _ => id))).mono ?_
    rintro e w3 ⟨rfl, hk, hr⟩
    have HK := hide hk
    have HR := hide hr
    clear hk hr
    go_wp2_with fail
    go_ret
    exact ⟨(Keep.of_below HB.out : Keep F w1 w2).trans HK.out (fun _ h => .inl h), rfl, HR.out⟩
  | some rest =>
    obtain ⟨f, s, rfl, hP, hs, ho⟩ := hp
    have HP := hide hP
    have HSL := hide hs
    have HO := hide ho
    have HLN := hide hs.len
    clear hP hs ho
    obtain ⟨ao', cap', rfl⟩ := HLN.out
    go_wp2_with fail
    go_ret
    exact rdPost_some HH.out HB.out HV.out HSL.out HO.out HP.out HS.out

set_option maxRecDepth 100000 in
theorem take_text_nil (cv : Value) (W : World) : Calls Tryd.prog 77 #[.pointer none, cv] W (fun e w' => e = .returned (.string ⟨#[]⟩) ∧ w' = W) := by
  go_enter Tryd.func77, Tryd.ntmps77
  go_wp2_with fail
  refine (err_nil _).mono ?_
  rintro e w1 ⟨rfl, rfl⟩
  go_wp2_with fail
  go_ret
  exact ⟨rfl, rfl⟩

set_option maxRecDepth 100000 in
theorem take_text_stop (cv : Value) (W : World) (B : Nat) (F : Nat → Prop) (g : Nat) (bs : List Int) (h : Rd W B F g bs true) : Calls Tryd.prog 77 #[.pointer (some ⟨g, 0, none⟩), cv] W (fun e w' => e = .returned (.string ⟨#[]⟩) ∧ w' = W) := by
  have HH := hide h
  clear h
  go_enter Tryd.func77, Tryd.ntmps77
  go_wp2_with fail
  refine (err_any _ B F g bs true HH.out).mono ?_
  rintro e w1 ⟨rfl, rfl⟩
  rw [show errOf true = 2 from rfl]
  go_wp2_with fail
  go_ret
  exact ⟨rfl, rfl⟩

set_option maxRecDepth 100000 in
set_option maxHeartbeats 1000000 in
theorem take_text_go (cp : Value) (W : World) (B : Nat) (F : Nat → Prop) (g : Nat) (bs : List Int) (P : Value → World → Prop) (r : Option (List Int)) (h : Rd W B F g bs false) (hst : ∀ f w1 w2, P f w1 → Keep (fun k => k = g) w1 w2 → P f w2)
    (hcut : ∀ sv, SlAt W sv bs → Calls Tryd.prog 78 #[sv, cp] W (CutPost W sv P r)) :
    Calls Tryd.prog 77 #[.pointer (some ⟨g, 0, none⟩), .func (.func 78) #[] #[cp]] W (RdPost W B F g bs (.string ⟨#[]⟩) P r) := by
  obtain ⟨ao, cap, hg, hs, hv, c0, c1, f0, f1⟩ := h.cells
  have HC := hide (hcut _ hs)
  have HS := hide hst
  have HV := hide hv
  have HH := hide h
  clear h hcut hst hv hg hs
  go_enter Tryd.func77, Tryd.ntmps77
  go_wp2_with fail
  refine (err_any _ B F g bs false HH.out).mono ?_
  rintro e w1 ⟨rfl, rfl⟩
  rw [show errOf false = 0 from rfl]
  go_wp2_with fail
  refine HC.out.mono ?_
  intro e w2 hp
  obtain ⟨hb, hp⟩ := hp
  have hlt : g < w1.heap.size := (HH.out.ge g HH.out.own).2
  have d0 : w2.cell? ⟨g, 0, none⟩ = some (.slice ao bs.length cap) := (hb.cell (p := ⟨g, 0, none⟩) hlt).trans c0
  have e0 : w2.frozen? ⟨g, 0, none⟩ = false := (hb.frozen (p := ⟨g, 0, none⟩) hlt).trans f0
  have HB := hide hb
  clear hb c0 c1 f0 f1 hlt HC
  cases r with
  | none =>
    obtain ⟨f, s, rfl⟩ := hp
    go_wp2_with fail
    refine (fail_any w2 B F g bs false (HH.out.keep (Keep.of_below HB.out : Keep (fun _ => False) w1 w2) (fun _ _ => id))).mono ?_
    rintro e w3 ⟨rfl, hk, hr⟩
    have HK := hide hk
    have HR := hide hr
    clear hk hr
    go_wp2_with fail
    go_ret
    exact ⟨(Keep.of_below HB.out : Keep F w1 w2).trans HK.out (fun _ h => .inl h), rfl, HR.out⟩
  | some rest =>
    obtain ⟨f, s, rfl, hP, hs, ho⟩ := hp
    have HP := hide hP
    have HSL := hide hs
    have HO := hide ho
    have HLN := hide hs.len
    clear hP hs ho
    obtain ⟨ao', cap', rfl⟩ := HLN.out
    go_wp2_with fail
    go_ret
    exact rdPost_some HH.out HB.out HV.out HSL.out HO.out HP.out HS.out

set_option maxRecDepth 100000 in
theorem take_raw_nil (cv : Value) (W : World) : Calls Tryd.prog 83 #[.pointer none, cv] W (fun e w' => e = .returned (.slice none 0 0) ∧ w' = W) := by
  go_enter Tryd.func83, Tryd.ntmps83
  go_wp2_with fail
  refine (err_nil _).mono ?_
  rintro e w1 ⟨rfl, rfl⟩
  go_wp2_with fail
  go_ret
  exact ⟨rfl, rfl⟩

set_option maxRecDepth 100000 in
theorem take_raw_stop (cv : Value) (W : World) (B : Nat) (F : Nat → Prop) (g : Nat) (bs : List Int) (h : Rd W B F g bs true) : Calls Tryd.prog 83 #[.pointer (some ⟨g, 0, none⟩), cv] W (fun e w' => e = .returned (.slice none 0 0) ∧ w' = W) := by
  have HH := hide h
  clear h
  go_enter Tryd.func83, Tryd.ntmps83
  go_wp2_with fail
  refine (err_any _ B F g bs true HH.out).mono ?_
  rintro e w1 ⟨rfl, rfl⟩
  rw [show errOf true = 2 from rfl]
  go_wp2_with fail
  go_ret
  exact ⟨rfl, rfl⟩

set_option maxRecDepth 100000 in
set_option maxHeartbeats 1000000 in
theorem take_raw_go (cp : Value) (W : World) (B : Nat) (F : Nat → Prop) (g : Nat) (bs : List Int) (P : Value → World → Prop) (r : Option (List Int)) (h : Rd W B F g bs false) (hst : ∀ f w1 w2, P f w1 → Keep (fun k => k = g) w1 w2 → P f w2)
    (hcut : ∀ sv, SlAt W sv bs → Calls Tryd.prog 84 #[sv, cp] W (CutPost W sv P r)) :
    Calls Tryd.prog 83 #[.pointer (some ⟨g, 0, none⟩), .func (.func 84) #[] #[cp]] W (RdPost W B F g bs (.slice none 0 0) P r) := by
  obtain ⟨ao, cap, hg, hs, hv, c0, c1, f0, f1⟩ := h.cells
  have HC := hide (hcut _ hs)
  have HS := hide hst
  have HV := hide hv
  have HH := hide h
  clear h hcut hst hv hg hs
  go_enter Tryd.func83, Tryd.ntmps83
  go_wp2_with fail
  refine (err_any _ B F g bs false HH.out).mono ?_
  rintro e w1 ⟨rfl, rfl⟩
  rw [show errOf false = 0 from rfl]
  go_wp2_with fail
  refine HC.out.mono ?_
  intro e w2 hp
  obtain ⟨hb, hp⟩ := hp
  have hlt : g < w1.heap.size := (HH.out.ge g HH.out.own).2
  have d0 : w2.cell? ⟨g, 0, none⟩ = some (.slice ao bs.length cap) := (hb.cell (p := ⟨g, 0, none⟩) hlt).trans c0
  have e0 : w2.frozen? ⟨g, 0, none⟩ = false := (hb.frozen (p := ⟨g, 0, none⟩) hlt).trans f0
  have HB := hide hb
  clear hb c0 c1 f0 f1 hlt HC
  cases r with
  | none =>
    obtain ⟨f, s, rfl⟩ := hp
    go_wp2_with fail
    refine (fail_any w2 B F g bs false (HH.out.keep (Keep.of_below HB.out : Keep (fun _ => False) w1 w2) (fun _ _ => id))).mono ?_
    rintro e w3 ⟨rfl, hk, hr⟩
    have HK := hide hk
    have HR := hide hr
    clear hk hr
    go_wp2_with fail
    go_ret
    exact ⟨(Keep.of_below HB.out : Keep F w1 w2).trans HK.out (fun _ h => .inl h), rfl, HR.out⟩
  | some rest =>
    obtain ⟨f, s, rfl, hP, hs, ho⟩ := hp
    have HP := hide hP
    have HSL := hide hs
    have HO := hide ho
    have HLN := hide hs.len
    clear hP hs ho
    obtain ⟨ao', cap', rfl⟩ := HLN.out
    go_wp2_with fail
    go_ret
    exact rdPost_some HH.out HB.out HV.out HSL.out HO.out HP.out HS.out
end Go.Proofs.YtaomigfmjglggaaDoor
namespace Go.Proofs.YtaomigfmjglggaaDoor
open Go.RowKit

theorem run_cut_hk {P : Program} {t e : TypeId} (k : IntKind) (hu : P.underlying t = some (.slice e)) (hs : (P.info? e).map (·.size) = some 1) (ao : Option Addr) (n cap m : Nat) (h0 : m ≤ cap) (w : World) :
    (Instr.sliceAt t (.slice ao n cap) none (some (.int k (m : Int))) none).run P w = .ok (.slice ao m cap) w := by
  have h1 : (0 : Int) ≤ (m : Int) ∧ (m : Int) ≤ (cap : Int) := by omega
  simp [Instr.sliceAt, Instr.slice, run_underlying hu, Instr.sliceBounds, run_sliceBound_if, run_sizeOf hs, h1]
  intro he
  cases ao with
  | none => rfl
  | some a => simp [Addr.add]
theorem run_cut_lk {P : Program} {t e : TypeId} (k : IntKind) (hu : P.underlying t = some (.slice e)) (hs : (P.info? e).map (·.size) = some 1) (ao : Option Addr) (n cap l : Nat) (h : l ≤ n) (w : World) :
    (Instr.sliceAt t (.slice ao n cap) (some (.int k (l : Int))) none none).run P w = .ok (sl ao l (n - l) cap) w := by
  have h3 : (0 : Int) ≤ (l : Int) ∧ (l : Int) ≤ (n : Int) := by omega
  simp [Instr.sliceAt, Instr.slice, run_underlying hu, Instr.sliceBounds, run_sliceBound_if, run_sizeOf hs, sl, h3]

theorem sl_ownO (ao : Option Addr) (l m c n : Nat) : ∀ k, (sl ao l m c).ownBlock = some k → (Value.slice ao n c).ownBlock = some k := by
  intro k h
  cases ao with
  | none => unfold sl at h; split at h <;> simp [Value.ownBlock] at h
  | some ad => exact sl_own' ad l m c n k h

/-- A slice's first cell. -/
theorem SlAt.cellK {w : World} {ao : Option Addr} {n c : Nat} {xs : List Int} (h : SlAt w (.slice ao n c) xs) {i : Nat} (hi : i < n) : ∃ ad, ao = some ad ∧ ad.spot = none ∧ w.cell? (ad.add i) = some (.int .u8 (nth xs i)) := by
  obtain ⟨ao', cap, hv, hn, _, ha⟩ := h
  injection hv with e1 e2 e3
  subst e1 e2
  cases hao : ao with
  | none => rw [(hn hao).1] at hi; simp at hi
  | some ad => exact ⟨ad, rfl, (ha ad hao i hi).1, (ha ad hao i hi).2.2⟩

theorem add_zero' (ad : Addr) (h : ad.spot = none) : ad.add 0 = ad := by
  obtain ⟨b, o, s⟩ := ad
  cases h
  rw [addr_plain', Nat.add_zero]

/-- One byte cut. -/
def cut8 (bs : List Int) : Option (List Int) := if bs.length = 0 then none else some (bs.drop 1)

set_option maxRecDepth 100000 in
theorem cutU8_any (sv : Value) (bs : List Int) (W : World) (hs : SlAt W sv bs) :
    Calls Tryd.prog 98 #[sv] W (CutPost W sv (fun f _ => f = .int .u8 (nth bs 0)) (cut8 bs)) := by
  obtain ⟨ao, cap, rfl⟩ := hs.len
  have HS := hide hs
  clear hs
  obtain ⟨n, hn⟩ : ∃ n, n = bs.length := ⟨_, rfl⟩
  have HN := hide hn
  rw [← hn] at HS ⊢
  clear hn
  by_cases h0 : n = 0
  · subst h0
    go_enter Tryd.func98, Tryd.ntmps98
    go_wp2_with fail
    (try simp only [Exit.inBlock, Exit.then]); refine bodyPost_ret (results_tmp3 rfl _ _ _) rfl ?_
    refine ⟨Below.refl _ _, ?_⟩
    rw [cut8, if_pos HN.out.symm]
    exact ⟨_, _, rfl⟩
  · have hn1 : 0 < n := by omega
    obtain ⟨ad, rfl, hsp, hc⟩ := HS.out.cellK hn1
    rw [add_zero' ad hsp] at hc
    have hcut := run_cut_lk (P := Tryd.prog) .i64 Tryd.underlying22 size5 (some ad) n cap 1 hn1
    have HSL := hide (HS.out.cut (lo := 1) (m := n - 1) (by omega))
    rw [show ((1 : Nat) : Int) = 1 from rfl] at hcut
    go_enter Tryd.func98, Tryd.ntmps98
    go_wp2_with fail
    go_quiet (fail)
    go_wp2_with fail
    (try simp only [Exit.inBlock, Exit.then]); refine bodyPost_ret (results_tmp3 rfl _ _ _) rfl ?_
    refine ⟨drewN_below _ _, ?_⟩
    rw [cut8, if_neg (by rw [← HN.out]; exact h0)]
    refine ⟨_, _, rfl, rfl, ?_, sl_ownO _ _ _ _ _⟩
    have := HSL.out.below (drewN_below W nq)
    rw [List.take_of_length_le (by have := HN.out; simp; omega)] at this
    exact this

/-- Four bytes, the least first, as far as k. -/
def u32V (bs : List Int) : Nat → Nat
  | 0 => 0
  | k + 1 => u32V bs k + (nth bs k).toNat * 2 ^ (8 * k)
def cut32 (bs : List Int) : Option (List Int) := if bs.length < 4 then none else some (bs.drop 4)

theorem u32V_lt (bs : List Int) (hr : ∀ x ∈ bs, 0 ≤ x ∧ x < 256) : ∀ k, u32V bs k < 2 ^ (8 * k)
  | 0 => by simp [u32V]
  | k + 1 => by
    have h1 := u32V_lt bs hr k
    have h2 := nth_range hr k
    rw [u32V, show 8 * (k + 1) = 8 * k + 8 by omega, Nat.pow_add]
    have h3 : (nth bs k).toNat * 2 ^ (8 * k) ≤ 255 * 2 ^ (8 * k) := Nat.mul_le_mul_right _ (by omega)
    omega

theorem u32_or (acc b k : Nat) (hk : k < 4) (ha : acc < 2 ^ (8 * k)) (hb : b < 256) : bits BinOp.or IntKind.u32 (acc : Int) (IntKind.u32.wrap ((b : Int) * 2 ^ (8 * k))) = ((acc + b * 2 ^ (8 * k) : Nat) : Int) := by
  have hp : b * 2 ^ (8 * k) < 4294967296 ∧ acc < 4294967296 := by
    have : k = 0 ∨ k = 1 ∨ k = 2 ∨ k = 3 := by omega
    rcases this with rfl | rfl | rfl | rfl <;> simp at * <;> omega
  have hw : IntKind.u32.wrap ((b : Int) * 2 ^ (8 * k)) = ((b * 2 ^ (8 * k) : Nat) : Int) := by
    rw [show (b : Int) * 2 ^ (8 * k) = ((b * 2 ^ (8 * k) : Nat) : Int) by push_cast; rfl]
    exact IntWalk.u32_in _ (by omega)
  rw [hw]
  have h := (bits_nat .u32 32 (by decide) wraps_u32 acc (b * 2 ^ (8 * k)) (by omega) (by omega)).2
  rw [h, Nat.or_comm, Nat.mul_comm, ← Nat.two_pow_add_eq_or_of_lt ha, Nat.add_comm]

set_option maxRecDepth 100000 in
set_option maxHeartbeats 1000000 in
theorem cutU32_any (sv : Value) (bs : List Int) (W : World) (ht : Tab W) (hs : SlAt W sv bs) (hr : ∀ x ∈ bs, 0 ≤ x ∧ x < 256) :
    Calls Tryd.prog 82 #[sv] W (CutPost W sv (fun f _ => f = .int .u32 (u32V bs 4 : Nat)) (cut32 bs)) := by
  obtain ⟨ao, cap, rfl⟩ := hs.len
  have HS := hide hs
  have HR := hide hr
  obtain ⟨⟨t, fr, htab⟩, _⟩ := ht
  have hal2 : Tryd.prog.arrayLen 111 = 4 := by kernel_rfl
  have c0 := (cell_of_row _ 0 0 _ t fr htab).trans (show _ = some (Value.int .i64 0) from rfl)
  have c1 := (cell_of_row _ 0 1 _ t fr htab).trans (show _ = some (Value.int .i64 8) from rfl)
  have c2 := (cell_of_row _ 0 2 _ t fr htab).trans (show _ = some (Value.int .i64 16) from rfl)
  have c3 := (cell_of_row _ 0 3 _ t fr htab).trans (show _ = some (Value.int .i64 24) from rfl)
  obtain ⟨n, hn⟩ : ∃ n, n = bs.length := ⟨_, rfl⟩
  have HN := hide hn
  rw [← hn] at HS ⊢
  clear hs hr htab hn
  by_cases h4 : n < 4
  · have h4i : (n : Int) < 4 := by omega
    go_enter Tryd.func82, Tryd.ntmps82
    go_wp2_with fail
    (try simp only [Exit.inBlock, Exit.then]); refine bodyPost_ret (results_tmp3 rfl _ _ _) rfl ?_
    refine ⟨Below.refl _ _, ?_⟩
    rw [cut32, if_pos (by rw [← HN.out]; exact h4)]
    exact ⟨_, _, rfl⟩
  · have h4i : ¬ (n : Int) < 4 := by omega
    have hle : n ≤ cap := HS.out.le.1
    go_enter Tryd.func82, Tryd.ntmps82
    go_wp2_with fail
    go_loopw [5, 12] (fun a i wr => ∃ k : Nat, k ≤ 4 ∧ i = .int .i64 k ∧ a = .int .u32 (u32V bs k : Nat) ∧ wr = W)
      (fun a i _ => 4 - (intOf i).toNat)
    case atStart => exact ⟨0, by omega, rfl, rfl, rfl⟩
    case round =>
      clear c0 c1 c2 c3
      obtain ⟨k, hk, rfl, rfl, rfl⟩ := hrel
      by_cases hlt : k < 4
      · have hix := run_index_cells (P := Tryd.prog) 111 3 4 .i64 .i64 Tryd.underlying111 Tryd.underlying3 (by kernel_rfl) places4 rfl k (by omega)
        rw [nth_places4 ⟨k, by omega⟩, arr4] at hix
        obtain ⟨ad, rfl, hsp, hcell⟩ := HS.out.cellK (i := k) (by omega)
        have hb := nth_range HR.out k
        obtain ⟨b, hbn⟩ : ∃ b : Nat, nth bs k = b := ⟨(nth bs k).toNat, by omega⟩
        rw [hbn] at hcell
        have hor := u32_or (u32V bs k) b k hlt (u32V_lt bs HR.out k) (by omega)
        have hwb : IntKind.u32.wrap (b : Int) = b := IntWalk.u32_in _ (by omega)
        have HV : Hid (u32V bs (k + 1) = u32V bs k + b * 2 ^ (8 * k)) := hide (by rw [u32V, hbn]; rfl)
        have hb2 : b < 256 := by omega
        have hkn : k < n := by omega
        generalize u32V bs k = acc at hor HV ⊢
        clear hbn hb
        go_wp2_with fail
        go_roundw
        case rel => exact ⟨k + 1, by omega, by go_num, (by rw [HV.out]; have h := hor; rw [IntKind.wrap_u32] at h; first | (simp [h]; done) | (simp only [h]; done) | (rw [h])), (by first | trivial | rfl | simp)⟩
        case measure => simp [intOf]; omega
      · obtain rfl : k = 4 := by omega
        have hcut := run_cut_lk (P := Tryd.prog) .i64 Tryd.underlying22 size5 ao n cap 4 (by omega)
        rw [show ((4 : Nat) : Int) = 4 from rfl] at hcut
        have HSL := hide (HS.out.cut (lo := 4) (m := n - 4) (by omega))
        obtain ⟨acc, hacc⟩ : ∃ acc, u32V bs 4 = acc := ⟨_, rfl⟩
        have HA := hide hacc
        rw [hacc]
        clear hacc
        go_wp2_with fail
        go_quiet (fail)
        go_wp2_with fail
        (try simp only [Exit.inBlock, Exit.then]); refine bodyPost_ret (results_tmp3 rfl _ _ _) rfl ?_
        refine ⟨drewN_below _ _, ?_⟩
        rw [cut32, if_neg (by rw [← HN.out]; exact h4)]
        refine ⟨_, _, rfl, (by rw [HA.out]; rfl), ?_, sl_ownO _ _ _ _ _⟩
        have := HSL.out.below (drewN_below wr nq)
        rw [List.take_of_length_le (by have := HN.out; simp; omega)] at this
        exact this
end Go.Proofs.YtaomigfmjglggaaDoor
namespace Go.Proofs.YtaomigfmjglggaaDoor
open Go.RowKit

/-- A text cut. -/
def cutTS (most : Int) (bs : List Int) : Option (List Int × List Int) := match cutUS bs with
  | none => none
  | some y => if most < 0 ∨ most < (y.1 : Int) ∨ y.2.length < y.1 then none else some (y.2.take y.1, y.2.drop y.1)
/-- So many bytes cut. -/
def cutRS (n : Int) (bs : List Int) : Option (List Int) := if n < 0 ∨ (bs.length : Int) < n then none else some (bs.drop n.toNat)

theorem cutL_len : ∀ (f i : Nat) (bs : List Int) (y : Nat × List Int), cutL f i bs = some y → y.2.length < bs.length
  | 0, _, _, _, h => by simp [cutL] at h
  | _ + 1, _, [], _, h => by simp [cutL] at h
  | f + 1, i, b :: r, y, h => by
    rw [cutL] at h
    split at h
    · cases h
    · split at h
      · cases h; simp
      · cases hc : cutL f (i + 1) r with
        | none => rw [hc] at h; cases h
        | some z =>
          rw [hc] at h
          cases h
          have := cutL_len f (i + 1) r z hc
          simp at this ⊢
          omega

set_option maxRecDepth 100000 in
set_option maxHeartbeats 1000000 in
theorem cutRaw_any (n : Int) (cg : Nat) (sv : Value) (bs : List Int) (W : World) (hcp : W.cell? ⟨cg, 0, none⟩ = some (.int .i64 n)) (hcl : cg < W.heap.size) (hs : SlAt W sv bs) (hb : bs.length ≤ 140737488355328) :
    Calls Tryd.prog 84 #[sv, .pointer (some ⟨cg, 0, none⟩)] W (CutPost W sv (fun f w => Row w W.heap.size f (bs.take n.toNat)) (cutRS n bs)) := by
  obtain ⟨ao, cap, rfl⟩ := hs.len
  have HS := hide hs
  clear hs
  obtain ⟨l, hl⟩ : ∃ l, l = bs.length := ⟨_, rfl⟩
  have HN := hide hl
  rw [← hl] at HS hb ⊢
  clear hl
  by_cases h0 : n < 0
  · go_enter Tryd.func84, Tryd.ntmps84
    go_wp2_with fail
    (try simp only [Exit.inBlock, Exit.then]); refine bodyPost_ret (results_tmp3 rfl _ _ _) rfl ?_
    refine ⟨Below.refl _ _, ?_⟩
    rw [cutRS, if_pos (.inl h0)]
    exact ⟨_, _, rfl⟩
  by_cases h1 : (l : Int) < n
  · go_enter Tryd.func84, Tryd.ntmps84
    go_wp2_with fail
    (try simp only [Exit.inBlock, Exit.then]); refine bodyPost_ret (results_tmp3 rfl _ _ _) rfl ?_
    refine ⟨Below.refl _ _, ?_⟩
    rw [cutRS, if_pos (.inr (by rw [← HN.out]; exact h1))]
    exact ⟨_, _, rfl⟩
  · obtain ⟨m, rfl⟩ : ∃ m : Nat, n = m := ⟨n.toNat, by omega⟩
    have hml : m ≤ l := by omega
    have hle : l ≤ cap := HS.out.le.1
    have hcut1 := run_cut_hk (P := Tryd.prog) .i64 Tryd.underlying22 size5 ao l cap m (by omega)
    have hcut2 := run_cut_lk (P := Tryd.prog) .i64 Tryd.underlying22 size5 ao l cap m hml
    have HSL := hide (HS.out.cut (lo := m) (m := l - m) (by omega))
    have HCL := hide (clone_any (.slice ao m cap) (bs.take m) W.drew ((HS.out.front' hml).below (Below.refl _ _).drew) (by simp; omega))
    have HE : Hid (cutRS (m : Int) bs = some (bs.drop m)) := hide (by rw [cutRS, if_neg (by rw [← HN.out]; omega)]; rfl)
    rw [HE.out]
    have hcl' : cg < W.drew.heap.size := hcl
    have h0' : ¬ (m : Int) < 0 := h0
    have h1' : ¬ (m : Int) > (l : Int) := by omega
    clear hml hle h0 h1
    go_enter Tryd.func84, Tryd.ntmps84
    go_wp2_with fail
    refine wp_region_held_drew (S := fun w' => w'.cell? ⟨cg, 0, none⟩ = some (.int .i64 (m : Int))) (by kernel_rfl) hcp (fun hHeld => ?_)
    refine wpAnyH_take (i := 0) (oi := { dst := some 14, op := Op.move (Operand.tmp 0), type := 22, pos := "reader.go:78", after := #[], guard := none }) (v := ?_) rfl (by kernel_rfl) (by kernel_rfl) (by kernel_rfl) (fun _ _ _ h => h) (Or.inl ⟨by rfl, ?_⟩) hHeld ?_
    rotate_left
    · intro w hSw; (try dsimp only at hSw); go_simp; first | done | with_reducible rfl
    try simp only [Act.put, List.setIfInBounds_toArray, List.set_cons_zero, List.set_cons_succ]
    refine wpAnyH_take (i := 1) (oi := { dst := some 15, op := Op.load 3 (Operand.tmp 1), type := 3, pos := "reader.go:78", after := #[], guard := none }) (v := ?_) rfl (by kernel_rfl) (by kernel_rfl) (by kernel_rfl) (fun _ _ _ h => h) (Or.inl ⟨by rfl, ?_⟩) hHeld ?_
    rotate_left
    · intro w hSw; (try dsimp only at hSw); (have hcp := hSw); go_simp; first | done | with_reducible rfl
    try simp only [Act.put, List.setIfInBounds_toArray, List.set_cons_zero, List.set_cons_succ]
    refine wpAnyH_take (i := 2) (oi := { dst := some 16, op := Op.slice 22 (Operand.tmp 14) none (some (Operand.tmp 15)) none, type := 22, pos := "reader.go:78", after := #[{ on := 0, ground := Ground.data }, { on := 1, ground := Ground.data }], guard := none }) (v := ?_) rfl (by kernel_rfl) (by kernel_rfl) (by kernel_rfl) (fun _ _ _ h => h) (Or.inl ⟨by rfl, ?_⟩) hHeld ?_
    rotate_left
    · intro w hSw; (try dsimp only at hSw); go_simp; first | done | with_reducible rfl
    try simp only [Act.put, List.setIfInBounds_toArray, List.set_cons_zero, List.set_cons_succ]
    refine wpAnyH_take (i := 4) (oi := { dst := some 18, op := Op.move (Operand.tmp 0), type := 22, pos := "reader.go:78", after := #[], guard := none }) (v := ?_) rfl (by kernel_rfl) (by kernel_rfl) (by kernel_rfl) (fun _ _ _ h => h) (Or.inl ⟨by rfl, ?_⟩) hHeld ?_
    rotate_left
    · intro w hSw; (try dsimp only at hSw); go_simp; first | done | with_reducible rfl
    try simp only [Act.put, List.setIfInBounds_toArray, List.set_cons_zero, List.set_cons_succ]
    refine wpAnyH_take (i := 5) (oi := { dst := some 19, op := Op.load 3 (Operand.tmp 1), type := 3, pos := "reader.go:78", after := #[], guard := none }) (v := ?_) rfl (by kernel_rfl) (by kernel_rfl) (by kernel_rfl) (fun _ _ _ h => h) (Or.inl ⟨by rfl, ?_⟩) hHeld ?_
    rotate_left
    · intro w hSw; (try dsimp only at hSw); (have hcp := hSw); go_simp; first | done | with_reducible rfl
    try simp only [Act.put, List.setIfInBounds_toArray, List.set_cons_zero, List.set_cons_succ]
    refine wpAnyH_take (i := 6) (oi := { dst := some 20, op := Op.slice 22 (Operand.tmp 18) (some (Operand.tmp 19)) none none, type := 22, pos := "reader.go:78", after := #[{ on := 4, ground := Ground.data }, { on := 5, ground := Ground.data }], guard := none }) (v := ?_) rfl (by kernel_rfl) (by kernel_rfl) (by kernel_rfl) (fun _ _ _ h => h) (Or.inl ⟨by rfl, ?_⟩) hHeld ?_
    rotate_left
    · intro w hSw; (try dsimp only at hSw); go_simp; first | done | with_reducible rfl
    try simp only [Act.put, List.setIfInBounds_toArray, List.set_cons_zero, List.set_cons_succ]
    refine wpAnyH_ready (rs := [3]) (by kernel_rfl) (by simp) ?_
    refine AllReadyH.cons (o := { dst := some 17, op := Op.call { callee := Callee.value (Operand.func 46), args := #[Operand.tmp 16], argTypes := #[22] }, type := 22, pos := "reader.go:78", after := #[{ on := 2, ground := Ground.data }], guard := none }) rfl (fun K hK => ?_) AllReadyH.nil
    clear hHeld
    go_simp
    refine HCL.out.mono ?_
    rintro e w1 ⟨v', rfl, hrow, hB1⟩
    have HR1 := hide hrow
    have HB1 := hide hB1
    clear hrow hB1
    dsimp only
    refine hK.out _ _ ((HB1.out.cell (p := ⟨cg, 0, none⟩) hcl).trans hcp) (fun hHeld => ?_)
    clear hK K
    try simp only [Act.put, List.setIfInBounds_toArray, List.set_cons_zero, List.set_cons_succ]
    refine wpAnyH_take (i := 7) (oi := { dst := some 3, op := Op.assign (Operand.tmp 17), type := 22, pos := "reader.go:78", after := #[{ on := 3, ground := Ground.data }, { on := 3, ground := Ground.chain }, { on := 0, ground := Ground.phase }, { on := 1, ground := Ground.phase }, { on := 2, ground := Ground.phase }, { on := 3, ground := Ground.phase }, { on := 4, ground := Ground.textOnly Departure.lateStores }, { on := 5, ground := Ground.textOnly Departure.lateStores }, { on := 6, ground := Ground.textOnly Departure.lateStoresUnsure }], guard := none }) (v := ?_) rfl (by kernel_rfl) (by kernel_rfl) (by kernel_rfl) (fun _ _ _ h => h) (Or.inl ⟨by rfl, ?_⟩) hHeld ?_
    rotate_left
    · intro w hSw; (try dsimp only at hSw); go_simp; first | done | with_reducible rfl
    try simp only [Act.put, List.setIfInBounds_toArray, List.set_cons_zero, List.set_cons_succ]
    refine wpAnyH_take (i := 8) (oi := { dst := some 4, op := Op.assign (Operand.tmp 20), type := 22, pos := "reader.go:78", after := #[{ on := 6, ground := Ground.data }, { on := 7, ground := Ground.chain }, { on := 0, ground := Ground.phase }, { on := 1, ground := Ground.phase }, { on := 2, ground := Ground.phase }, { on := 3, ground := Ground.phase }, { on := 4, ground := Ground.phase }, { on := 5, ground := Ground.phase }, { on := 6, ground := Ground.phase }, { on := 7, ground := Ground.phase }], guard := none }) (v := ?_) rfl (by kernel_rfl) (by kernel_rfl) (by kernel_rfl) (fun _ _ _ h => h) (Or.inl ⟨by rfl, ?_⟩) hHeld ?_
    rotate_left
    · intro w hSw; (try dsimp only at hSw); go_simp; first | done | with_reducible rfl
    try simp only [Act.put, List.setIfInBounds_toArray, List.set_cons_zero, List.set_cons_succ]
    refine wpAnyH_take (i := 9) (oi := { dst := some 5, op := Op.assign (Operand.const (Value.bool true)), type := 4, pos := "reader.go:78", after := #[{ on := 8, ground := Ground.chain }, { on := 0, ground := Ground.phase }, { on := 1, ground := Ground.phase }, { on := 2, ground := Ground.phase }, { on := 3, ground := Ground.phase }, { on := 4, ground := Ground.phase }, { on := 5, ground := Ground.phase }, { on := 6, ground := Ground.phase }, { on := 7, ground := Ground.phase }, { on := 8, ground := Ground.phase }], guard := none }) (v := ?_) rfl (by kernel_rfl) (by kernel_rfl) (by kernel_rfl) (fun _ _ _ h => h) (Or.inl ⟨by rfl, ?_⟩) hHeld ?_
    rotate_left
    · intro w hSw; (try dsimp only at hSw); go_simp; first | done | with_reducible rfl
    try simp only [Act.put, List.setIfInBounds_toArray, List.set_cons_zero, List.set_cons_succ]
    refine wpAnyH_done (by kernel_rfl) ?_ _
    go_wp2_with fail
    (try simp only [Exit.inBlock, Exit.then]); refine bodyPost_ret (results_tmp3 rfl _ _ _) rfl ?_
    have hbel : Below W.heap.size W w1 := (Below.refl W.heap.size W).drew.trans HB1.out
    refine ⟨hbel, _, _, rfl, HR1.out, ?_, sl_ownO _ _ _ _ _⟩
    have := HSL.out.below hbel
    rw [List.take_of_length_le (by have := HN.out; simp; omega)] at this
    exact this

set_option maxRecDepth 100000 in
set_option maxHeartbeats 1000000 in
theorem cutText_any (most : Int) (hm : most < 18446744073709551616) (cg : Nat) (sv : Value) (bs : List Int) (W : World) (ht : Tab W) (hcp : W.cell? ⟨cg, 0, none⟩ = some (.int .i64 most)) (hcl : cg < W.heap.size) (hs : SlAt W sv bs) (hr : ∀ x ∈ bs, 0 ≤ x ∧ x < 256) (hb : bs.length ≤ 140737488355328) :
    Calls Tryd.prog 78 #[sv, .pointer (some ⟨cg, 0, none⟩)] W (CutPost W sv (fun f _ => f = .string (strOfNums (((cutTS most bs).map (·.1)).getD []))) ((cutTS most bs).map (·.2))) := by
  have HU := hide (cutUint_any sv bs W ht hs hr)
  clear ht hs
  go_enter Tryd.func78, Tryd.ntmps78
  go_wp2_with fail
  refine HU.out.mono ?_
  intro e w1 hp
  obtain ⟨hB, hp⟩ := hp
  have HB := hide hB
  have hcp1 : w1.cell? ⟨cg, 0, none⟩ = some (.int .i64 most) := (hB.cell (p := ⟨cg, 0, none⟩) hcl).trans hcp
  clear HU hB hcp
  have HL := hide (cutL_len 10 0 bs)
  cases hc : cutUS bs with
  | none =>
    rw [hc] at hp
    have HC : Hid (cutTS most bs = none) := hide (by rw [cutTS, hc])
    clear hc
    obtain ⟨f, s, rfl⟩ := hp
    go_wp2_with fail
    (try simp only [Exit.inBlock, Exit.then]); refine bodyPost_ret (results_tmp3 rfl _ _ _) rfl ?_
    refine ⟨HB.out, ?_⟩
    rw [HC.out]
    exact ⟨_, _, rfl⟩
  | some y =>
    obtain ⟨x, r⟩ := y
    rw [hc] at hp
    have HC : Hid (cutTS most bs = if most < 0 ∨ most < (x : Int) ∨ r.length < x then none else some (r.take x, r.drop x)) := hide (by rw [cutTS, hc])
    have hrl : r.length < bs.length := HL.out (x, r) hc
    clear hc HL
    obtain ⟨s, rfl, hs, ho⟩ := hp
    dsimp only at hs ⊢
    obtain ⟨ao, cap, rfl⟩ := hs.len
    have HS := hide hs
    have HO := hide ho
    obtain ⟨l, hl⟩ : ∃ l, l = r.length := ⟨_, rfl⟩
    have HN := hide hl
    rw [← hl] at HS HO hrl HC ⊢
    have hl2 : l ≤ 140737488355328 := by omega
    clear hs ho hl hrl
    by_cases h0 : most < 0
    · go_wp2_with fail
      (try simp only [Exit.inBlock, Exit.then]); refine bodyPost_ret (results_tmp3 rfl _ _ _) rfl ?_
      refine ⟨HB.out, ?_⟩
      rw [HC.out, if_pos (.inl h0)]
      exact ⟨_, _, rfl⟩
    have hwm : IntKind.u64.wrap most = most := IntWalk.u64_in _ (by omega)
    have hwl : IntKind.u64.wrap (l : Int) = l := IntWalk.u64_in _ (by omega)
    by_cases h1 : most < (x : Int)
    · have h1' : (x : Int) > most := h1
      go_wp2_with fail
      (try simp only [Exit.inBlock, Exit.then]); refine bodyPost_ret (results_tmp3 rfl _ _ _) rfl ?_
      refine ⟨HB.out, ?_⟩
      rw [HC.out, if_pos (.inr (.inl h1))]
      exact ⟨_, _, rfl⟩
    by_cases h2 : l < x
    · have h2' : (x : Int) > (l : Int) := by omega
      go_wp2_with fail
      (try simp only [Exit.inBlock, Exit.then]); refine bodyPost_ret (results_tmp3 rfl _ _ _) rfl ?_
      refine ⟨HB.out, ?_⟩
      rw [HC.out, if_pos (.inr (.inr h2))]
      exact ⟨_, _, rfl⟩
    · have h2' : ¬ (x : Int) > (l : Int) := by omega
      have h1' : ¬ (x : Int) > most := h1
      have hle : l ≤ cap := HS.out.le.1
      have hcut1 := run_cut_hk (P := Tryd.prog) .u64 Tryd.underlying22 size5 ao l cap x (by omega)
      have hcut2 := run_cut_lk (P := Tryd.prog) .u64 Tryd.underlying22 size5 ao l cap x (by omega)
      have HSL := hide (HS.out.cut (lo := x) (m := l - x) (by omega))
      have hst := fun n => ((HS.out.front' (m := x) (by omega)).below (drewN_below w1 n)).string (P := Tryd.prog) 22 5 9 Tryd.underlying22 Tryd.underlying5 Tryd.underlying9
      have HE : Hid (cutTS most bs = some (r.take x, r.drop x)) := hide (by rw [HC.out, if_neg (by omega)])
      obtain ⟨str, hstr⟩ : ∃ str, strOfNums (r.take x) = str := ⟨_, rfl⟩
      have HST := hide hstr
      rw [hstr] at hst
      clear hle HC h1 h2 hl2 hstr
      go_wp2_with fail
      go_quiet (fail)
      go_wp2_with fail
      (try simp only [Exit.inBlock, Exit.then]); refine bodyPost_ret (results_tmp3 rfl _ _ _) rfl ?_
      have hbel : Below W.heap.size W (w1.drewN nq) := HB.out.trans ((drewN_below w1 nq).mono HB.out.size)
      refine ⟨hbel, ?_⟩
      rw [HE.out]
      refine ⟨_, _, rfl, (by simp only [Option.map_some, Option.getD_some]; rw [HST.out]; rfl), ?_, fun k h => HO.out k (sl_ownO _ _ _ _ _ k h)⟩
      have := HSL.out.below (drewN_below w1 nq)
      rw [List.take_of_length_le (by have := HN.out; simp; omega)] at this
      exact this
end Go.Proofs.YtaomigfmjglggaaDoor
namespace Go.Proofs.YtaomigfmjglggaaDoor
open Go.RowKit

set_option maxRecDepth 100000 in
/-- A reader of bytes: it has a copy of them. -/
theorem newReader_any (sv : Value) (bs : List Int) (W : World) (hs : SlAt W sv bs) (hb : bs.length ≤ 140737488355328) :
    Calls Tryd.prog 40 #[sv] W (fun e w' => ∃ g, e = .returned (.pointer (some ⟨g, 0, none⟩)) ∧ Below W.heap.size W w' ∧ Rd w' W.heap.size (fun k => W.heap.size ≤ k ∧ k < w'.heap.size) g bs false) := by
  have HC := hide (clone_any sv bs W hs hb)
  clear hs
  go_enter Tryd.func40, Tryd.ntmps40
  go_wp2_with fail
  refine HC.out.mono ?_
  rintro e w1 ⟨v', rfl, hrow, hB⟩
  obtain ⟨ao, cap, rfl⟩ := hrow.slAt.len
  have HR := hide hrow
  have HB := hide hB
  clear hrow hB
  go_wp2_with fail
  go_ret
  refine ⟨_, rfl, HB.out.alloc HB.out.size _, ⟨HB.out.size, by simp⟩, fun k h => h, _, heap_alloc_new _ _, (HR.out.alloc _).slAt, fun k e => ?_⟩
  have h1 := HR.out.ge e
  have h2 := HR.out.lt e
  exact ⟨⟨h1, by simp; omega⟩, by omega⟩

theorem rdPost_pre {W W1 : World} {B g : Nat} {F : Nat → Prop} {bs : List Int} {z : Value} {P : Value → World → Prop} {r : Option (List Int)} {e : Ending} {w' : World} (hb : Below W.heap.size W W1) (h : RdPost W1 B F g bs z P r e w') : RdPost W B F g bs z P r e w' := by
  refine ⟨(Keep.of_below hb : Keep F W W1).trans h.1 (fun _ h => .inl h), ?_⟩
  have := h.2
  cases r <;> exact this

set_option maxRecDepth 100000 in
theorem r8_nil (W : World) : Calls Tryd.prog 76 #[.pointer none] W (fun e w' => e = .returned (.int .u8 0) ∧ Below W.heap.size W w') := by
  go_enter Tryd.func76, Tryd.ntmps76
  go_wp2_with fail
  refine (take_u8_nil _ _).mono ?_
  rintro e w1 ⟨rfl, rfl⟩
  go_wp2_with fail
  go_ret
  exact ⟨rfl, Below.refl _ _⟩

set_option maxRecDepth 100000 in
theorem r8_stop (W : World) (B : Nat) (F : Nat → Prop) (g : Nat) (bs : List Int) (h : Rd W B F g bs true) : Calls Tryd.prog 76 #[.pointer (some ⟨g, 0, none⟩)] W (fun e w' => e = .returned (.int .u8 0) ∧ Below W.heap.size W w') := by
  have HH := hide h
  clear h
  go_enter Tryd.func76, Tryd.ntmps76
  go_wp2_with fail
  refine (take_u8_stop _ _ B F g bs HH.out).mono ?_
  rintro e w1 ⟨rfl, rfl⟩
  go_wp2_with fail
  go_ret
  exact ⟨rfl, Below.refl _ _⟩

set_option maxRecDepth 100000 in
theorem r8_go (W : World) (B : Nat) (F : Nat → Prop) (g : Nat) (bs : List Int) (h : Rd W B F g bs false) :
    Calls Tryd.prog 76 #[.pointer (some ⟨g, 0, none⟩)] W (RdPost W B F g bs (.int .u8 0) (fun f _ => f = .int .u8 (nth bs 0)) (cut8 bs)) := by
  have HC := hide (take_u8_go W B F g bs (fun f _ => f = .int .u8 (nth bs 0)) (cut8 bs) h (fun _ _ _ h _ => h) (fun sv hs => cutU8_any sv bs W hs))
  clear h
  go_enter Tryd.func76, Tryd.ntmps76
  go_wp2_with fail
  refine HC.out.mono ?_
  intro e w1 hp
  have HP := hide hp
  obtain ⟨v, rfl⟩ : ∃ v, e = .returned v := by
    have := hp.2
    split at this
    · exact ⟨_, this.1⟩
    · exact ⟨_, this.choose_spec.1⟩
  clear hp HC
  go_wp2_with fail
  go_ret
  exact HP.out

set_option maxRecDepth 100000 in
theorem r32_nil (W : World) : Calls Tryd.prog 64 #[.pointer none] W (fun e w' => e = .returned (.int .u32 0) ∧ Below W.heap.size W w') := by
  go_enter Tryd.func64, Tryd.ntmps64
  go_wp2_with fail
  refine (take_u32_nil _ _).mono ?_
  rintro e w1 ⟨rfl, rfl⟩
  go_wp2_with fail
  go_ret
  exact ⟨rfl, Below.refl _ _⟩

set_option maxRecDepth 100000 in
theorem r32_stop (W : World) (B : Nat) (F : Nat → Prop) (g : Nat) (bs : List Int) (h : Rd W B F g bs true) : Calls Tryd.prog 64 #[.pointer (some ⟨g, 0, none⟩)] W (fun e w' => e = .returned (.int .u32 0) ∧ Below W.heap.size W w') := by
  have HH := hide h
  clear h
  go_enter Tryd.func64, Tryd.ntmps64
  go_wp2_with fail
  refine (take_u32_stop _ _ B F g bs HH.out).mono ?_
  rintro e w1 ⟨rfl, rfl⟩
  go_wp2_with fail
  go_ret
  exact ⟨rfl, Below.refl _ _⟩

set_option maxRecDepth 100000 in
theorem r32_go (W : World) (B : Nat) (F : Nat → Prop) (g : Nat) (bs : List Int) (h : Rd W B F g bs false) (ht : Tab W) (hr : ∀ x ∈ bs, 0 ≤ x ∧ x < 256) :
    Calls Tryd.prog 64 #[.pointer (some ⟨g, 0, none⟩)] W (RdPost W B F g bs (.int .u32 0) (fun f _ => f = .int .u32 (u32V bs 4 : Nat)) (cut32 bs)) := by
  have HC := hide (take_u32_go W B F g bs (fun f _ => f = .int .u32 (u32V bs 4 : Nat)) (cut32 bs) h (fun _ _ _ h _ => h) (fun sv hs => cutU32_any sv bs W ht hs hr))
  clear h
  go_enter Tryd.func64, Tryd.ntmps64
  go_wp2_with fail
  refine HC.out.mono ?_
  intro e w1 hp
  have HP := hide hp
  obtain ⟨v, rfl⟩ : ∃ v, e = .returned v := by
    have := hp.2
    split at this
    · exact ⟨_, this.1⟩
    · exact ⟨_, this.choose_spec.1⟩
  clear hp HC
  go_wp2_with fail
  go_ret
  exact HP.out

theorem cutU_post {W : World} {sv : Value} {bs : List Int} {e : Ending} {w' : World} (h : CutU W sv bs e w') : CutPost W sv (fun f _ => f = .int .u64 ((((cutUS bs).map (·.1)).getD 0 : Nat))) ((cutUS bs).map (·.2)) e w' := by
  refine ⟨h.1, ?_⟩
  have h2 := h.2
  cases hc : cutUS bs with
  | none => rw [hc] at h2; exact h2
  | some y =>
    rw [hc] at h2
    obtain ⟨s, he, hs, ho⟩ := h2
    exact ⟨_, s, he, rfl, hs, ho⟩

set_option maxRecDepth 100000 in
theorem ru_nil (W : World) : Calls Tryd.prog 62 #[.pointer none] W (fun e w' => e = .returned (.int .u64 0) ∧ Below W.heap.size W w') := by
  go_enter Tryd.func62, Tryd.ntmps62
  go_wp2_with fail
  refine (take_uint_nil _ _).mono ?_
  rintro e w1 ⟨rfl, rfl⟩
  go_wp2_with fail
  go_ret
  exact ⟨rfl, Below.refl _ _⟩

set_option maxRecDepth 100000 in
theorem ru_stop (W : World) (B : Nat) (F : Nat → Prop) (g : Nat) (bs : List Int) (h : Rd W B F g bs true) : Calls Tryd.prog 62 #[.pointer (some ⟨g, 0, none⟩)] W (fun e w' => e = .returned (.int .u64 0) ∧ Below W.heap.size W w') := by
  have HH := hide h
  clear h
  go_enter Tryd.func62, Tryd.ntmps62
  go_wp2_with fail
  refine (take_uint_stop _ _ B F g bs HH.out).mono ?_
  rintro e w1 ⟨rfl, rfl⟩
  go_wp2_with fail
  go_ret
  exact ⟨rfl, Below.refl _ _⟩

set_option maxRecDepth 100000 in
theorem ru_go (W : World) (B : Nat) (F : Nat → Prop) (g : Nat) (bs : List Int) (h : Rd W B F g bs false) (ht : Tab W) (hr : ∀ x ∈ bs, 0 ≤ x ∧ x < 256) :
    Calls Tryd.prog 62 #[.pointer (some ⟨g, 0, none⟩)] W (RdPost W B F g bs (.int .u64 0) (fun f _ => f = .int .u64 ((((cutUS bs).map (·.1)).getD 0 : Nat))) ((cutUS bs).map (·.2))) := by
  have HC := hide (take_uint_go W B F g bs (fun f _ => f = .int .u64 ((((cutUS bs).map (·.1)).getD 0 : Nat))) ((cutUS bs).map (·.2)) h (fun _ _ _ h _ => h) (fun sv hs => (cutUint_any sv bs W ht hs hr).mono (fun _ _ h => cutU_post h)))
  clear h
  go_enter Tryd.func62, Tryd.ntmps62
  go_wp2_with fail
  refine HC.out.mono ?_
  intro e w1 hp
  have HP := hide hp
  obtain ⟨v, rfl⟩ : ∃ v, e = .returned v := by
    have := hp.2
    split at this
    · exact ⟨_, this.1⟩
    · exact ⟨_, this.choose_spec.1⟩
  clear hp HC
  go_wp2_with fail
  go_ret
  exact HP.out

set_option maxRecDepth 100000 in
theorem rt_nil (n : Int) (W : World) : Calls Tryd.prog 61 #[.pointer none, .int .i64 n] W (fun e w' => e = .returned (.string ⟨#[]⟩) ∧ Below W.heap.size W w') := by
  go_enter Tryd.func61, Tryd.ntmps61
  go_wp2_with fail
  refine (take_text_nil _ _).mono ?_
  rintro e w1 ⟨rfl, rfl⟩
  go_wp2_with fail
  go_ret
  exact ⟨rfl, (Below.refl _ _).alloc (Nat.le_refl _) _⟩

set_option maxRecDepth 100000 in
theorem rt_stop (n : Int) (W : World) (B : Nat) (F : Nat → Prop) (g : Nat) (bs : List Int) (h : Rd W B F g bs true) : Calls Tryd.prog 61 #[.pointer (some ⟨g, 0, none⟩), .int .i64 n] W (fun e w' => e = .returned (.string ⟨#[]⟩) ∧ Below W.heap.size W w') := by
  have HH := hide (h.keep (Keep.alloc (fun _ => False) W (.cells #[.int .i64 n] 3)) (fun _ _ => id))
  clear h
  go_enter Tryd.func61, Tryd.ntmps61
  go_wp2_with fail
  refine (take_text_stop _ _ B F g bs HH.out).mono ?_
  rintro e w1 ⟨rfl, rfl⟩
  go_wp2_with fail
  go_ret
  exact ⟨rfl, (Below.refl _ _).alloc (Nat.le_refl _) _⟩

set_option maxRecDepth 100000 in
theorem rt_go (n : Int) (W : World) (B : Nat) (F : Nat → Prop) (g : Nat) (bs : List Int) (h : Rd W B F g bs false) (hn : n < 18446744073709551616) (ht : Tab W) (hr : ∀ x ∈ bs, 0 ≤ x ∧ x < 256) (hb : bs.length ≤ 140737488355328) :
    Calls Tryd.prog 61 #[.pointer (some ⟨g, 0, none⟩), .int .i64 n] W (RdPost W B F g bs (.string ⟨#[]⟩) (fun f _ => f = .string (strOfNums (((cutTS n bs).map (·.1)).getD []))) ((cutTS n bs).map (·.2))) := by
  have hgl := (h.ge g h.own).2
  have hB : Below W.heap.size W (W.alloc (.cells #[.int .i64 n] 3)) := (Below.refl _ _).alloc (Nat.le_refl _) _
  have h1 := h.keep (Keep.alloc (fun _ => False) W (.cells #[.int .i64 n] 3)) (fun _ _ => id)
  have hcp : (W.alloc (.cells #[.int .i64 n] 3)).cell? ⟨W.heap.size, 0, none⟩ = some (.int .i64 n) := (cell_of_row _ _ 0 _ _ _ (heap_alloc_new _ _)).trans rfl
  have hcl : W.heap.size < (W.alloc (.cells #[.int .i64 n] 3)).heap.size := by simp
  have HC := hide (take_text_go (.pointer (some ⟨W.heap.size, 0, none⟩)) (W.alloc (.cells #[.int .i64 n] 3)) B F g bs (fun f _ => f = .string (strOfNums (((cutTS n bs).map (·.1)).getD []))) ((cutTS n bs).map (·.2)) h1 (fun _ _ _ h _ => h) (fun sv hs => cutText_any n hn W.heap.size sv bs _ (ht.below hB ht.two) hcp hcl hs hr hb))
  have HB := hide hB
  clear h h1 hcp hcl hB
  go_enter Tryd.func61, Tryd.ntmps61
  go_wp2_with fail
  refine HC.out.mono ?_
  intro e w1 hp
  have HP := hide (rdPost_pre HB.out hp)
  obtain ⟨v, rfl⟩ : ∃ v, e = .returned v := by
    have := hp.2
    split at this
    · exact ⟨_, this.1⟩
    · exact ⟨_, this.choose_spec.1⟩
  clear hp HC
  go_wp2_with fail
  go_ret
  exact HP.out

set_option maxRecDepth 100000 in
theorem rr_nil (n : Int) (W : World) : Calls Tryd.prog 65 #[.pointer none, .int .i64 n] W (fun e w' => e = .returned (.slice none 0 0) ∧ Below W.heap.size W w') := by
  go_enter Tryd.func65, Tryd.ntmps65
  go_wp2_with fail
  refine (take_raw_nil _ _).mono ?_
  rintro e w1 ⟨rfl, rfl⟩
  go_wp2_with fail
  go_ret
  exact ⟨rfl, (Below.refl _ _).alloc (Nat.le_refl _) _⟩

set_option maxRecDepth 100000 in
theorem rr_stop (n : Int) (W : World) (B : Nat) (F : Nat → Prop) (g : Nat) (bs : List Int) (h : Rd W B F g bs true) : Calls Tryd.prog 65 #[.pointer (some ⟨g, 0, none⟩), .int .i64 n] W (fun e w' => e = .returned (.slice none 0 0) ∧ Below W.heap.size W w') := by
  have HH := hide (h.keep (Keep.alloc (fun _ => False) W (.cells #[.int .i64 n] 3)) (fun _ _ => id))
  clear h
  go_enter Tryd.func65, Tryd.ntmps65
  go_wp2_with fail
  refine (take_raw_stop _ _ B F g bs HH.out).mono ?_
  rintro e w1 ⟨rfl, rfl⟩
  go_wp2_with fail
  go_ret
  exact ⟨rfl, (Below.refl _ _).alloc (Nat.le_refl _) _⟩

set_option maxRecDepth 100000 in
theorem rr_go (n : Int) (W : World) (B : Nat) (F : Nat → Prop) (g : Nat) (bs : List Int) (h : Rd W B F g bs false) (hb : bs.length ≤ 140737488355328) :
    Calls Tryd.prog 65 #[.pointer (some ⟨g, 0, none⟩), .int .i64 n] W (RdPost W B F g bs (.slice none 0 0) (fun f w => Row w (W.heap.size + 1) f (bs.take n.toNat)) (cutRS n bs)) := by
  have hgl := (h.ge g h.own).2
  have hB : Below W.heap.size W (W.alloc (.cells #[.int .i64 n] 3)) := (Below.refl _ _).alloc (Nat.le_refl _) _
  have h1 := h.keep (Keep.alloc (fun _ => False) W (.cells #[.int .i64 n] 3)) (fun _ _ => id)
  have hcp : (W.alloc (.cells #[.int .i64 n] 3)).cell? ⟨W.heap.size, 0, none⟩ = some (.int .i64 n) := (cell_of_row _ _ 0 _ _ _ (heap_alloc_new _ _)).trans rfl
  have hcl : W.heap.size < (W.alloc (.cells #[.int .i64 n] 3)).heap.size := by simp
  have HC := hide (take_raw_go (.pointer (some ⟨W.heap.size, 0, none⟩)) (W.alloc (.cells #[.int .i64 n] 3)) B F g bs (fun f w => Row w (W.heap.size + 1) f (bs.take n.toNat)) (cutRS n bs) h1 (fun _ _ _ h k => h.keep k (fun x e hx => by have := h.ge e; omega)) (fun sv hs => by have := cutRaw_any n W.heap.size sv bs _ hcp hcl hs hb; rwa [show (W.alloc (.cells #[.int .i64 n] 3)).heap.size = W.heap.size + 1 by simp] at this))
  have HB := hide hB
  clear h h1 hcp hcl hB
  go_enter Tryd.func65, Tryd.ntmps65
  go_wp2_with fail
  refine HC.out.mono ?_
  intro e w1 hp
  have HP := hide (rdPost_pre HB.out hp)
  obtain ⟨v, rfl⟩ : ∃ v, e = .returned v := by
    have := hp.2
    split at this
    · exact ⟨_, this.1⟩
    · exact ⟨_, this.choose_spec.1⟩
  clear hp HC
  go_wp2_with fail
  go_ret
  exact HP.out
end Go.Proofs.YtaomigfmjglggaaDoor
namespace Go.Proofs.YtaomigfmjglggaaDoor
open Go.RowKit

/-- The blocks from lo to below hi. -/
def iv (lo hi : Nat) : Nat → Prop := fun k => lo ≤ k ∧ k < hi

set_option maxRecDepth 100000 in
theorem newWriter_iv (W : World) :
    Calls Tryd.prog 53 #[] W (fun e w' => ∃ g, e = .returned (.pointer (some ⟨g, 0, none⟩)) ∧ Below W.heap.size W w' ∧ Wr w' W.heap.size (iv W.heap.size w'.heap.size) g []) := by
  refine (newWriter_any W).mono ?_
  rintro e w' ⟨rfl, rfl⟩
  exact ⟨_, rfl, (Below.refl _ _).alloc (Nat.le_refl _) _, ⟨Nat.le_refl _, by simp⟩, fun k h => h, .inl ⟨rfl, heap_alloc_new _ _⟩⟩

theorem WrPost.iv {W w' : World} {lo hi g : Nat} {xs : List Int} {e : Ending} (h : WrPost W lo (iv lo hi) g xs e w') (hh : hi = W.heap.size) (hl : lo ≤ hi) : e = .returned (.tuple #[]) ∧ W.heap.size ≤ w'.heap.size ∧ Keep (Proofs.YtaomigfmjglggaaDoor.iv lo hi) W w' ∧ Wr w' lo (Proofs.YtaomigfmjglggaaDoor.iv lo w'.heap.size) g xs := by
  obtain ⟨he, hk, hw⟩ := h
  have hs := hk.size
  refine ⟨he, hs, hk, hw.mono (fun k hk => ?_) (fun k hk => hk)⟩
  rcases hk with hk | hk
  · exact ⟨hk.1, Nat.lt_of_lt_of_le hk.2 (by omega)⟩
  · exact ⟨by omega, hk.2⟩

/-- A reader of what a literal builds. -/
theorem newReader_lit (bs : List Int) (W : World) (hb : bs.length ≤ 140737488355328) :
    Calls Tryd.prog 40 #[.slice (some ⟨W.heap.size, 0, none⟩) bs.length bs.length] (W.alloc (.cells (cellsOf .u8 bs) 5)) (fun e w' => ∃ g, e = .returned (.pointer (some ⟨g, 0, none⟩)) ∧ Below W.heap.size W w' ∧ Rd w' W.heap.size (iv W.heap.size w'.heap.size) g bs false) := by
  refine (newReader_any _ bs _ (slAt_lit (heap_alloc_new _ _) (Nat.le_refl _)) hb).mono ?_
  rintro e w' ⟨g, rfl, hB, hr⟩
  have hs : (W.alloc (.cells (cellsOf .u8 bs) 5)).heap.size = W.heap.size + 1 := by simp
  refine ⟨g, rfl, ((Below.refl W.heap.size W).alloc (Nat.le_refl _) _).trans (hB.mono (by rw [hs]; omega)), ⟨by have := hr.own; rw [hs] at this; omega, hr.own.2⟩, fun k h => h, ?_⟩
  obtain ⟨v, h1, h2, h3⟩ := hr.shape
  exact ⟨v, h1, h2, fun k e => ⟨⟨by have := (h3 k e).1; rw [hs] at this; omega, (h3 k e).1.2⟩, (h3 k e).2⟩⟩

theorem put_lit (l : List Nat) (W : World) (lo g : Nat) (xs : List Int) (ht : Tab W) (hl2 : 2 ≤ lo) (h : Wr W lo (iv lo W.heap.size) g xs) (hr : ∀ x ∈ l, x < 18446744073709551616) (hb : xs.length + 10 * l.length ≤ 140737488355328) :
    Calls Tryd.prog 56 #[.pointer (some ⟨g, 0, none⟩), .slice (some ⟨W.heap.size, 0, none⟩) l.length l.length] (W.alloc (.cells (cellsOf .u64 (l.map fun (x : Nat) => (x : Int))) 23)) (WrPost W lo (iv lo W.heap.size) g (xs ++ putS l)) := by
  have hB : Below W.heap.size W (W.alloc (.cells (cellsOf .u64 (l.map fun (x : Nat) => (x : Int))) 23)) := (Below.refl _ _).alloc (Nat.le_refl _) _
  refine (put_any l _ _ lo (iv lo W.heap.size) g xs (ht.below hB ht.two) hl2 (h.keep (Keep.of_below hB : Keep (fun _ => False) _ _) (fun _ _ => id)) ?_ (off_new h.ge (Nat.le_refl _)) hr hb).mono (fun e w' hp => hp.pre hB h.ge h.hB)
  refine ⟨_, _, rfl, (fun h => by cases h), fun ad had i hi => ?_⟩
  cases had
  refine ⟨rfl, by simp, ?_⟩
  rw [addr_plain', Nat.zero_add, cell_of_row _ _ _ _ _ _ (heap_alloc_new _ _), get_cellsOf _ _ _ (by simpa using hi)]
  simp [nth, List.getD, hi]

theorem RdPost.none {W w' : World} {B g : Nat} {F : Nat → Prop} {bs : List Int} {z : Value} {P : Value → World → Prop} {r : Option (List Int)} {e : Ending} (h : RdPost W B F g bs z P r e w') (hr : r = none) : Keep F W w' ∧ W.heap.size ≤ w'.heap.size ∧ e = .returned z ∧ Rd w' B F g bs true := by
  subst hr
  exact ⟨h.1, h.1.size, h.2⟩
theorem RdPost.some {W w' : World} {B g : Nat} {F : Nat → Prop} {bs rest : List Int} {z : Value} {P : Value → World → Prop} {r : Option (List Int)} {e : Ending} (h : RdPost W B F g bs z P r e w') (hr : r = some rest) : Keep F W w' ∧ W.heap.size ≤ w'.heap.size ∧ ∃ f, e = .returned f ∧ P f w' ∧ Rd w' B F g rest false := by
  subst hr
  exact ⟨h.1, h.1.size, h.2⟩

theorem Row.str {w : World} {B : Nat} {v : Value} {xs : List Int} (h : Row w B v xs) : (convert 22 9 v).run Tryd.prog w = .ok (.string (strOfNums xs)) w :=
  h.slAt.string (P := Tryd.prog) 22 5 9 Tryd.underlying22 Tryd.underlying5 Tryd.underlying9
end Go.Proofs.YtaomigfmjglggaaDoor
