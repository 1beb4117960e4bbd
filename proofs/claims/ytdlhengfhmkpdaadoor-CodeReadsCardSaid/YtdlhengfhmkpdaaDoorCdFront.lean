/- The document's reader: Wide, front. -/
import Derived.Test.YtdlhengfhmkpdaaDoorCdRefR
import Derived.Deep.RegionHeld3
import Derived.Deep.MidRow
namespace Go.Proofs.YtdlhengfhmkpdaaDoor
open Go.RowKit

theorem u64_or8 (acc b k : Nat) (hk : k < 4) (ha : acc < 2 ^ (8 * k)) (hb : b < 256) : bits BinOp.or IntKind.u64 (acc : Int) (IntKind.u64.wrap ((b : Int) * 2 ^ (8 * k))) = ((acc + b * 2 ^ (8 * k) : Nat) : Int) := by
  have hp : b * 2 ^ (8 * k) < 4294967296 ∧ acc < 4294967296 := by
    have : k = 0 ∨ k = 1 ∨ k = 2 ∨ k = 3 := by omega
    rcases this with rfl | rfl | rfl | rfl <;> simp at * <;> omega
  have hw : IntKind.u64.wrap ((b : Int) * 2 ^ (8 * k)) = ((b * 2 ^ (8 * k) : Nat) : Int) := by
    rw [show (b : Int) * 2 ^ (8 * k) = ((b * 2 ^ (8 * k) : Nat) : Int) by push_cast; rfl]
    exact IntWalk.u64_in _ (by omega)
  rw [hw]
  have h := (bits_nat .u64 64 (by decide) wraps_u64 acc (b * 2 ^ (8 * k)) (by omega) (by omega)).2
  rw [h, Nat.or_comm, Nat.mul_comm, ← Nat.two_pow_add_eq_or_of_lt ha, Nat.add_comm]

theorem u32V_take (bs : List Int) (n : Nat) : ∀ k, k ≤ n → u32V (bs.take n) k = u32V bs k
  | 0, _ => rfl
  | k + 1, h => by
    rw [u32V, u32V, u32V_take bs n k (by omega)]
    congr 3
    simp [nth, List.getD, List.getElem?_take, show k < n by omega]

set_option maxRecDepth 100000 in
set_option maxHeartbeats 1000000 in
theorem wideM_no (n : Int) (W : World) (B : Nat) (F : Nat → Prop) (g : Nat) (bs : List Int) (bad : Bool) (h : RdM W B F g bs bad) (hn : bad = true ∨ n < 0 ∨ (bs.length : Int) < n) :
    Calls Tryd.prog 16 #[.pointer (some ⟨g, 0, none⟩), .int .i64 n] W (fun e w' => e = .returned (.int .u64 0) ∧ Keep F W w' ∧ RdM w' B F g bs true) := by
  have HR := hide (rawM_no n W B F g bs bad h hn)
  clear h hn
  go_enter Tryd.func16, Tryd.ntmps16
  go_wp2_with fail
  refine HR.out.mono ?_
  rintro e w1 ⟨rfl, hk, hr⟩
  have HK := hide hk
  have HN := hide hr
  clear hk hr HR
  go_wp2_with fail
  go_loopw [6, 7] (fun a i wr => i = .int .i64 0 ∧ a = .int .u64 0 ∧ wr = w1) (fun _ i _ => 1 - (intOf i).toNat)
  case atStart => exact ⟨rfl, rfl, rfl⟩
  case round =>
    obtain ⟨rfl, rfl, rfl⟩ := hrel
    go_wp2_with fail
    go_ret
    exact ⟨rfl, HK.out, HN.out⟩

set_option maxRecDepth 100000 in
set_option maxHeartbeats 1000000 in
theorem wideM_go (n : Nat) (hn4 : n ≤ 4) (W : World) (B : Nat) (F : Nat → Prop) (g : Nat) (bs : List Int) (h : RdM W B F g bs false) (hn : n ≤ bs.length) (hb : bs.length ≤ 140737488355328) (hr : ∀ x ∈ bs, 0 ≤ x ∧ x < 256) :
    Calls Tryd.prog 16 #[.pointer (some ⟨g, 0, none⟩), .int .i64 n] W (fun e w' => e = .returned (.int .u64 (u32V bs n : Nat)) ∧ MPost W B F g (bs.drop n) false w') := by
  have HR := hide (rawM_go n W B F g bs h hn hb)
  have HRG : Hid (∀ x ∈ bs.take n, 0 ≤ x ∧ x < 256) := hide (fun x hx => hr x (List.mem_of_mem_take hx))
  have HV := tuck (u32V_take bs n n (Nat.le_refl _))
  have HLN : Tuck ((bs.take n).length = n) := tuck (by simp; omega)
  clear h hn hr hb
  obtain ⟨ys, hys⟩ : ∃ ys, bs.take n = ys := ⟨_, rfl⟩
  rw [hys] at HR HRG HV HLN
  rw [← HV.out]
  clear hys
  go_enter Tryd.func16, Tryd.ntmps16
  go_wp2_with fail
  refine HR.out.mono ?_
  rintro e w1 ⟨v, rfl, hs, hp⟩
  obtain ⟨ao, cap, hvv⟩ := hs.len
  rw [HLN.out] at hvv
  subst hvv
  have HS := hide hs
  have HP := hide hp
  clear hs hp HR
  go_wp2_with fail
  go_loopw [6, 7] (fun a i wr => ∃ k : Nat, k ≤ n ∧ i = .int .i64 k ∧ a = .int .u64 (u32V ys k : Nat) ∧ wr = w1) (fun _ i _ => n - (intOf i).toNat)
  case atStart => exact ⟨0, by omega, rfl, rfl, rfl⟩
  case round =>
    obtain ⟨k, hk, rfl, rfl, rfl⟩ := hrel
    by_cases hlt : k < n
    · obtain ⟨ad, rfl, hsp, hcell⟩ := HS.out.cellK (i := k) hlt
      have hb := nth_range HRG.out k
      obtain ⟨b, hbn⟩ : ∃ b : Nat, nth ys k = b := ⟨(nth ys k).toNat, by omega⟩
      rw [hbn] at hcell
      have hor := u64_or8 (u32V ys k) b k (by omega) (u32V_lt ys HRG.out k) (by omega)
      have hwb : IntKind.u64.wrap (b : Int) = b := IntWalk.u64_in _ (by omega)
      have hw8 : IntKind.i64.wrap (8 * (k : Int)) = 8 * (k : Int) := IntWalk.i64_in _ (by omega)
      have HVS : Tuck (u32V ys (k + 1) = u32V ys k + b * 2 ^ (8 * k)) := tuck (by rw [u32V, hbn]; rfl)
      have hb2 : b < 256 := by omega
      generalize u32V ys k = acc at hor HVS ⊢
      clear hbn hb
      go_wp2_with fail
      go_roundw
      case rel => exact ⟨k + 1, by omega, by go_num, (by rw [HVS.out]; have h := hor; rw [IntKind.wrap_u64] at h; first | (simp [h]; done) | (simp only [h]; done) | (rw [h])), (by first | trivial | rfl | simp)⟩
      case measure => simp [intOf]; omega
    · obtain rfl : k = n := by omega
      obtain ⟨acc, hacc⟩ : ∃ acc, u32V ys k = acc := ⟨_, rfl⟩
      have HAC := tuck hacc
      rw [hacc]
      clear hacc
      go_wp2_with fail
      go_ret
      rw [HAC.out]
      exact ⟨rfl, HP.out⟩

/-- The number that bytes say by their sevens of bits, the least first. -/
def valL : List Int → Nat
  | [] => 0
  | b :: r => (valL r * 128 + b.toNat % 128) % 18446744073709551616
theorem valL_lt (l : List Int) : valL l < 18446744073709551616 := by
  cases l with
  | nil => simp [valL]
  | cons b r => rw [valL]; omega
theorem valL_uintF : ∀ (n x : Nat), x < 18446744073709551616 → x < 128 ^ (n + 1) → valL (uintF n x) = x
  | 0, x, h, hx => by
    have : x < 128 := by simpa using hx
    simp [uintF, valL]
    omega
  | n + 1, x, h, hx => by
    rw [uintF]
    split
    · simp [valL]
      omega
    · rw [pow128] at hx
      rw [valL, valL_uintF n (x / 128) (by omega) (by omega)]
      have : (((x % 128 + 128 : Nat) : Int)).toNat % 128 = x % 128 := by omega
      rw [this]
      omega
theorem valL_uintS (x : Nat) (h : x < 18446744073709551616) : valL (uintS x) = x := valL_uintF 9 x h (Nat.lt_of_lt_of_le h p10)

/-- What front answers. -/
def frontS (bs : List Int) : Nat × Nat := match cutUS bs with
  | none => (0, 0)
  | some y => (y.1, bs.length - y.2.length)

theorem front_hit (bs : List Int) (n : Nat) (_hn : n ≤ bs.length) (h : uintS (valL (bs.take n)) = bs.take n) : frontS bs = (valL (bs.take n), n) := by
  have e : bs = uintS (valL (bs.take n)) ++ bs.drop n := by rw [h, List.take_append_drop]
  have hc : cutUS bs = some (valL (bs.take n), bs.drop n) := by
    conv => lhs; rw [e]
    exact cutUS_uintS _ _ (valL_lt _)
  rw [frontS, hc]
  simp
  omega
theorem front_miss (bs : List Int) (hr : ∀ x ∈ bs, 0 ≤ x ∧ x < 256) (h : ∀ n, 1 ≤ n → n ≤ 10 → n ≤ bs.length → uintS (valL (bs.take n)) ≠ bs.take n) : frontS bs = (0, 0) := by
  rw [frontS]
  cases hc : cutUS bs with
  | none => rfl
  | some y =>
    obtain ⟨h1, h2⟩ := cutUS_form bs y.1 y.2 hr hc
    have hl := uintS_len y.1
    have hp := uintF_pos 9 y.1
    have ht : bs.take (uintS y.1).length = uintS y.1 := by rw [← h2, List.take_left' rfl]
    exact absurd (by rw [ht, valL_uintS _ h1]) (h (uintS y.1).length hp hl (by rw [← h2]; simp))
end Go.Proofs.YtdlhengfhmkpdaaDoor
