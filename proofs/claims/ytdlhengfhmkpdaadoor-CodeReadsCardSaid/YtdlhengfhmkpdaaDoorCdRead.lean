/- Package code: one byte, and four, cut from the front. -/
import Derived.Test.YtdlhengfhmkpdaaDoorCdCut
import Derived.Test.YtdlhengfhmkpdaaDoorCdTake
import Derived.Deep.RegionHeld3
import Derived.Deep.MidRow
namespace Go.Proofs.YtdlhengfhmkpdaaDoor
open Go.RowKit

theorem run_cut_hk {P : Program} {t e : TypeId} (k : IntKind) (hu : P.underlying t = some (.slice e)) (hs : (P.info? e).map (·.size) = some 1) (ao : Option Addr) (n cap m : Nat) (h0 : m ≤ cap) (w : World) :
    (Instr.sliceAt t (.slice ao n cap) none (some (.int k (m : Int))) none).run P w = .ok (.slice ao m cap) w := by
  have h1 : (0 : Int) ≤ (m : Int) ∧ (m : Int) ≤ (cap : Int) := by omega
  simp [Instr.sliceAt, Instr.slice, run_underlying hu, Instr.sliceBounds, run_sliceBound_if, run_sizeOf hs, h1]
  intro he
  cases ao with
  | none => rfl
  | some a => simp [Addr.add]
theorem run_cut_lk {P : Program} {t e : TypeId} (k : IntKind) (hu : P.underlying t = some (.slice e)) (hs : (P.info? e).map (·.size) = some 1) (ao : Option Addr) (n cap l : Nat) (h : l ≤ n) (w : World) :
    (Instr.sliceAt t (.slice ao n cap) (some (.int k (l : Int))) none none).run P w = .ok (sl ao l (n - l) cap) w := by
  have h3 : (0 : Int) ≤ (l : Int) ∧ (l : Int) ≤ (n : Int) := by omega
  simp [Instr.sliceAt, Instr.slice, run_underlying hu, Instr.sliceBounds, run_sliceBound_if, run_sizeOf hs, sl, h3]

theorem sl_ownO (ao : Option Addr) (l m c n : Nat) : ∀ k, (sl ao l m c).ownBlock = some k → (Value.slice ao n c).ownBlock = some k := by
  intro k h
  cases ao with
  | none => unfold sl at h; split at h <;> simp [Value.ownBlock] at h
  | some ad => exact sl_own' ad l m c n k h

/-- A slice's first cell. -/
theorem SlAt.cellK {w : World} {ao : Option Addr} {n c : Nat} {xs : List Int} (h : SlAt w (.slice ao n c) xs) {i : Nat} (hi : i < n) : ∃ ad, ao = some ad ∧ ad.spot = none ∧ w.cell? (ad.add i) = some (.int .u8 (nth xs i)) := by
  obtain ⟨ao', cap, hv, hn, _, ha⟩ := h
  injection hv with e1 e2 e3
  subst e1 e2
  cases hao : ao with
  | none => rw [(hn hao).1] at hi; simp at hi
  | some ad => exact ⟨ad, rfl, (ha ad hao i hi).1, (ha ad hao i hi).2.2⟩

theorem add_zero' (ad : Addr) (h : ad.spot = none) : ad.add 0 = ad := by
  obtain ⟨b, o, s⟩ := ad
  cases h
  rw [addr_plain', Nat.add_zero]

/-- One byte cut. -/
def cut8 (bs : List Int) : Option (List Int) := if bs.length = 0 then none else some (bs.drop 1)

set_option maxRecDepth 100000 in
theorem cutU8_any (sv : Value) (bs : List Int) (W : World) (hs : SlAt W sv bs) :
    Calls Tryd.prog 64 #[sv] W (CutPost W sv (fun f _ => f = .int .u8 (nth bs 0)) (cut8 bs)) := by
  obtain ⟨ao, cap, rfl⟩ := hs.len
  have HS := hide hs
  clear hs
  obtain ⟨n, hn⟩ : ∃ n, n = bs.length := ⟨_, rfl⟩
  have HN := hide hn
  rw [← hn] at HS ⊢
  clear hn
  by_cases h0 : n = 0
  · subst h0
    go_enter Tryd.func64, Tryd.ntmps64
    go_wp2_with fail
    (try simp only [Exit.inBlock, Exit.then]); refine bodyPost_ret (results_tmp3 rfl _ _ _) rfl ?_
    refine ⟨Below.refl _ _, ?_⟩
    rw [cut8, if_pos HN.out.symm]
    exact ⟨_, _, rfl⟩
  · have hn1 : 0 < n := by omega
    obtain ⟨ad, rfl, hsp, hc⟩ := HS.out.cellK hn1
    rw [add_zero' ad hsp] at hc
    have hcut := run_cut_lk (P := Tryd.prog) .i64 Tryd.underlying22 size5 (some ad) n cap 1 hn1
    have HSL := hide (HS.out.cut (lo := 1) (m := n - 1) (by omega))
    rw [show ((1 : Nat) : Int) = 1 from rfl] at hcut
    go_enter Tryd.func64, Tryd.ntmps64
    go_wp2_with fail
    go_quiet (fail)
    go_wp2_with fail
    (try simp only [Exit.inBlock, Exit.then]); refine bodyPost_ret (results_tmp3 rfl _ _ _) rfl ?_
    refine ⟨drewN_below _ _, ?_⟩
    rw [cut8, if_neg (by rw [← HN.out]; exact h0)]
    refine ⟨_, _, rfl, rfl, ?_, sl_ownO _ _ _ _ _⟩
    have := HSL.out.below (drewN_below W nq)
    rw [List.take_of_length_le (by have := HN.out; simp; omega)] at this
    exact this

/-- Four bytes, the least first, as far as k. -/
def u32V (bs : List Int) : Nat → Nat
  | 0 => 0
  | k + 1 => u32V bs k + (nth bs k).toNat * 2 ^ (8 * k)
def cut32 (bs : List Int) : Option (List Int) := if bs.length < 4 then none else some (bs.drop 4)

theorem u32V_lt (bs : List Int) (hr : ∀ x ∈ bs, 0 ≤ x ∧ x < 256) : ∀ k, u32V bs k < 2 ^ (8 * k)
  | 0 => by simp [u32V]
  | k + 1 => by
    have h1 := u32V_lt bs hr k
    have h2 := nth_range hr k
    rw [u32V, show 8 * (k + 1) = 8 * k + 8 by omega, Nat.pow_add]
    have h3 : (nth bs k).toNat * 2 ^ (8 * k) ≤ 255 * 2 ^ (8 * k) := Nat.mul_le_mul_right _ (by omega)
    omega

theorem u32_or (acc b k : Nat) (hk : k < 4) (ha : acc < 2 ^ (8 * k)) (hb : b < 256) : bits BinOp.or IntKind.u32 (acc : Int) (IntKind.u32.wrap ((b : Int) * 2 ^ (8 * k))) = ((acc + b * 2 ^ (8 * k) : Nat) : Int) := by
  have hp : b * 2 ^ (8 * k) < 4294967296 ∧ acc < 4294967296 := by
    have : k = 0 ∨ k = 1 ∨ k = 2 ∨ k = 3 := by omega
    rcases this with rfl | rfl | rfl | rfl <;> simp at * <;> omega
  have hw : IntKind.u32.wrap ((b : Int) * 2 ^ (8 * k)) = ((b * 2 ^ (8 * k) : Nat) : Int) := by
    rw [show (b : Int) * 2 ^ (8 * k) = ((b * 2 ^ (8 * k) : Nat) : Int) by push_cast; rfl]
    exact IntWalk.u32_in _ (by omega)
  rw [hw]
  have h := (bits_nat .u32 32 (by decide) wraps_u32 acc (b * 2 ^ (8 * k)) (by omega) (by omega)).2
  rw [h, Nat.or_comm, Nat.mul_comm, ← Nat.two_pow_add_eq_or_of_lt ha, Nat.add_comm]

set_option maxRecDepth 100000 in
set_option maxHeartbeats 1000000 in
theorem cutU32_any (sv : Value) (bs : List Int) (W : World) (ht : Tab W) (hs : SlAt W sv bs) (hr : ∀ x ∈ bs, 0 ≤ x ∧ x < 256) :
    Calls Tryd.prog 66 #[sv] W (CutPost W sv (fun f _ => f = .int .u32 (u32V bs 4 : Nat)) (cut32 bs)) := by
  obtain ⟨ao, cap, rfl⟩ := hs.len
  have HS := hide hs
  have HR := hide hr
  obtain ⟨⟨t, fr, htab⟩, _⟩ := ht
  have hal2 : Tryd.prog.arrayLen 88 = 4 := by kernel_rfl
  have c0 := (cell_of_row _ 0 0 _ t fr htab).trans (show _ = some (Value.int .i64 0) from rfl)
  have c1 := (cell_of_row _ 0 1 _ t fr htab).trans (show _ = some (Value.int .i64 8) from rfl)
  have c2 := (cell_of_row _ 0 2 _ t fr htab).trans (show _ = some (Value.int .i64 16) from rfl)
  have c3 := (cell_of_row _ 0 3 _ t fr htab).trans (show _ = some (Value.int .i64 24) from rfl)
  obtain ⟨n, hn⟩ : ∃ n, n = bs.length := ⟨_, rfl⟩
  have HN := hide hn
  rw [← hn] at HS ⊢
  clear hs hr htab hn
  by_cases h4 : n < 4
  · have h4i : (n : Int) < 4 := by omega
    go_enter Tryd.func66, Tryd.ntmps66
    go_wp2_with fail
    (try simp only [Exit.inBlock, Exit.then]); refine bodyPost_ret (results_tmp3 rfl _ _ _) rfl ?_
    refine ⟨Below.refl _ _, ?_⟩
    rw [cut32, if_pos (by rw [← HN.out]; exact h4)]
    exact ⟨_, _, rfl⟩
  · have h4i : ¬ (n : Int) < 4 := by omega
    have hle : n ≤ cap := HS.out.le.1
    go_enter Tryd.func66, Tryd.ntmps66
    go_wp2_with fail
    go_loopw [5, 12] (fun a i wr => ∃ k : Nat, k ≤ 4 ∧ i = .int .i64 k ∧ a = .int .u32 (u32V bs k : Nat) ∧ wr = W)
      (fun a i _ => 4 - (intOf i).toNat)
    case atStart => exact ⟨0, by omega, rfl, rfl, rfl⟩
    case round =>
      clear c0 c1 c2 c3
      obtain ⟨k, hk, rfl, rfl, rfl⟩ := hrel
      by_cases hlt : k < 4
      · have hix := run_index_cells (P := Tryd.prog) 88 3 4 .i64 .i64 Tryd.underlying88 Tryd.underlying3 (by kernel_rfl) places4 rfl k (by omega)
        rw [nth_places4 ⟨k, by omega⟩, arr4] at hix
        obtain ⟨ad, rfl, hsp, hcell⟩ := HS.out.cellK (i := k) (by omega)
        have hb := nth_range HR.out k
        obtain ⟨b, hbn⟩ : ∃ b : Nat, nth bs k = b := ⟨(nth bs k).toNat, by omega⟩
        rw [hbn] at hcell
        have hor := u32_or (u32V bs k) b k hlt (u32V_lt bs HR.out k) (by omega)
        have hwb : IntKind.u32.wrap (b : Int) = b := IntWalk.u32_in _ (by omega)
        have HV : Hid (u32V bs (k + 1) = u32V bs k + b * 2 ^ (8 * k)) := hide (by rw [u32V, hbn]; rfl)
        have hb2 : b < 256 := by omega
        have hkn : k < n := by omega
        generalize u32V bs k = acc at hor HV ⊢
        clear hbn hb
        go_wp2_with fail
        go_roundw
        case rel => exact ⟨k + 1, by omega, by go_num, (by rw [HV.out]; have h := hor; rw [IntKind.wrap_u32] at h; first | (simp [h]; done) | (simp only [h]; done) | (rw [h])), (by first | trivial | rfl | simp)⟩
        case measure => simp [intOf]; omega
      · obtain rfl : k = 4 := by omega
        have hcut := run_cut_lk (P := Tryd.prog) .i64 Tryd.underlying22 size5 ao n cap 4 (by omega)
        rw [show ((4 : Nat) : Int) = 4 from rfl] at hcut
        have HSL := hide (HS.out.cut (lo := 4) (m := n - 4) (by omega))
        obtain ⟨acc, hacc⟩ : ∃ acc, u32V bs 4 = acc := ⟨_, rfl⟩
        have HA := hide hacc
        rw [hacc]
        clear hacc
        go_wp2_with fail
        go_quiet (fail)
        go_wp2_with fail
        (try simp only [Exit.inBlock, Exit.then]); refine bodyPost_ret (results_tmp3 rfl _ _ _) rfl ?_
        refine ⟨drewN_below _ _, ?_⟩
        rw [cut32, if_neg (by rw [← HN.out]; exact h4)]
        refine ⟨_, _, rfl, (by rw [HA.out]; rfl), ?_, sl_ownO _ _ _ _ _⟩
        have := HSL.out.below (drewN_below wr nq)
        rw [List.take_of_length_le (by have := HN.out; simp; omega)] at this
        exact this
end Go.Proofs.YtdlhengfhmkpdaaDoor
