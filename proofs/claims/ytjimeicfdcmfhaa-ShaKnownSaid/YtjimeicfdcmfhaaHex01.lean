/- The law's own function hex. -/
import Derived.Test.YtjimeicfdcmfhaaProg
import Derived.Test.YtjimeicfdcmfhaaGen
import Derived.Laws.BitsLemmas
import Derived.BigQuiet
namespace Go.Proofs.Ytjimeicfdcmfhaa
open Go.RowKit

/-- A digit. -/
def digS : ByteArray := ⟨#[48, 49, 50, 51, 52, 53, 54, 55, 56, 57, 97, 98, 99, 100, 101, 102]⟩
def hexTo (X : List Int) : Nat → ByteArray
  | 0 => ⟨#[]⟩
  | k + 1 => hexTo X k ++ digS.extract (nth X k / 16).toNat ((nth X k / 16).toNat + 1) ++ digS.extract (nth X k % 16).toNat ((nth X k % 16).toNat + 1)

theorem below_drewN (w : World) : ∀ n, Below w.heap.size w (w.drewN n)
  | 0 => Below.refl _ _
  | n + 1 => (below_drewN w n).drew

theorem dig_size (q : Nat) : (digS.extract q (q + 1)).size ≤ 1 := by
  rw [ByteArray.size_extract]; omega
theorem hexTo_size (X : List Int) : ∀ k, (hexTo X k).size ≤ 2 * k
  | 0 => Nat.le_refl _
  | k + 1 => by
    have h := hexTo_size X k
    have h1 := dig_size (nth X k / 16).toNat
    have h2 := dig_size (nth X k % 16).toNat
    rw [hexTo, ByteArray.size_append, ByteArray.size_append]
    omega

theorem dig_slice (q : Int) (h0 : 0 ≤ q) (h1 : q < 16) (w : World) : (Instr.sliceAt 9 (.string ⟨#[48, 49, 50, 51, 52, 53, 54, 55, 56, 57, 97, 98, 99, 100, 101, 102]⟩) (some (.int .u8 q)) (some (.int .u8 (IntKind.u8.wrap (q + 1)))) none).run Try.prog w = .ok (.string (digS.extract q.toNat (q.toNat + 1))) w := by
  have hw : IntKind.u8.wrap (q + 1) = q + 1 := by rw [IntKind.wrap_u8]; omega
  have e : (q + 1).toNat = q.toNat + 1 := by omega
  have hs : (⟨#[48, 49, 50, 51, 52, 53, 54, 55, 56, 57, 97, 98, 99, 100, 101, 102]⟩ : ByteArray).size = 16 := rfl
  have e2 : ((q.toNat : Nat) : Int) = q := Int.toNat_of_nonneg h0
  rw [hw]
  simp [Instr.sliceAt, run_underlying Try.underlying9, Instr.slice, Instr.sliceBounds, run_sliceBound, hs, h0, (by omega : (0 : Int) ≤ q + 1), e2, (by omega : q + 1 ≤ 16), (by omega : q ≤ q + 1), e]
  rfl

set_option maxRecDepth 100000 in
set_option maxHeartbeats 1000000 in
theorem hex_any (X : List Int) (w : World) (hl : Hid (X.length = 32)) (hr : Hid (∀ i, i < 32 → 0 ≤ nth X i ∧ nth X i < 256)) : Calls Try.prog 6 #[.agg (cellsOf .u8 X)] w (fun e w' => e = .returned (.string (hexTo X 32)) ∧ Below w.heap.size w w') := by
  go_enter Try.func6, Try.ntmps6
  go_wp2_with fail
  go_loopw [3, 4] (fun s i wr => ∃ k : Nat, k ≤ 32 ∧ i = .int .i64 k ∧ s = .string (hexTo X k) ∧ Blk wr w.heap.size 31 .u8 X ∧ Below w.heap.size w wr)
    (fun _ i _ => 32 - (intOf i).toNat)
  case atStart => exact ⟨0, by omega, rfl, rfl, Blk.new w 31 .u8 X, (Below.refl _ _).alloc (Nat.le_refl _) _⟩
  case round =>
    obtain ⟨k, hk, rfl, rfl, hw, hB⟩ := hrel
    by_cases hlt : k < 32
    · have hc := hw.cell k (by rw [hl.out]; exact hlt)
      obtain ⟨h0, h1⟩ := hr.out k hlt
      obtain ⟨z, hz⟩ : ∃ z, z = nth X k := ⟨_, rfl⟩
      rw [← hz] at hc h0 h1
      have hand := u8_and15 z h0 h1
      have hq0 : 0 ≤ z / 16 := by omega
      have hq1 : z / 16 < 16 := by omega
      have hq2 : 0 ≤ z % 16 := by omega
      have hq3 : z % 16 < 16 := by omega
      have HX := hide (hz)
      have HW := hide hw
      have HB := hide hB
      obtain ⟨hx, hhx⟩ : ∃ s, s = hexTo X k := ⟨_, rfl⟩
      have HHX := hide hhx
      rw [← hhx]
      clear hw hB hhx hz
      have hd1 := dig_slice (z / 16) hq0 hq1
      have hd2 := dig_slice (z % 16) hq2 hq3
      have hs1 := dig_size (z / 16).toNat
      have hs2 := dig_size (z % 16).toNat
      have hs0 := hexTo_size X k
      rw [← HHX.out] at hs0
      have HNEXT : Hid (hexTo X (k + 1) = hx ++ digS.extract (z / 16).toNat ((z / 16).toNat + 1) ++ digS.extract (z % 16).toNat ((z % 16).toNat + 1)) := hide (by rw [hexTo, ← HHX.out, ← HX.out])
      generalize digS.extract (z / 16).toNat ((z / 16).toNat + 1) = d1 at hd1 hs1 HNEXT
      generalize digS.extract (z % 16).toNat ((z % 16).toNat + 1) = d2 at hd2 hs2 HNEXT
      have ha1 : ∀ w, (Op.stringOp .add hx d1).run Try.prog w = .ok (.string (hx ++ d1)) w := fun w => run_string_add_sum w hx d1 (by omega)
      have ha2 : ∀ w, (Op.stringOp .add (hx ++ d1) d2).run Try.prog w = .ok (.string (hx ++ d1 ++ d2)) w := fun w => run_string_add_sum w (hx ++ d1) d2 (by rw [ByteArray.size_append]; omega)
      clear hs0 hs1 hs2
      go_wp2_with fail
      go_quiet (fail)
      clear hd1 hd2 ha1 ha2 hand hc
      have hbn := below_drewN wr nq
      obtain ⟨wn, hwn⟩ : ∃ wn, wn = wr.drewN nq := ⟨_, rfl⟩
      rw [← hwn] at hbn ⊢
      clear hwn
      go_wp2_with fail
      go_roundw
      case rel => exact ⟨k + 1, by omega, by go_num, by rw [HNEXT.out], HW.out.below hbn HW.out.lt, HB.out.trans (hbn.mono HB.out.size)⟩
      case measure => simp [intOf]; omega
    · obtain rfl : k = 32 := by omega
      clear hw
      go_wp2_with fail
      go_ret
      exact ⟨rfl, hB⟩
end Go.Proofs.Ytjimeicfdcmfhaa
