/- The law's own functions hex and row. -/
import Derived.Test.YtjfidelegmjnkaaProg
import Derived.Test.YtjfidelegmjnkaaMacAwake
import Derived.Test.YtjfidelegmjnkaaDeriveR
import Derived.Laws.BitsLemmas
import Derived.BigQuiet
namespace Go.Proofs.Ytjfidelegmjnkaa
open Go.RowKit

/-- The row of a byte, its first k laid. -/
def rowTo (x : Int) (n k : Nat) : List Int := List.replicate k x ++ List.replicate (n - k) 0
theorem length_rowTo (x : Int) (n k : Nat) (h : k ≤ n) : (rowTo x n k).length = n := by simp [rowTo]; omega
theorem rowTo_succ (x : Int) (n k : Nat) (h : k < n) : rowTo x n (k + 1) = (rowTo x n k).set k x := by
  rw [rowTo, rowTo, List.set_append_right _ _ (by simp), List.length_replicate, Nat.sub_self, show n - k = (n - (k + 1)) + 1 from by omega, List.replicate_succ', List.replicate_succ (n := n - (k + 1)), List.set_cons_zero, List.append_assoc]
  rfl

theorem made_zeros (n : Nat) : madeCells (Value.int .u8 0).cells n = cellsOf .u8 (List.replicate n 0) := by
  have h : ∀ x : Nat, (#[Value.int .u8 0] : Array Value)[x % (#[Value.int .u8 0] : Array Value).size]! = Value.int .u8 0 := fun x => by simp [Nat.mod_one]
  have e : (Value.int .u8 0).cells = #[Value.int .u8 0] := rfl
  rw [madeCells, e]
  apply Array.ext'
  rw [toArray_cellsOf, List.map_replicate]
  simp only [Array.toList_map, h]
  rw [List.map_const', Array.toList_range, List.length_range]

set_option maxRecDepth 100000 in
set_option maxHeartbeats 1000000 in
theorem row_any (x : Int) (n : Nat) (w : World) (hn : n ≤ 1000) : Calls Try.prog 16 #[.int .u8 x, .int .i64 n] w (fun e w' => ∃ g, e = .returned (.slice (some ⟨g, 0, none⟩) n n) ∧ SlAt w' (.slice (some ⟨g, 0, none⟩) n n) (List.replicate n x) ∧ Below w.heap.size w w') := by
  obtain ⟨i0, hi, hz0, hz1, hz2⟩ := info_parts Try.info5
  have hmk : (Instr.makeSlice 22 (.int .i64 n) (.int .i64 n)).run Try.prog w = .ok (.slice (some ⟨w.heap.size, 0, none⟩) n n) (w.alloc (.cells (cellsOf .u8 (rowTo x n 0)) 5)) := by
    have h := run_make (P := Try.prog) w 22 5 i0 (.int .u8 0) Try.underlying22 hi hz0 .i64 .i64 n n (by omega) (by omega) (by rw [hz2]; omega) (by omega)
    rw [hz1, Int.toNat_natCast, Nat.mul_one, made_zeros, show List.replicate n (0 : Int) = rowTo x n 0 from rfl] at h
    exact h
  clear hi hz0 hz1 hz2
  go_enter Try.func16, Try.ntmps16
  go_wp2_with fail
  clear hmk
  go_loopw [6] (fun i wr => ∃ k : Nat, k ≤ n ∧ i = .int .i64 k ∧ Blk wr w.heap.size 5 .u8 (rowTo x n k) ∧ Below w.heap.size w wr)
    (fun i _ => n - (intOf i).toNat)
  case atStart => exact ⟨0, by omega, rfl, Blk.new w 5 .u8 (rowTo x n 0), (Below.refl _ _).alloc (Nat.le_refl _) _⟩
  case round =>
    obtain ⟨k, hk, rfl, hw, hB⟩ := hrel
    by_cases hlt : k < n
    · have hc := hw.cell k (by rw [length_rowTo x n k hk]; exact hlt)
      have hf := hw.free k
      have Hs := hide (hw.set k x)
      have HB := hide (hB.setCell (p := ⟨w.heap.size, k, none⟩) (Nat.le_refl _) (.int .u8 x))
      clear hw hB
      go_wp2_with fail
      go_roundw
      case rel => exact ⟨k + 1, by omega, by go_num, by rw [rowTo_succ x n k hlt]; exact Hs.out, HB.out⟩
      case measure => simp [intOf]; omega
    · obtain rfl : k = n := by omega
      have HW := hide (slAt_blkN hw (n := k) (length_rowTo x k k hk))
      have hh : rowTo x k k = List.replicate k x := by rw [rowTo]; simp
      rw [hh] at HW
      clear hw hh
      go_wp2_with fail
      go_ret
      exact ⟨_, rfl, HW.out, hB⟩

/-- A digit. -/
def digS : ByteArray := ⟨#[48, 49, 50, 51, 52, 53, 54, 55, 56, 57, 97, 98, 99, 100, 101, 102]⟩
def hexTo (X : List Int) : Nat → ByteArray
  | 0 => ⟨#[]⟩
  | k + 1 => hexTo X k ++ digS.extract (nth X k / 16).toNat ((nth X k / 16).toNat + 1) ++ digS.extract (nth X k % 16).toNat ((nth X k % 16).toNat + 1)

theorem below_drewN (w : World) : ∀ n, Below w.heap.size w (w.drewN n)
  | 0 => Below.refl _ _
  | n + 1 => (below_drewN w n).drew

theorem dig_size (q : Nat) : (digS.extract q (q + 1)).size ≤ 1 := by
  rw [ByteArray.size_extract]; omega
theorem hexTo_size (X : List Int) : ∀ k, (hexTo X k).size ≤ 2 * k
  | 0 => Nat.le_refl _
  | k + 1 => by
    have h := hexTo_size X k
    have h1 := dig_size (nth X k / 16).toNat
    have h2 := dig_size (nth X k % 16).toNat
    rw [hexTo, ByteArray.size_append, ByteArray.size_append]
    omega

theorem dig_slice (q : Int) (h0 : 0 ≤ q) (h1 : q < 16) (w : World) : (Instr.sliceAt 9 (.string ⟨#[48, 49, 50, 51, 52, 53, 54, 55, 56, 57, 97, 98, 99, 100, 101, 102]⟩) (some (.int .u8 q)) (some (.int .u8 (IntKind.u8.wrap (q + 1)))) none).run Try.prog w = .ok (.string (digS.extract q.toNat (q.toNat + 1))) w := by
  have hw : IntKind.u8.wrap (q + 1) = q + 1 := by rw [IntKind.wrap_u8]; omega
  have e : (q + 1).toNat = q.toNat + 1 := by omega
  have hs : (⟨#[48, 49, 50, 51, 52, 53, 54, 55, 56, 57, 97, 98, 99, 100, 101, 102]⟩ : ByteArray).size = 16 := rfl
  have e2 : ((q.toNat : Nat) : Int) = q := Int.toNat_of_nonneg h0
  rw [hw]
  simp [Instr.sliceAt, run_underlying Try.underlying9, Instr.slice, Instr.sliceBounds, run_sliceBound, hs, h0, (by omega : (0 : Int) ≤ q + 1), e2, (by omega : q + 1 ≤ 16), (by omega : q ≤ q + 1), e]
  rfl

set_option maxRecDepth 100000 in
set_option maxHeartbeats 1000000 in
theorem hex_any (X : List Int) (w : World) (hl : Hid (X.length = 32)) (hr : Hid (∀ i, i < 32 → 0 ≤ nth X i ∧ nth X i < 256)) : Calls Try.prog 15 #[.agg (cellsOf .u8 X)] w (fun e w' => e = .returned (.string (hexTo X 32)) ∧ Below w.heap.size w w') := by
  go_enter Try.func15, Try.ntmps15
  go_wp2_with fail
  go_loopw [3, 4] (fun s i wr => ∃ k : Nat, k ≤ 32 ∧ i = .int .i64 k ∧ s = .string (hexTo X k) ∧ Blk wr w.heap.size 25 .u8 X ∧ Below w.heap.size w wr)
    (fun _ i _ => 32 - (intOf i).toNat)
  case atStart => exact ⟨0, by omega, rfl, rfl, Blk.new w 25 .u8 X, (Below.refl _ _).alloc (Nat.le_refl _) _⟩
  case round =>
    obtain ⟨k, hk, rfl, rfl, hw, hB⟩ := hrel
    by_cases hlt : k < 32
    · have hc := hw.cell k (by rw [hl.out]; exact hlt)
      obtain ⟨h0, h1⟩ := hr.out k hlt
      obtain ⟨z, hz⟩ : ∃ z, z = nth X k := ⟨_, rfl⟩
      rw [← hz] at hc h0 h1
      have hand := u8_and15 z h0 h1
      have hq0 : 0 ≤ z / 16 := by omega
      have hq1 : z / 16 < 16 := by omega
      have hq2 : 0 ≤ z % 16 := by omega
      have hq3 : z % 16 < 16 := by omega
      have HX := hide (hz)
      have HW := hide hw
      have HB := hide hB
      obtain ⟨hx, hhx⟩ : ∃ s, s = hexTo X k := ⟨_, rfl⟩
      have HHX := hide hhx
      rw [← hhx]
      clear hw hB hhx hz
      have hd1 := dig_slice (z / 16) hq0 hq1
      have hd2 := dig_slice (z % 16) hq2 hq3
      have hs1 := dig_size (z / 16).toNat
      have hs2 := dig_size (z % 16).toNat
      have hs0 := hexTo_size X k
      rw [← HHX.out] at hs0
      have HNEXT : Hid (hexTo X (k + 1) = hx ++ digS.extract (z / 16).toNat ((z / 16).toNat + 1) ++ digS.extract (z % 16).toNat ((z % 16).toNat + 1)) := hide (by rw [hexTo, ← HHX.out, ← HX.out])
      generalize digS.extract (z / 16).toNat ((z / 16).toNat + 1) = d1 at hd1 hs1 HNEXT
      generalize digS.extract (z % 16).toNat ((z % 16).toNat + 1) = d2 at hd2 hs2 HNEXT
      have ha1 : ∀ w, (Op.stringOp .add hx d1).run Try.prog w = .ok (.string (hx ++ d1)) w := fun w => run_string_add_sum w hx d1 (by omega)
      have ha2 : ∀ w, (Op.stringOp .add (hx ++ d1) d2).run Try.prog w = .ok (.string (hx ++ d1 ++ d2)) w := fun w => run_string_add_sum w (hx ++ d1) d2 (by rw [ByteArray.size_append]; omega)
      clear hs0 hs1 hs2
      go_wp2_with fail
      go_quiet (fail)
      clear hd1 hd2 ha1 ha2 hand hc
      have hbn := below_drewN wr nq
      obtain ⟨wn, hwn⟩ : ∃ wn, wn = wr.drewN nq := ⟨_, rfl⟩
      rw [← hwn] at hbn ⊢
      clear hwn
      go_wp2_with fail
      go_roundw
      case rel => exact ⟨k + 1, by omega, by go_num, by rw [HNEXT.out], HW.out.below hbn HW.out.lt, HB.out.trans (hbn.mono HB.out.size)⟩
      case measure => simp [intOf]; omega
    · obtain rfl : k = 32 := by omega
      clear hw
      go_wp2_with fail
      go_ret
      exact ⟨rfl, hB⟩
end Go.Proofs.Ytjfidelegmjnkaa
