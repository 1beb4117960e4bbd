/- Package code: a nil writer takes nothing. -/
import Derived.Test.YtjcdmffjpkckoaaDoorCdMeant
namespace Go.Proofs.YtjcdmffjpkckoaaDoor
open Go.RowKit

/-- Behind an operation of a nil writer. -/
def NilPost (W : World) (e : Ending) (w' : World) : Prop := e = .returned (.tuple #[]) ∧ Below W.heap.size W w'

set_option maxRecDepth 100000 in
theorem u8_nil (x : Int) (W : World) : Calls Tryd.prog 38 #[.pointer none, .int .u8 x] W (NilPost W) := by
  have HB0 : Hid (Below W.heap.size W (W.alloc (.cells #[.int .u8 x] 5))) := hide ((Below.refl _ _).alloc (Nat.le_refl _) _)
  go_enter Tryd.func38, Tryd.ntmps38
  go_wp2_with fail
  refine (add_nil _ _).mono ?_
  rintro e w' ⟨rfl, rfl⟩
  go_wp2_with fail
  first | go_end0 | refine bodyPost_ret (results_none rfl _ _ _) rfl ?_
  exact ⟨rfl, HB0.out⟩

set_option maxRecDepth 100000 in
theorem raw_nil (sv : Value) (W : World) : Calls Tryd.prog 42 #[.pointer none, sv] W (NilPost W) := by
  go_enter Tryd.func42, Tryd.ntmps42
  go_wp2_with fail
  refine (add_nil _ _).mono ?_
  rintro e w' ⟨rfl, rfl⟩
  go_wp2_with fail
  first | go_end0 | refine bodyPost_ret (results_none rfl _ _ _) rfl ?_
  exact ⟨rfl, Below.refl _ _⟩

set_option maxRecDepth 100000 in
set_option maxHeartbeats 1000000 in
theorem u32_nil (x : Nat) (W : World) (ht : Tab W) : Calls Tryd.prog 39 #[.pointer none, .int .u32 x] W (NilPost W) := by
  have hal : Tryd.prog.arrayLen 92 = 4 := by kernel_rfl
  have hal2 : Tryd.prog.arrayLen 79 = 4 := by kernel_rfl
  have h2 := ht.two
  have hB0 : Below W.heap.size W (W.alloc (.cells (cellsOf .u8 zeros4) 92)) := (Below.refl _ _).alloc (Nat.le_refl _) _
  obtain ⟨⟨t, fr, htab⟩, _⟩ := ht.below hB0 h2
  have c0 := (cell_of_row _ 0 0 _ t fr htab).trans (show _ = some (Value.int .i64 0) from rfl)
  have c1 := (cell_of_row _ 0 1 _ t fr htab).trans (show _ = some (Value.int .i64 8) from rfl)
  have c2 := (cell_of_row _ 0 2 _ t fr htab).trans (show _ = some (Value.int .i64 16) from rfl)
  have c3 := (cell_of_row _ 0 3 _ t fr htab).trans (show _ = some (Value.int .i64 24) from rfl)
  clear ht
  go_enter Tryd.func39, Tryd.ntmps39
  go_wp2_with (with_reducible refine wpList_alloc_row rfl 92 rfl (cellsOf .u8 zeros4) zero4 ?_)
  go_loopw [8] (fun i wr => ∃ k : Nat, k ≤ 4 ∧ i = .int .i64 k ∧ Blk wr W.heap.size 92 .u8 (buf4 x k) ∧ Below W.heap.size W wr)
    (fun i _ => 4 - (intOf i).toNat)
  case atStart => exact ⟨0, by omega, rfl, Blk.new W 92 .u8 zeros4, hB0⟩
  case round =>
    clear c0 c1 c2 c3 htab
    obtain ⟨k, hk, rfl, hw, hB⟩ := hrel
    by_cases hlt : k < 4
    · have hix := run_index_cells (P := Tryd.prog) 79 3 4 .i64 .i64 Tryd.underlying79 Tryd.underlying3 (by kernel_rfl) places4 rfl k (by omega)
      rw [nth_places4 ⟨k, by omega⟩, arr4] at hix
      have hc := hw.cell k (by rw [length_buf4 x k (by omega)]; omega)
      have hf := hw.free k
      have hyc : (x : Int) / 2 ^ (8 * k) = ((x / 2 ^ (8 * k) : Nat) : Int) := by push_cast; rfl
      have hw' := hw.set k ((x : Int) / 2 ^ (8 * k) % 256)
      rw [hyc, mod256_cast, buf4_succ x k hlt, ← mod256_cast, ← hyc] at hw'
      have HB := hide (hB.setCell (p := ⟨W.heap.size, k, none⟩) (Nat.le_refl _) (.int .u8 ((x : Int) / 2 ^ (8 * k) % 256)))
      have HW := hide hw'
      clear hw' hw hB hyc
      go_wp2_with fail
      go_roundw
      case rel => exact ⟨k + 1, by omega, by go_num, HW.out, HB.out⟩
      case measure => simp [intOf]; omega
    · obtain rfl : k = 4 := by omega
      have HB := hide hB
      clear hw hB
      go_wp2_with fail
      refine (add_nil _ _).mono ?_
      rintro e w' ⟨rfl, rfl⟩
      go_wp2_with fail
      first | go_end0 | refine bodyPost_ret (results_none rfl _ _ _) rfl ?_
      exact ⟨rfl, HB.out⟩

set_option maxRecDepth 100000 in
set_option maxHeartbeats 1000000 in
theorem uint_nil (x : Nat) (hx : x < 18446744073709551616) (W : World) (ht : Tab W) : Calls Tryd.prog 40 #[.pointer none, .int .u64 x] W (NilPost W) := by
  have hal : Tryd.prog.arrayLen 73 = 10 := by kernel_rfl
  have hal2 : Tryd.prog.arrayLen 93 = 10 := by kernel_rfl
  have h2 := ht.two
  have hB0 : Below W.heap.size W (W.alloc (.cells (cellsOf .u8 zeros10) 73)) := (Below.refl _ _).alloc (Nat.le_refl _) _
  obtain ⟨_, ⟨t, fr, htab⟩⟩ := ht.below hB0 h2
  have c0 := (cell_of_row _ 1 0 _ t fr htab).trans (show _ = some (Value.int .i64 0) from rfl)
  have c1 := (cell_of_row _ 1 1 _ t fr htab).trans (show _ = some (Value.int .i64 7) from rfl)
  have c2 := (cell_of_row _ 1 2 _ t fr htab).trans (show _ = some (Value.int .i64 14) from rfl)
  have c3 := (cell_of_row _ 1 3 _ t fr htab).trans (show _ = some (Value.int .i64 21) from rfl)
  have c4 := (cell_of_row _ 1 4 _ t fr htab).trans (show _ = some (Value.int .i64 28) from rfl)
  have c5 := (cell_of_row _ 1 5 _ t fr htab).trans (show _ = some (Value.int .i64 35) from rfl)
  have c6 := (cell_of_row _ 1 6 _ t fr htab).trans (show _ = some (Value.int .i64 42) from rfl)
  have c7 := (cell_of_row _ 1 7 _ t fr htab).trans (show _ = some (Value.int .i64 49) from rfl)
  have c8 := (cell_of_row _ 1 8 _ t fr htab).trans (show _ = some (Value.int .i64 56) from rfl)
  have c9 := (cell_of_row _ 1 9 _ t fr htab).trans (show _ = some (Value.int .i64 63) from rfl)
  clear ht
  go_enter Tryd.func40, Tryd.ntmps40
  go_wp2_with (with_reducible refine wpList_alloc_row rfl 73 rfl (cellsOf .u8 zeros10) zero10 ?_)
  go_loopw [9] (fun i wr => ∃ k : Nat, k ≤ 9 ∧ i = .int .i64 k ∧ Blk wr W.heap.size 73 .u8 (bufS x k) ∧ Below W.heap.size W wr)
    (fun i _ => 10 - (intOf i).toNat)
  case atStart => exact ⟨0, by omega, rfl, Blk.new W 73 .u8 zeros10, hB0⟩
  case round =>
    obtain ⟨k, hk, rfl, hw, hB⟩ := hrel
    have hix := run_index_cells (P := Tryd.prog) 93 3 10 .i64 .i64 Tryd.underlying93 Tryd.underlying3 (by kernel_rfl) places10 rfl k (by omega)
    rw [nth_places10 ⟨k, by omega⟩, arr10] at hix
    clear c0 c1 c2 c3 c4 c5 c6 c7 c8 c9 htab
    have hc := hw.cell k (by rw [length_bufS x k (by omega)]; omega)
    have hf := hw.free k
    have hyc : (x : Int) / 2 ^ (7 * k) = ((x / 2 ^ (7 * k) : Nat) : Int) := by push_cast; rfl
    by_cases hlt : (x : Int) / 2 ^ (7 * k) < 128
    · have hB' := hB.setCell (p := ⟨W.heap.size, k, none⟩) (Nat.le_refl _) (.int .u8 ((x : Int) / 2 ^ (7 * k) % 256))
      have HB := hide hB'
      have hcut := run_cut_arr (P := Tryd.prog) Tryd.underlying73 size5 W.heap.size (k + 1) (by omega)
      rw [show ((k + 1 : Nat) : Int) = (k : Int) + 1 by omega] at hcut
      clear hB' hw hB hyc
      go_wp2_with fail
      refine (add_nil _ _).mono ?_
      rintro e w' ⟨rfl, rfl⟩
      go_wp2_with fail
      first | go_end0 | refine bodyPost_ret (results_none rfl _ _ _) rfl ?_
      exact ⟨rfl, HB.out⟩
    · have hy : 128 ≤ x / 2 ^ (7 * k) := by omega
      have hk9 : k < 9 := by
        rcases Nat.lt_or_ge k 9 with h | h
        · exact h
        · obtain rfl : k = 9 := by omega
          omega
      have hbv : bits BinOp.or IntKind.u8 ((x : Int) / 2 ^ (7 * k) % 256) 128 = ((x / 2 ^ (7 * k) % 128 + 128 : Nat) : Int) := by
        have := or128 ⟨x / 2 ^ (7 * k) % 256, by omega⟩
        rw [hyc, mod256_cast, this]
        simp only [Nat.mod_mod_of_dvd _ (show 128 ∣ 256 by decide)]
      have hw' := hw.set k (bits BinOp.or IntKind.u8 ((x : Int) / 2 ^ (7 * k) % 256) 128)
      rw [hbv, bufS_succ x k (by omega), ← hbv] at hw'
      have HB := hide (hB.setCell (p := ⟨W.heap.size, k, none⟩) (Nat.le_refl _) (.int .u8 (bits BinOp.or IntKind.u8 ((x : Int) / 2 ^ (7 * k) % 256) 128)))
      have HW := hide hw'
      clear hw' hw hB hyc hy hbv
      go_wp2_with fail
      go_roundw
      case rel => exact ⟨k + 1, by omega, by go_num, HW.out, HB.out⟩
      case measure => simp [intOf]; omega

set_option maxRecDepth 100000 in
set_option maxHeartbeats 1000000 in
theorem text_nil (s : ByteArray) (W : World) (ht : Tab W) (hm : s.size ≤ maxLen) : Calls Tryd.prog 41 #[.pointer none, .string s] W (NilPost W) := by
  have HU := hide (uint_nil s.size (by unfold maxLen at hm; omega) W ht)
  have hw : IntKind.u64.wrap (s.size : Int) = s.size := IntWalk.u64_in _ (by unfold maxLen at hm; omega)
  go_enter Tryd.func41, Tryd.ntmps41
  go_wp2_with fail
  refine HU.out.mono ?_
  rintro e w1 ⟨rfl, hB1⟩
  obtain ⟨c, w2, hrun, hrow, hB2', hs2⟩ := str_bytes w1 s hm
  have HB := hide (hB1.trans (hB2'.mono hB1.size))
  clear hrow hB1 hB2' HU hw hs2
  go_wp2_with fail
  refine (add_nil _ _).mono ?_
  rintro e w' ⟨rfl, rfl⟩
  go_wp2_with fail
  first | go_end0 | refine bodyPost_ret (results_none rfl _ _ _) rfl ?_
  exact ⟨rfl, HB.out⟩

set_option maxRecDepth 100000 in
set_option maxHeartbeats 1000000 in
theorem write_nil (f : Fld) (hf : f.ok) (W : World) (ht : Tab W) :
    Calls Tryd.prog 14 #[.pointer none, f.val] W (NilPost W) := by
  have HK := hide (kind_any f (W.alloc (.cells f.cells.toArray 32)))
  have hrow := heap_alloc_new W (.cells f.cells.toArray 32)
  have HB0 : Hid (Below W.heap.size W (W.alloc (.cells f.cells.toArray 32))) := hide ((Below.refl _ _).alloc (Nat.le_refl _) _)
  have HT := hide ht
  clear ht
  go_enter Tryd.func14, Tryd.ntmps14
  unfold Fld.val at *
  go_wp2_with fail
  refine HK.out.mono ?_
  rintro e w1 ⟨rfl, hBk⟩
  have hl1 : W.heap.size < (W.alloc (.cells f.cells.toArray 32)).heap.size := by simp
  have hrow1 : w1.heap[W.heap.size]? = some (.cells f.cells.toArray 32 (0, 0)) := (hBk.block _ hl1).trans hrow
  have c3 : w1.cell? ⟨W.heap.size, 3, none⟩ = some (.int .u64 (f.n : Nat)) := (cell_of_row w1 _ 3 _ _ _ hrow1).trans rfl
  have c4 : w1.cell? ⟨W.heap.size, 4, none⟩ = some (.string f.s) := (cell_of_row w1 _ 4 _ _ _ hrow1).trans rfl
  have hB1 : Below W.heap.size W w1 := HB0.out.trans (hBk.mono (by omega))
  have HB1 := hide hB1
  have HT1 := hide (HT.out.below hB1 HT.out.two)
  obtain ⟨hn, hsz, _, _⟩ := hf
  generalize f.kd = kd
  generalize f.n = n at c3 hn
  generalize f.s = s at c4 hsz
  clear hB1 hrow1 hl1 hBk HK hrow HB0
  by_cases h0 : kd = 0
  · have HA := hide (u8_nil ((n : Int) % 256) w1)
    subst h0
    go_wp2_with fail
    refine HA.out.mono ?_
    rintro e w' ⟨rfl, hB⟩
    have HQ := hide (HB1.out.trans (hB.mono HB1.out.size))
    clear hB
    go_wp2_with fail
    first | go_end0 | refine bodyPost_ret (results_none rfl _ _ _) rfl ?_
    exact ⟨rfl, HQ.out⟩
  by_cases h1 : kd = 1
  · have HA := hide (u32_nil (n % 4294967296) w1 HT1.out)
    rw [show ((n % 4294967296 : Nat) : Int) = (n : Int) % 4294967296 by omega] at HA
    subst h1
    go_wp2_with fail
    refine HA.out.mono ?_
    rintro e w' ⟨rfl, hB⟩
    have HQ := hide (HB1.out.trans (hB.mono HB1.out.size))
    clear hB
    go_wp2_with fail
    first | go_end0 | refine bodyPost_ret (results_none rfl _ _ _) rfl ?_
    exact ⟨rfl, HQ.out⟩
  by_cases h2 : kd = 2
  · have HA := hide (uint_nil n hn w1 HT1.out)
    subst h2
    go_wp2_with fail
    refine HA.out.mono ?_
    rintro e w' ⟨rfl, hB⟩
    have HQ := hide (HB1.out.trans (hB.mono HB1.out.size))
    clear hB
    go_wp2_with fail
    first | go_end0 | refine bodyPost_ret (results_none rfl _ _ _) rfl ?_
    exact ⟨rfl, HQ.out⟩
  by_cases h3 : kd = 3
  · have HA := hide (text_nil s w1 HT1.out hsz)
    subst h3
    go_wp2_with fail
    refine HA.out.mono ?_
    rintro e w' ⟨rfl, hB⟩
    have HQ := hide (HB1.out.trans (hB.mono HB1.out.size))
    clear hB
    go_wp2_with fail
    first | go_end0 | refine bodyPost_ret (results_none rfl _ _ _) rfl ?_
    exact ⟨rfl, HQ.out⟩
  · obtain ⟨c, w2, hrun, hrow, hB2', hs2⟩ := str_bytes w1 s hsz
    have HA := hide (raw_nil (.slice (some ⟨w1.heap.size, 0, none⟩) s.size c) w2)
    have HB2 := hide (HB1.out.trans (hB2'.mono HB1.out.size))
    clear hrow hB2' hs2 HB1
    have HB1 := HB2
    go_wp2_with fail
    refine HA.out.mono ?_
    rintro e w' ⟨rfl, hB⟩
    have HQ := hide (HB1.out.trans (hB.mono HB1.out.size))
    clear hB
    go_wp2_with fail
    first | go_end0 | refine bodyPost_ret (results_none rfl _ _ _) rfl ?_
    exact ⟨rfl, HQ.out⟩
end Go.Proofs.YtjcdmffjpkckoaaDoor
