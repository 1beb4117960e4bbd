/- Package code: U32 and Text of a writer. -/
import Derived.Test.YtdlhengfhmkpdaaDoorCdUint
import Derived.Test.YtdlhengfhmkpdaaDoorCdU
namespace Go.Proofs.YtdlhengfhmkpdaaDoor
open Go.RowKit

/-- A number's four bytes. -/
def u32T (x : Nat) (i : Nat) : List Int := (List.range i).map fun j => ((x / 2 ^ (8 * j) % 256 : Nat) : Int)
def u32S (x : Nat) : List Int := u32T x 4
def buf4 (x i : Nat) : List Int := u32T x i ++ List.replicate (4 - i) 0
theorem length_u32T (x i : Nat) : (u32T x i).length = i := by simp [u32T]
theorem length_buf4 (x i : Nat) (h : i ≤ 4) : (buf4 x i).length = 4 := by simp [buf4, length_u32T]; omega
theorem buf4_succ (x i : Nat) (h : i < 4) : (buf4 x i).set i ((x / 2 ^ (8 * i) % 256 : Nat) : Int) = buf4 x (i + 1) := by
  rw [buf4, buf4, show 4 - i = (4 - (i + 1)) + 1 by omega, List.replicate_succ, List.set_append_right _ _ (by rw [length_u32T]; omega), length_u32T, Nat.sub_self]
  simp [u32T, List.range_succ]
def zeros4 : List Int := List.replicate 4 0
theorem zero4 (w : World) : (zeroValue 122).run Tryd.prog w = .ok (.agg (cellsOf .u8 zeros4)) w := by kernel_rfl
theorem arr4 : cellsOf .i64 places4 = #[.int .i64 0, .int .i64 8, .int .i64 16, .int .i64 24] := rfl

set_option maxRecDepth 100000 in
set_option maxHeartbeats 1000000 in
theorem u32_any (x : Nat) (W : World) (B : Nat) (F : Nat → Prop) (g : Nat) (xs : List Int) (ht : Tab W) (h : Wr W B F g xs) (hb : xs.length + 4 ≤ 140737488355328) :
    Calls Tryd.prog 56 #[.pointer (some ⟨g, 0, none⟩), .int .u32 x] W (WrPost W B F g (xs ++ u32S x)) := by
  have hal : Tryd.prog.arrayLen 122 = 4 := by kernel_rfl
  have hal2 : Tryd.prog.arrayLen 88 = 4 := by kernel_rfl
  have HH := hide h
  have h2 := ht.two
  have hB0 : Below W.heap.size W (W.alloc (.cells (cellsOf .u8 zeros4) 122)) := (Below.refl _ _).alloc (Nat.le_refl _) _
  obtain ⟨⟨t, fr, htab⟩, _⟩ := ht.below hB0 h2
  have c0 := (cell_of_row _ 0 0 _ t fr htab).trans (show _ = some (Value.int .i64 0) from rfl)
  have c1 := (cell_of_row _ 0 1 _ t fr htab).trans (show _ = some (Value.int .i64 8) from rfl)
  have c2 := (cell_of_row _ 0 2 _ t fr htab).trans (show _ = some (Value.int .i64 16) from rfl)
  have c3 := (cell_of_row _ 0 3 _ t fr htab).trans (show _ = some (Value.int .i64 24) from rfl)
  clear h ht
  go_enter Tryd.func56, Tryd.ntmps56
  go_wp2_with (with_reducible refine wpList_alloc_row rfl 122 rfl (cellsOf .u8 zeros4) zero4 ?_)
  go_loopw [8] (fun i wr => ∃ k : Nat, k ≤ 4 ∧ i = .int .i64 k ∧ Blk wr W.heap.size 122 .u8 (buf4 x k) ∧ Below W.heap.size W wr)
    (fun i _ => 4 - (intOf i).toNat)
  case atStart => exact ⟨0, by omega, rfl, Blk.new W 122 .u8 zeros4, hB0⟩
  case round =>
    clear c0 c1 c2 c3 htab
    obtain ⟨k, hk, rfl, hw, hB⟩ := hrel
    by_cases hlt : k < 4
    · have hix := run_index_cells (P := Tryd.prog) 88 3 4 .i64 .i64 Tryd.underlying88 Tryd.underlying3 (by kernel_rfl) places4 rfl k (by omega)
      rw [nth_places4 ⟨k, by omega⟩, arr4] at hix
      have hc := hw.cell k (by rw [length_buf4 x k (by omega)]; omega)
      have hf := hw.free k
      have hyc : (x : Int) / 2 ^ (8 * k) = ((x / 2 ^ (8 * k) : Nat) : Int) := by push_cast; rfl
      have hw' := hw.set k ((x : Int) / 2 ^ (8 * k) % 256)
      rw [hyc, mod256_cast, buf4_succ x k hlt, ← mod256_cast, ← hyc] at hw'
      have HB := hide (hB.setCell (p := ⟨W.heap.size, k, none⟩) (Nat.le_refl _) (.int .u8 ((x : Int) / 2 ^ (8 * k) % 256)))
      have HW := hide hw'
      clear hw' hw hB hyc
      go_wp2_with fail
      go_roundw
      case rel => exact ⟨k + 1, by omega, by go_num, HW.out, HB.out⟩
      case measure => simp [intOf]; omega
    · obtain rfl : k = 4 := by omega
      have hsl := slAt_lit (cap := 4) hw.row (by rw [length_buf4 x 4 (by omega)]; exact Nat.le_refl _)
      rw [length_buf4 x 4 (by omega), show buf4 x 4 = u32S x by simp [buf4, u32S]] at hsl
      have hul : (u32S x).length = 4 := length_u32T x 4
      have HA := hide (add_any _ B F g xs (HH.out.keep (Keep.of_below (F := fun _ => False) hB) (fun _ _ => id)) (.slice (some ⟨W.heap.size, 0, none⟩) 4 4) (u32S x) hsl (off_new HH.out.ge (Nat.le_refl _)) (by omega))
      have HB := hide hB
      clear hsl hul hw hB
      go_wp2_with fail
      refine HA.out.mono ?_
      intro e w' hp
      have hq := hp.pre HB.out HH.out.ge HH.out.hB
      obtain ⟨rfl, _⟩ := hp
      have HQ := hide hq
      clear hq
      go_wp2_with fail
      first | go_end0 | refine bodyPost_ret (results_none rfl _ _ _) rfl ?_
      exact HQ.out

theorem uintF_len (n x : Nat) : (uintF n x).length ≤ n + 1 := by
  induction n generalizing x with
  | zero => simp [uintF]
  | succ n ih =>
    rw [uintF]
    split
    · simp
    · simpa using ih _
theorem uintS_len (x : Nat) : (uintS x).length ≤ 10 := uintF_len 9 x

/-- A text's bytes, with its size ahead. -/
def textS (s : ByteArray) : List Int := uintS s.size ++ bytesOf s

set_option maxRecDepth 100000 in
set_option maxHeartbeats 1000000 in
theorem text_any (s : ByteArray) (W : World) (B : Nat) (F : Nat → Prop) (g : Nat) (xs : List Int) (ht : Tab W) (_ : 2 ≤ B) (h : Wr W B F g xs) (hb : xs.length + 10 + s.size ≤ 140737488355328) (hm : s.size ≤ maxLen) :
    Calls Tryd.prog 58 #[.pointer (some ⟨g, 0, none⟩), .string s] W (WrPost W B F g (xs ++ textS s)) := by
  have HH := hide h
  have hl := uintS_len s.size
  have HU := hide (uint_any s.size (by unfold maxLen at hm; omega) W B F g xs ht h (by omega))
  clear h
  have hw : IntKind.u64.wrap (s.size : Int) = s.size := IntWalk.u64_in _ (by unfold maxLen at hm; omega)
  go_enter Tryd.func58, Tryd.ntmps58
  go_wp2_with fail
  refine HU.out.mono ?_
  rintro e w1 ⟨rfl, hk1, hw1⟩
  obtain ⟨c, w2, hrun, hrow, hB2', hs2⟩ := str_bytes w1 s hm
  have hk2 : Keep (fun _ => False) w1 w2 := Keep.of_below hB2'
  have hadd := add_any w2 B _ g _ (hw1.keep hk2 (fun _ _ => id)) (.slice (some ⟨w1.heap.size, 0, none⟩) s.size c) (bytesOf s) (by have := hrow.slAt; rw [length_bytesOf] at this; exact this) (off_new hw1.ge (Nat.le_refl _)) (by rw [List.length_append, length_bytesOf]; omega)
  have HA := hide hadd
  have HB2' := hide hB2'
  have HK1 := hide hk1
  have HW1 := hide hw1
  clear hk1 hw1 hrow hadd hB2' hk2 HU hw
  go_wp2_with fail
  refine HA.out.mono ?_
  intro e w' hp
  have hq := WrPost.seq HK1.out (hp.pre HB2'.out HW1.out.ge HW1.out.hB) HH.out.ge HH.out.hB
  obtain ⟨rfl, _⟩ := hp
  have HQ := hide hq
  clear hq
  go_wp2_with fail
  first | go_end0 | refine bodyPost_ret (results_none rfl _ _ _) rfl ?_
  rw [textS, ← List.append_assoc]
  exact HQ.out
end Go.Proofs.YtdlhengfhmkpdaaDoor
