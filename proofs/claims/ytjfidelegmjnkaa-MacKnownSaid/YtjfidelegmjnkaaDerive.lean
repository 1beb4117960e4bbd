/- Package mac: eightBytes, Derive; the document's Derive. -/
import Derived.Test.YtjfidelegmjnkaaProg
import Derived.Test.YtjfidelegmjnkaaMacOf
import Derived.Test.YtjfidelegmjnkaaMacRef
import Derived.Test.YtjfidelegmjnkaaStrB
namespace Go.Proofs.Ytjfidelegmjnkaa
open Go.RowKit

/-- A number's k highest bytes. -/
def hiByte (n i : Nat) : Int := (n : Int) / 2 ^ (56 - 8 * i) % 256
def hiBytes (n k : Nat) : List Int := (List.range k).map (hiByte n)
theorem hiBytes_succ (n k : Nat) : hiBytes n (k + 1) = hiBytes n k ++ [hiByte n k] := by simp [hiBytes, List.range_succ]
theorem length_hiBytes (n k : Nat) : (hiBytes n k).length = k := by simp [hiBytes]
/-- The row of eight bytes, its first k laid. -/
def hiTo (n k : Nat) : List Int := hiBytes n k ++ List.replicate (8 - k) 0
theorem length_hiTo (n k : Nat) (h : k ≤ 8) : (hiTo n k).length = 8 := by rw [hiTo, List.length_append, length_hiBytes, List.length_replicate]; omega
theorem hiTo_succ (n k : Nat) (h : k < 8) : hiTo n (k + 1) = (hiTo n k).set k (hiByte n k) := by
  rw [hiTo, hiTo, List.set_append_right _ _ (by rw [length_hiBytes]; omega), length_hiBytes, Nat.sub_self, hiBytes_succ, show 8 - k = (8 - (k + 1)) + 1 from by omega, List.replicate_succ, List.set_cons_zero, List.append_assoc]
  rfl

set_option maxRecDepth 100000 in
set_option maxHeartbeats 300000 in
theorem eight_any (n : Nat) (w : World) (_hn : n < 18446744073709551616) : Calls Try.prog 18 #[.int .u64 n] w (fun e w' => ∃ g, e = .returned (.slice (some ⟨g, 0, none⟩) 8 8) ∧ SlAt w' (.slice (some ⟨g, 0, none⟩) 8 8) (hiBytes n 8) ∧ Below w.heap.size w w') := by
  obtain ⟨i0, hi, hz0, hz1, hz2⟩ := info_parts Try.info5
  have hmk : (Instr.makeSlice 22 (.int .i64 8) (.int .i64 8)).run Try.prog w = .ok (.slice (some ⟨w.heap.size, 0, none⟩) 8 8) (w.alloc (.cells (cellsOf .u8 (hiTo n 0)) 5)) := by
    have h := run_make (P := Try.prog) w 22 5 i0 (.int .u8 0) Try.underlying22 hi hz0 .i64 .i64 8 8 (by omega) (by omega) (by rw [hz2]; omega) (by omega)
    rw [hz1, show madeCells (Value.int .u8 0).cells (Int.toNat 8 * 1) = cellsOf .u8 (List.replicate 8 0) from by kernel_rfl, show List.replicate 8 (0 : Int) = hiTo n 0 from rfl] at h
    exact h
  clear hi hz0 hz1 hz2
  go_enter Try.func18, Try.ntmps18
  go_wp2_with fail
  clear hmk
  go_loopw [8] (fun i wr => ∃ k : Nat, k ≤ 8 ∧ i = .int .i64 k ∧ Blk wr w.heap.size 5 .u8 (hiTo n k) ∧ Below w.heap.size w wr)
    (fun i _ => 8 - (intOf i).toNat)
  case atStart => exact ⟨0, by omega, rfl, Blk.new w 5 .u8 (hiTo n 0), (Below.refl _ _).alloc (Nat.le_refl _) _⟩
  case round =>
    obtain ⟨k, hk, rfl, hw, hB⟩ := hrel
    by_cases hlt : k < 8
    · have hc := hw.cell k (by rw [length_hiTo n k hk]; exact hlt)
      have hf := hw.free k
      have Hs := hide (hw.set k (hiByte n k))
      have HB := hide (hB.setCell (p := ⟨w.heap.size, k, none⟩) (Nat.le_refl _) (.int .u8 (hiByte n k)))
      clear hw hB
      go_wp2_with fail
      go_roundw
      case rel => exact ⟨k + 1, by omega, by go_num, by rw [hiTo_succ n k hlt]; exact Hs.out, HB.out⟩
      case measure => simp [intOf]; omega
    · obtain rfl : k = 8 := by omega
      have HW := hide (slAt_blkN hw (n := 8) (length_hiTo n 8 hk))
      have hh : hiTo n 8 = hiBytes n 8 := by rw [hiTo]; simp
      rw [hh] at HW
      clear hw hh
      go_wp2_with fail
      go_ret
      exact ⟨_, rfl, HW.out, hB⟩

theorem parts_three {w : World} {t : TypeId} {s0 s1 s2 : Value} {x0 x1 x2 : List Int} (a0 : SlAt w s0 x0) (a1 : SlAt w s1 x1) (a2 : SlAt w s2 x2) : PartsAt (w.alloc (.cells #[s0, s1, s2] t)) w.heap.size 0 [x0, x1, x2] := by
  have hB : Below w.heap.size w (w.alloc (.cells #[s0, s1, s2] t)) := (Below.refl _ _).alloc (Nat.le_refl _) _
  refine ⟨by simp, fun i hi => ?_⟩
  have h : i = 0 ∨ i = 1 ∨ i = 2 := by simp at hi; omega
  rcases h with rfl | rfl | rfl
  · exact ⟨s0, (cell_of_row _ _ 0 _ _ _ (heap_alloc_new w _)).trans rfl, a0.below hB⟩
  · exact ⟨s1, (cell_of_row _ _ 1 _ _ _ (heap_alloc_new w _)).trans rfl, a1.below hB⟩
  · exact ⟨s2, (cell_of_row _ _ 2 _ _ _ (heap_alloc_new w _)).trans rfl, a2.below hB⟩

/-- What is derived. -/
def derS (k : List Int) (s : ByteArray) (n : Nat) : List Int := macS k (bytesOf s ++ 0 :: hiBytes n 8)
theorem length_derS (k : List Int) (s : ByteArray) (n : Nat) : (derS k s n).length = 32 := by rw [derS]; exact length_macS _ _

set_option maxRecDepth 100000 in
set_option maxHeartbeats 300000 in
theorem derive_any (k : List Int) (s : ByteArray) (n : Nat) (kv : Value) (w : World) (hn : n < 18446744073709551616) (hk : SlAt w kv k) (hl : k.length ≤ 10000) (hs : s.size ≤ 10000) :
    Calls Try.prog 10 #[kv, .string s, .int .u64 n] w (fun e w' => ∃ g, e = .returned (.slice (some ⟨g, 0, none⟩) 32 32) ∧ SlAt w' (.slice (some ⟨g, 0, none⟩) 32 32) (derS k s n) ∧ Below w.heap.size w w') := by
  have hal2 : Try.prog.arrayLen 25 = 32 := by kernel_rfl
  obtain ⟨ao, cap, rfl⟩ := hk.len
  obtain ⟨c1, w1, hcv, hst, hB1, hz1⟩ := str_bytes w s (by unfold maxLen; omega)
  have hK1 := hk.below hB1
  have HST := hide hst
  have HB1 := hide hB1
  have HK := hide hk
  obtain ⟨m, hm⟩ : ∃ m, m = s.size := ⟨_, rfl⟩
  have HM := hide hm
  rw [← hm] at hs hcv
  obtain ⟨R, hR⟩ : ∃ R, R = derS k s n := ⟨_, rfl⟩
  have HR : Hid (R.length = 32) := hide (by rw [hR]; exact length_derS _ _ _)
  rw [← hR]
  have HRE := hide hR
  clear hst hB1 hK1 hk hm hR hz1
  go_enter Try.func10, Try.ntmps10
  go_wp2_with fail
  refine (eight_any n _ hn).mono ?_
  rintro e w2 ⟨g2, rfl, hs2, hBX⟩
  have HB2 := hide (below_through hBX (HB1.out.alloc HB1.out.size _))
  have HZ2 := hide (blk_through hBX (Blk.new w1 5 .u8 [0]))
  have HS2 := hide hs2
  have HT2 : Hid (SlAt w2 (.slice (some ⟨w.heap.size, 0, none⟩) m c1) (bytesOf s)) := hide (by
    have := ((HST.out.alloc (.cells #[.int .u8 0] 5)).below hBX).slAt
    rwa [length_bytesOf, ← HM.out] at this)
  clear hBX hs2 HB1 HST hcv
  go_wp2_with fail
  have HP := hide (parts_three (t := 22) HT2.out (slAt_blkN (n := 1) HZ2.out rfl) HS2.out)
  have hof := macOf_any k (.slice ao k.length cap) [bytesOf s, [0], hiBytes n 8] w2.heap.size 0 3 _ (HK.out.below (HB2.out.alloc HB2.out.size (.cells #[.slice (some ⟨w.heap.size, 0, none⟩) m c1, .slice (some ⟨w1.heap.size, 0, none⟩) 1 1, .slice (some ⟨g2, 0, none⟩) 8 8] 22))) (by omega) HP.out (by simp) (by simp) (by simp [length_bytesOf, length_hiBytes]; have := HM.out; omega)
  rw [show [bytesOf s, [0], hiBytes n 8].flatten = bytesOf s ++ 0 :: hiBytes n 8 from by simp, show macS k (bytesOf s ++ 0 :: hiBytes n 8) = R from HRE.out.symm] at hof
  refine hof.mono ?_
  rintro e w3 ⟨rfl, hBX⟩
  have HB3 := hide (below_through hBX (HB2.out.alloc HB2.out.size _))
  clear hBX hof HP HB2 HZ2 HS2 HT2 HRE
  go_wp2_with (first
    | (with_reducible refine wpList_alloc_row rfl 25 rfl (cellsOf .u8 zeros32) zero36 ?_)
    | (with_reducible refine wpList_store_blk rfl 25 (.tmp 7) (.tmp 15) rfl w3.heap.size .u8 R rfl rfl _ _ (Blk.new w3 25 .u8 zeros32) (sz36 R HR.out) (zl32 HR.out) ?_))
  intro w4 hb4 hz4 hB4 hk4
  have HB4 := hide ((HB3.out.alloc HB3.out.size (.cells (cellsOf .u8 zeros32) 25)).trans (hB4 _ HB3.out.size))
  have HW4 := hide (slAt_blkN hb4 HR.out)
  clear hb4 hz4 hB4 hk4 HB3
  go_wp2_with fail
  go_ret
  exact ⟨_, rfl, HW4.out, HB4.out⟩

end Go.Proofs.Ytjfidelegmjnkaa
