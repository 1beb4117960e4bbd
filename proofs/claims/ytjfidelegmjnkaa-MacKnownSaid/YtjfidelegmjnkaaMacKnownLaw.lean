/- The law MacKnown: its walk. -/
import Derived.Test.YtjfidelegmjnkaaProg
import Derived.Test.YtjfidelegmjnkaaKnown
import Derived.Test.YtjfidelegmjnkaaFrame
import Derived.Lib.SmallJoins
namespace Go.Proofs.Ytjfidelegmjnkaa
open Go.RowKit


theorem hex_known (k m : List Int) (h : ByteArray) (hk : hexTo (macS k m) 32 = h) (w : World) : Calls Try.prog 15 #[.agg (cellsOf .u8 (macS k m))] w (fun e w' => e = .returned (.string h) ∧ Below w.heap.size w w') := by
  have := hex_any (macS k m) w (hide (length_macS _ _)) (hide (fun i _ => nth_range (macS_range k m) i))
  rwa [hk] at this

set_option maxRecDepth 100000 in
set_option maxHeartbeats 2000000 in
theorem mknown_walk (w : World) : Calls Try.prog 7 #[] w (LawPost w) := by
  have kc := fun (w : World) (C : Array Value) (n c g : Nat) (hg : g = w.heap.size) => Joins.run_convert_bytes_const_at (P := Try.prog) w 22 5 C n c g hg Try.underlying22 Try.underlying5
  go_enter Try.func7, Try.ntmps7
  go_wp2_with fail
  refine (row_any 11 20 w (by omega)).mono ?_
  rintro e w1 ⟨g1, rfl, hs1, hBX⟩
  have HB1 := hide hBX
  have HS1 := hide hs1
  clear hBX hs1
  go_wp2_with fail
  have HB1a := hide ((HB1.out.alloc HB1.out.size (.cells (cellsOf .u8 [72, 105, 32, 84, 104, 101, 114, 101]) 5 (8, 9))).alloc (by have := HB1.out.size; simp; omega) (.cells #[.slice (some ⟨w1.heap.size, 0, none⟩) 8 8] 22))
  have HBv1 : Hid (Below w1.heap.size w1 ((w1.alloc (.cells (cellsOf .u8 [72, 105, 32, 84, 104, 101, 114, 101]) 5 (8, 9))).alloc (.cells #[.slice (some ⟨w1.heap.size, 0, none⟩) 8 8] 22))) := hide (((Below.refl _ _).alloc (Nat.le_refl _) _).alloc (by simp) _)
  have hm := macOf_any (List.replicate 20 11) _ [[72, 105, 32, 84, 104, 101, 114, 101]] (w1.heap.size + 1) 0 1 ((w1.alloc (.cells (cellsOf .u8 [72, 105, 32, 84, 104, 101, 114, 101]) 5 (8, 9))).alloc (.cells #[.slice (some ⟨w1.heap.size, 0, none⟩) 8 8] 22)) (HS1.out.below HBv1.out) (by simp) (parts_one ((cell_of_row _ _ 0 _ _ _ (heap_alloc2_new w1 (.cells (cellsOf .u8 [72, 105, 32, 84, 104, 101, 114, 101]) 5 (8, 9)) (.cells #[.slice (some ⟨w1.heap.size, 0, none⟩) 8 8] 22))).trans rfl) (by simp) (slAt_lit (heap_alloc2_old w1 (.cells (cellsOf .u8 [72, 105, 32, 84, 104, 101, 114, 101]) 5 (8, 9)) (.cells #[.slice (some ⟨w1.heap.size, 0, none⟩) 8 8] 22)) (by simp))) (by simp) (by simp) (by simp)
  rw [show ([[72, 105, 32, 84, 104, 101, 114, 101]] : List (List Int)).flatten = [72, 105, 32, 84, 104, 101, 114, 101] from by simp] at hm
  refine hm.mono ?_
  rintro e w2 ⟨rfl, hBX⟩
  have HBb1 := hide (below_through hBX HB1a.out)
  clear hBX hm HBv1 HB1a
  go_wp2_with fail
  refine (hex_known _ _ _ known1 _).mono ?_
  rintro e w3 ⟨rfl, hBX⟩
  have HBc1 := hide (below_through hBX HBb1.out)
  clear hBX HBb1
  go_wp2_with fail
  have HB2a := hide (((HBc1.out.alloc HBc1.out.size (.cells (cellsOf .u8 [74, 101, 102, 101]) 5 (4, 5))).alloc (by have := HBc1.out.size; simp; omega) (.cells (cellsOf .u8 [119, 104, 97, 116, 32, 100, 111, 32, 121, 97, 32, 119, 97, 110, 116, 32, 102, 111, 114, 32, 110, 111, 116, 104, 105, 110, 103, 63]) 5 (28, 29))).alloc (by have := HBc1.out.size; simp; omega) (.cells #[.slice (some ⟨w3.heap.size + 1, 0, none⟩) 28 28] 22))
  have hm := macOf_any [74, 101, 102, 101] _ [[119, 104, 97, 116, 32, 100, 111, 32, 121, 97, 32, 119, 97, 110, 116, 32, 102, 111, 114, 32, 110, 111, 116, 104, 105, 110, 103, 63]] (w3.heap.size + 1 + 1) 0 1 (((w3.alloc (.cells (cellsOf .u8 [74, 101, 102, 101]) 5 (4, 5))).alloc (.cells (cellsOf .u8 [119, 104, 97, 116, 32, 100, 111, 32, 121, 97, 32, 119, 97, 110, 116, 32, 102, 111, 114, 32, 110, 111, 116, 104, 105, 110, 103, 63]) 5 (28, 29))).alloc (.cells #[.slice (some ⟨w3.heap.size + 1, 0, none⟩) 28 28] 22)) (slAt_lit (heap3_0 w3 (.cells (cellsOf .u8 [74, 101, 102, 101]) 5 (4, 5)) (.cells (cellsOf .u8 [119, 104, 97, 116, 32, 100, 111, 32, 121, 97, 32, 119, 97, 110, 116, 32, 102, 111, 114, 32, 110, 111, 116, 104, 105, 110, 103, 63]) 5 (28, 29)) (.cells #[.slice (some ⟨w3.heap.size + 1, 0, none⟩) 28 28] 22)) (Nat.le_refl _)) (by simp) (parts_one ((cell_of_row _ _ 0 _ _ _ (heap3_2 w3 (.cells (cellsOf .u8 [74, 101, 102, 101]) 5 (4, 5)) (.cells (cellsOf .u8 [119, 104, 97, 116, 32, 100, 111, 32, 121, 97, 32, 119, 97, 110, 116, 32, 102, 111, 114, 32, 110, 111, 116, 104, 105, 110, 103, 63]) 5 (28, 29)) (.cells #[.slice (some ⟨w3.heap.size + 1, 0, none⟩) 28 28] 22))).trans rfl) (by simp) (slAt_lit (heap3_1 w3 (.cells (cellsOf .u8 [74, 101, 102, 101]) 5 (4, 5)) (.cells (cellsOf .u8 [119, 104, 97, 116, 32, 100, 111, 32, 121, 97, 32, 119, 97, 110, 116, 32, 102, 111, 114, 32, 110, 111, 116, 104, 105, 110, 103, 63]) 5 (28, 29)) (.cells #[.slice (some ⟨w3.heap.size + 1, 0, none⟩) 28 28] 22)) (by simp))) (by simp) (by simp) (by simp)
  rw [show ([[119, 104, 97, 116, 32, 100, 111, 32, 121, 97, 32, 119, 97, 110, 116, 32, 102, 111, 114, 32, 110, 111, 116, 104, 105, 110, 103, 63]] : List (List Int)).flatten = [119, 104, 97, 116, 32, 100, 111, 32, 121, 97, 32, 119, 97, 110, 116, 32, 102, 111, 114, 32, 110, 111, 116, 104, 105, 110, 103, 63] from by simp] at hm
  refine hm.mono ?_
  rintro e w4 ⟨rfl, hBX⟩
  have HBb2 := hide (below_through hBX HB2a.out)
  clear hBX hm HB2a HBc1 HS1
  go_wp2_with fail
  refine (hex_known _ _ _ known2 _).mono ?_
  rintro e w5 ⟨rfl, hBX⟩
  have HBc2 := hide (below_through hBX HBb2.out)
  clear hBX HBb2
  go_wp2_with fail
  refine (row_any 170 20 w5 (by omega)).mono ?_
  rintro e w6 ⟨g3, rfl, hs3, hBX⟩
  have HB6 := hide (below_through hBX HBc2.out)
  have HS6 := hide hs3
  clear hBX hs3 HBc2
  go_wp2_with fail
  refine (row_any 221 50 w6 (by omega)).mono ?_
  rintro e w7 ⟨g4, rfl, hs4, hBX⟩
  have HB7 := hide (below_through hBX HB6.out)
  have HS7 := hide (HS6.out.below hBX)
  have HT7 := hide hs4
  clear hBX hs4 HB6 HS6
  go_wp2_with fail
  have HB7a := hide (HB7.out.alloc HB7.out.size (.cells #[.slice (some ⟨g4, 0, none⟩) 50 50] 22))
  have HBv := hide ((Below.refl w7.heap.size w7).alloc (Nat.le_refl _) (.cells #[.slice (some ⟨g4, 0, none⟩) 50 50] 22))
  have hm := macOf_any (List.replicate 20 170) _ [List.replicate 50 221] w7.heap.size 0 1 (w7.alloc (.cells #[.slice (some ⟨g4, 0, none⟩) 50 50] 22)) (HS7.out.below HBv.out) (by simp) (parts_one ((cell_of_row _ _ 0 _ _ _ (heap_alloc_new w7 (.cells #[.slice (some ⟨g4, 0, none⟩) 50 50] 22))).trans rfl) (by simp) (HT7.out.below HBv.out)) (by simp) (by simp) (by simp)
  rw [show ([List.replicate 50 221] : List (List Int)).flatten = List.replicate 50 221 from by simp] at hm
  refine hm.mono ?_
  rintro e w8 ⟨rfl, hBX⟩
  have HBb3 := hide (below_through hBX HB7a.out)
  clear hBX hm HB7a HBv HB7 HS7 HT7
  go_wp2_with fail
  refine (hex_known _ _ _ known3 _).mono ?_
  rintro e w9 ⟨rfl, hBX⟩
  have HBc3 := hide (below_through hBX HBb3.out)
  clear hBX HBb3
  go_wp2_with fail
  refine (row_any 170 131 w9 (by omega)).mono ?_
  rintro e w10 ⟨g5, rfl, hs5, hBX⟩
  have HB4 := hide (below_through hBX HBc3.out)
  have HS10 := hide hs5
  clear hBX hs5 HBc3
  go_wp2_with fail
  have HB4a := hide ((HB4.out.alloc HB4.out.size (.cells (cellsOf .u8 [84, 101, 115, 116, 32, 85, 115, 105, 110, 103, 32, 76, 97, 114, 103, 101, 114, 32, 84, 104, 97, 110, 32, 66, 108, 111, 99, 107, 45, 83, 105, 122, 101, 32, 75, 101, 121, 32, 45, 32, 72, 97, 115, 104, 32, 75, 101, 121, 32, 70, 105, 114, 115, 116]) 5 (54, 55))).alloc (by have := HB4.out.size; simp; omega) (.cells #[.slice (some ⟨w10.heap.size, 0, none⟩) 54 54] 22))
  have HBv4 : Hid (Below w10.heap.size w10 ((w10.alloc (.cells (cellsOf .u8 [84, 101, 115, 116, 32, 85, 115, 105, 110, 103, 32, 76, 97, 114, 103, 101, 114, 32, 84, 104, 97, 110, 32, 66, 108, 111, 99, 107, 45, 83, 105, 122, 101, 32, 75, 101, 121, 32, 45, 32, 72, 97, 115, 104, 32, 75, 101, 121, 32, 70, 105, 114, 115, 116]) 5 (54, 55))).alloc (.cells #[.slice (some ⟨w10.heap.size, 0, none⟩) 54 54] 22))) := hide (((Below.refl _ _).alloc (Nat.le_refl _) _).alloc (by simp) _)
  have hm := macOf_any (List.replicate 131 170) _ [[84, 101, 115, 116, 32, 85, 115, 105, 110, 103, 32, 76, 97, 114, 103, 101, 114, 32, 84, 104, 97, 110, 32, 66, 108, 111, 99, 107, 45, 83, 105, 122, 101, 32, 75, 101, 121, 32, 45, 32, 72, 97, 115, 104, 32, 75, 101, 121, 32, 70, 105, 114, 115, 116]] (w10.heap.size + 1) 0 1 ((w10.alloc (.cells (cellsOf .u8 [84, 101, 115, 116, 32, 85, 115, 105, 110, 103, 32, 76, 97, 114, 103, 101, 114, 32, 84, 104, 97, 110, 32, 66, 108, 111, 99, 107, 45, 83, 105, 122, 101, 32, 75, 101, 121, 32, 45, 32, 72, 97, 115, 104, 32, 75, 101, 121, 32, 70, 105, 114, 115, 116]) 5 (54, 55))).alloc (.cells #[.slice (some ⟨w10.heap.size, 0, none⟩) 54 54] 22)) (HS10.out.below HBv4.out) (by simp) (parts_one ((cell_of_row _ _ 0 _ _ _ (heap_alloc2_new w10 (.cells (cellsOf .u8 [84, 101, 115, 116, 32, 85, 115, 105, 110, 103, 32, 76, 97, 114, 103, 101, 114, 32, 84, 104, 97, 110, 32, 66, 108, 111, 99, 107, 45, 83, 105, 122, 101, 32, 75, 101, 121, 32, 45, 32, 72, 97, 115, 104, 32, 75, 101, 121, 32, 70, 105, 114, 115, 116]) 5 (54, 55)) (.cells #[.slice (some ⟨w10.heap.size, 0, none⟩) 54 54] 22))).trans rfl) (by simp) (slAt_lit (heap_alloc2_old w10 (.cells (cellsOf .u8 [84, 101, 115, 116, 32, 85, 115, 105, 110, 103, 32, 76, 97, 114, 103, 101, 114, 32, 84, 104, 97, 110, 32, 66, 108, 111, 99, 107, 45, 83, 105, 122, 101, 32, 75, 101, 121, 32, 45, 32, 72, 97, 115, 104, 32, 75, 101, 121, 32, 70, 105, 114, 115, 116]) 5 (54, 55)) (.cells #[.slice (some ⟨w10.heap.size, 0, none⟩) 54 54] 22)) (by simp))) (by simp) (by simp) (by simp)
  rw [show ([[84, 101, 115, 116, 32, 85, 115, 105, 110, 103, 32, 76, 97, 114, 103, 101, 114, 32, 84, 104, 97, 110, 32, 66, 108, 111, 99, 107, 45, 83, 105, 122, 101, 32, 75, 101, 121, 32, 45, 32, 72, 97, 115, 104, 32, 75, 101, 121, 32, 70, 105, 114, 115, 116]] : List (List Int)).flatten = [84, 101, 115, 116, 32, 85, 115, 105, 110, 103, 32, 76, 97, 114, 103, 101, 114, 32, 84, 104, 97, 110, 32, 66, 108, 111, 99, 107, 45, 83, 105, 122, 101, 32, 75, 101, 121, 32, 45, 32, 72, 97, 115, 104, 32, 75, 101, 121, 32, 70, 105, 114, 115, 116] from by simp] at hm
  refine hm.mono ?_
  rintro e w11 ⟨rfl, hBX⟩
  have HBb4 := hide (below_through hBX HB4a.out)
  clear hBX hm HBv4 HB4a
  go_wp2_with fail
  refine (hex_known _ _ _ known4 _).mono ?_
  rintro e w12 ⟨rfl, hBX⟩
  have HBc4 := hide (below_through hBX HBb4.out)
  clear hBX HBb4
  go_wp2_with fail
  clear kc
  refine (awake_any _).mono ?_
  rintro e w13 ⟨rfl, hBX⟩
  have HBd := hide (below_through hBX HBc4.out)
  clear hBX HBc4
  go_wp2_with fail
  go_ret
  exact ⟨rfl, HBd.out⟩
end Go.Proofs.Ytjfidelegmjnkaa
