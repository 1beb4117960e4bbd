/- The law ShaKnown: its walk. -/
import Derived.Test.YtjimeicfdcmfhaaProg
import Derived.Test.YtjimeicfdcmfhaaKnown01
import Derived.Test.YtjimeicfdcmfhaaOfNil
import Derived.Test.YtjimeicfdcmfhaaAwake
import Derived.Test.YtjimeicfdcmfhaaShaOk
import Derived.Lib.SmallJoins
namespace Go.Proofs.Ytjimeicfdcmfhaa
open Go.RowKit

/-- The row of a byte, its first k laid. -/
def rowTo (x : Int) (n k : Nat) : List Int := List.replicate k x ++ List.replicate (n - k) 0
theorem length_rowTo (x : Int) (n k : Nat) (h : k ≤ n) : (rowTo x n k).length = n := by simp [rowTo]; omega
theorem rowTo_succ (x : Int) (n k : Nat) (h : k < n) : rowTo x n (k + 1) = (rowTo x n k).set k x := by
  rw [rowTo, rowTo, List.set_append_right _ _ (by simp), List.length_replicate, Nat.sub_self, show n - k = (n - (k + 1)) + 1 from by omega, List.replicate_succ', List.replicate_succ (n := n - (k + 1)), List.set_cons_zero, List.append_assoc]
  rfl

theorem made_zeros (n : Nat) : madeCells (Value.int .u8 0).cells n = cellsOf .u8 (List.replicate n 0) := by
  have h : ∀ x : Nat, (#[Value.int .u8 0] : Array Value)[x % (#[Value.int .u8 0] : Array Value).size]! = Value.int .u8 0 := fun x => by simp [Nat.mod_one]
  have e : (Value.int .u8 0).cells = #[Value.int .u8 0] := rfl
  rw [madeCells, e]
  apply Array.ext'
  rw [toArray_cellsOf, List.map_replicate]
  simp only [Array.toList_map, h]
  rw [List.map_const', Array.toList_range, List.length_range]

theorem slAt_row {W : World} {g n : Nat} {t : TypeId} {l : List Int} (h : Blk W g t .u8 l) (hl : l.length = n) : SlAt W (.slice (some ⟨g, 0, none⟩) n n) l := by
  refine ⟨_, n, by rw [hl], (fun h => by cases h), by omega, fun ad had i hi => ?_⟩
  cases had
  refine ⟨rfl, h.lt, ?_⟩
  rw [addr_plain', Nat.zero_add]
  exact h.cell i hi

theorem hex_known (X : List Int) (h : ByteArray) (hk : hexTo (sumS X) 32 = h) (w : World) : Calls Try.prog 6 #[.agg (cellsOf .u8 (sumS X))] w (fun e w' => e = .returned (.string h) ∧ Below w.heap.size w w') := by
  have := hex_any (sumS X) w (hide (by rw [sumS]; exact length_outS _)) (hide (fun i _ => nth_range (sumS_range X) i))
  rwa [hk] at this

theorem ShaOk.below {w w' : World} {g : Nat} {A : List Int} (h : ShaOk w g A) (hb : Below w.heap.size w w') : ShaOk w' g A := by
  obtain ⟨ap, rc, h1, h2⟩ := h
  exact ⟨ap, rc, (hb.block g (Array.getElem?_eq_some_iff.1 h1).1).trans h1, h2.below hb⟩

set_option maxRecDepth 100000 in
set_option maxHeartbeats 2000000 in
theorem known_walk' (xs : List Int) (q : Nat) (w : World) (HXL : Hid (xs.length = 1000000)) (HQ : Hid (q = 10000)) (HPIECE : Hid (∀ a, a + q ≤ 1000000 → (xs.drop a).take q = List.replicate q 97))
    (HEX4 : Hid (∀ W, Calls Try.prog 6 #[.agg (cellsOf .u8 (sumS xs))] W (fun e w' => e = .returned (.string ⟨#[99, 100, 99, 55, 54, 101, 53, 99, 57, 57, 49, 52, 102, 98, 57, 50, 56, 49, 97, 49, 99, 55, 101, 50, 56, 52, 100, 55, 51, 101, 54, 55, 102, 49, 56, 48, 57, 97, 52, 56, 97, 52, 57, 55, 50, 48, 48, 101, 48, 52, 54, 100, 51, 57, 99, 99, 99, 55, 49, 49, 50, 99, 100, 48]⟩) ∧ Below W.heap.size W w'))) :
    Calls Try.prog 3 #[] w (LawPost w) := by
  have kc := fun (w : World) (C : Array Value) (n c g : Nat) (hg : g = w.heap.size) => Joins.run_convert_bytes_const_at (P := Try.prog) w 24 5 C n c g hg Try.underlying24 Try.underlying5
  have hmk : ∀ W : World, (Instr.makeSlice 24 (.int .i64 10000) (.int .i64 10000)).run Try.prog W = .ok (.slice (some ⟨W.heap.size, 0, none⟩) q q) (W.alloc (.cells (cellsOf .u8 (rowTo 97 q 0)) 5)) := by
    obtain ⟨i0, hi, hz0, hz1, hz2⟩ := info_parts Try.info5
    intro W
    have hq := HQ.out
    have h := run_make (P := Try.prog) W 24 5 i0 (.int .u8 0) Try.underlying24 hi hz0 .i64 .i64 (q : Int) (q : Int) (by omega) (by omega) (by rw [hz2]; omega) (by omega)
    rw [hz1, Int.toNat_natCast, Nat.mul_one, made_zeros, show List.replicate q (0 : Int) = rowTo 97 q 0 from rfl] at h
    rw [show ((q : Nat) : Int) = 10000 from by omega] at h
    exact h
  go_enter Try.func3, Try.ntmps3
  go_wp2_with fail
  refine (new_any w).mono ?_
  rintro e w1 ⟨rfl, hB1⟩
  rw [show shaV firstS (.slice none 0 0) 0 = .agg (cellsOf .u32 firstS ++ #[.slice none 0 0, .int .u64 0]) from rfl]
  obtain ⟨R, hR⟩ : ∃ R : Array Value, R = cellsOf .u32 firstS ++ #[.slice none 0 0, .int .u64 0] := ⟨_, rfl⟩
  rw [← hR]
  have HR := hide hR
  have HRS : Hid (R.size = 10) := hide (by rw [hR]; exact shaC_size _ rfl _ _)
  have HRO : Hid (R.all (·.oneCell') = true) := hide (by rw [hR]; exact shaC_one _ _ _ _ _)
  clear hR
  go_wp2_with (first | (refine wpList_store_row rfl 27 (.tmp 1) (.tmp 5) rfl w1.heap.size R rfl rfl _ _ (heap_alloc_new _ _) (sz41 HRS.out) (szTen HRS.out _ _ _ _ _ _ _ _ _ _) HRO.out ?_))
  have hrow : ((w1.alloc (.cells #[.int .u32 0, .int .u32 0, .int .u32 0, .int .u32 0, .int .u32 0, .int .u32 0, .int .u32 0, .int .u32 0, .slice none 0 0, .int .u64 0] 27)).setRow w1.heap.size R).heap[w1.heap.size]? = some (.cells R 27 (0, 0)) := setRow_heap _ _ _ _ _ _ (heap_alloc_new _ _)
  obtain ⟨w2, hw2⟩ : ∃ w2, w2 = (w1.alloc (.cells #[.int .u32 0, .int .u32 0, .int .u32 0, .int .u32 0, .int .u32 0, .int .u32 0, .int .u32 0, .int .u32 0, .slice none 0 0, .int .u64 0] 27)).setRow w1.heap.size R := ⟨_, rfl⟩
  rw [← hw2] at hrow ⊢
  have HB2 : Hid (Below w.heap.size w w2) := hide (by rw [hw2]; exact below_setRow (hB1.alloc hB1.size _) hB1.size _)
  rw [HR.out] at hrow
  have HS : Hid (ShaBlk w2 w1.heap.size firstS (.slice none 0 0) 0) := hide hrow
  have hgw : w.heap.size ≤ w1.heap.size := hB1.size
  have HZ2 : Hid (w2.heap.size = w1.heap.size + 1) := hide (by rw [hw2, size_setRow]; simp)
  have hqb : q ≤ 10000 := Nat.le_of_eq HQ.out
  clear hw2 hrow HR HRS HRO hB1 hmk
  generalize w1.heap.size = gs at HS hgw HZ2 ⊢
  have HO : Hid (ShaOk w2 gs []) := hide ⟨none, 0, HS.out, ⟨none, 0, rfl, fun _ => ⟨rfl, rfl⟩, Nat.le_refl _, fun ad h => by cases h⟩⟩
  clear HS
  go_loopw [3] (fun i wr => ∃ k : Nat, k ≤ q ∧ i = .int .i64 k ∧ Blk wr (gs + 1) 5 .u8 (rowTo 97 q k) ∧ Below w2.heap.size w2 wr)
    (fun i _ => q - (intOf i).toNat)
  case atStart => exact ⟨0, by omega, rfl, by have := Blk.new w2 5 .u8 (rowTo 97 q 0); rwa [HZ2.out] at this, (Below.refl _ _).alloc (Nat.le_refl _) _⟩
  case round =>
    obtain ⟨k, hk, rfl, hw, hB⟩ := hrel
    by_cases hlt : k < q
    · have hc := hw.cell k (by rw [length_rowTo 97 q k hk]; exact hlt)
      have hf := hw.free k
      have Hs := hide (hw.set k 97)
      have HB := hide (hB.setCell (p := ⟨gs + 1, k, none⟩) (Nat.le_of_eq HZ2.out) (.int .u8 97))
      clear hw hB
      go_wp2_with fail
      go_roundw
      case rel => exact ⟨k + 1, by omega, by go_num, by rw [rowTo_succ 97 q k hlt]; exact Hs.out, HB.out⟩
      case measure => simp [intOf]; omega
    · have hkq : k = q := by omega
      have hh : rowTo 97 q k = List.replicate q 97 := by rw [rowTo, hkq, Nat.sub_self]; simp
      rw [hh] at hw
      have HB3 := hide (below_through hB HB2.out)
      have HO3 := hide (HO.out.below hB)
      have HKB := hide hw
      have HGL : Hid (gs + 1 < wr.heap.size) := hide hw.lt
      clear hw hB hh HB2 HO
      go_wp2_with fail
      clear hlt hkq hk
      obtain ⟨wm, hwm⟩ : ∃ wm, wm = wr := ⟨_, rfl⟩
      rw [← hwm] at HKB HGL HB3 HO3 ⊢
      clear hwm wr
      generalize (k : Int) = kx
      go_loopw [4] (fun i wr => ∃ j a : Nat, j ≤ 100 ∧ a = 10000 * j ∧ i = .int .i64 j ∧ ShaOk wr gs (xs.take a) ∧ Blk wr (gs + 1) 5 .u8 (List.replicate q 97) ∧ Below w.heap.size w wr)
        (fun i _ => 100 - (intOf i).toNat)
      case atStart => exact ⟨0, 0, by omega, by omega, rfl, HO3.out, HKB.out, HB3.out⟩
      case round =>
        obtain ⟨j, a, hj, ha, rfl, hso, hkb, hB⟩ := hrel
        have HA := hide ha
        by_cases hlt : j < 100
        · have hax : a + q ≤ 1000000 := by have := HQ.out; omega
          have hpl : ((xs.drop a).take q).length = q := by rw [HPIECE.out a hax, List.length_replicate]
          obtain ⟨h0, h1, h2, h3, h4, h5, h6, h7, ap, rc, hst, hrow, hsl⟩ := hso.take (by rw [HXL.out]; omega)
          have HST := hide hst
          have HROW := hide hrow
          have HW : Hid (Calls Try.prog 5 #[.agg #[.int .u32 h0, .int .u32 h1, .int .u32 h2, .int .u32 h3, .int .u32 h4, .int .u32 h5, .int .u32 h6, .int .u32 h7, .slice ap (a % 64) rc, .int .u64 a], .slice (some ⟨gs + 1, 0, none⟩) q q] wr (WritePost [h0, h1, h2, h3, h4, h5, h6, h7] (leftS (xs.take a) ++ (xs.drop a).take q) ((a + q : Nat) : Int) wr)) := hide (by
            have h := write_any [h0, h1, h2, h3, h4, h5, h6, h7] (leftS (xs.take a)) ((xs.drop a).take q) (.slice ap (a % 64) rc) (.slice (some ⟨gs + 1, 0, none⟩) q q) a wr rfl hsl (by rw [HPIECE.out a hax]; exact slAt_row hkb (List.length_replicate ..)) (by rw [hpl, length_leftS]; omega)
            rw [hpl, show IntKind.u64.wrap ((a : Int) + (q : Int)) = ((a + q : Nat) : Int) by rw [IntKind.wrap_u64]; omega] at h
            exact h)
          obtain ⟨r, hr⟩ : ∃ r, r = a % 64 := ⟨_, rfl⟩
          rw [← hr] at HROW HW
          have Hkb := hide hkb
          have HB := hide hB
          have hgd : gs < wr.heap.size := (Array.getElem?_eq_some_iff.1 hrow).1
          have HGD := hide hgd
          clear hst hrow hsl hso hkb hB hr hgd ha hpl HKB HB3 HO3 HGL
          go_wp2_with (first | (refine wpList_load_row rfl 27 (.tmp 1) rfl gs rfl _ _ (0, 0) _ HROW.out Try.underlying27 rfl (sz41 rfl) ?_))
          refine HW.out.mono ?_
          rintro e wB ⟨aq, rq, rfl, hown, hBX⟩
          have HROWB := hide ((hBX.block gs HGD.out).trans HROW.out)
          have HBB := hide (below_through hBX HB.out)
          have HbB := hide (blk_through hBX Hkb.out)
          have HOWN := hide hown
          clear hBX hown HW HROW HB Hkb
          obtain ⟨p, hp⟩ : ∃ p, p = (leftS (xs.take a) ++ (xs.drop a).take q).length % 64 := ⟨_, rfl⟩
          rw [← hp] at HOWN ⊢
          have HP := hide hp
          obtain ⟨tk, htk⟩ : ∃ tk, tk = stAt [h0, h1, h2, h3, h4, h5, h6, h7] (leftS (xs.take a) ++ (xs.drop a).take q) ((leftS (xs.take a) ++ (xs.drop a).take q).length / 64) := ⟨_, rfl⟩
          have htl : tk.length = 8 := by rw [htk]; exact length_stAt _ _ rfl _
          rw [← htk, show shaV tk (.slice aq p rq) ((a + q : Nat) : Int) = .agg (cellsOf .u32 tk ++ #[.slice aq p rq, .int .u64 ((a + q : Nat) : Int)]) from rfl]
          have HTK := hide htk
          obtain ⟨R2, hR2⟩ : ∃ R2 : Array Value, R2 = cellsOf .u32 tk ++ #[.slice aq p rq, .int .u64 ((a + q : Nat) : Int)] := ⟨_, rfl⟩
          rw [← hR2]
          have HRR := hide hR2
          have HR2S : Hid (R2.size = 10) := hide (by rw [hR2]; exact shaC_size _ htl _ _)
          have HR2O : Hid (R2.all (·.oneCell') = true) := hide (by rw [hR2]; exact shaC_one _ _ _ _ _)
          clear hR2 htk htl hp
          have HNX := hide (shaOk_next (by rw [HXL.out]; exact hax) HST.out HTK.out HP.out HOWN.out HRR.out HGD.out HROWB.out)
          have HBN := hide (below_setRow HBB.out hgw R2)
          have HbN := hide (HbB.out.rowOther gs R2 (by omega))
          clear HTK HP HOWN HRR
          go_wp2_with (first | (refine wpList_store_row rfl 27 (.tmp 1) (.tmp 22) rfl gs R2 rfl rfl _ _ HROWB.out (sz41 HR2S.out) (szTen HR2S.out _ _ _ _ _ _ _ _ _ _) HR2O.out ?_))
          go_roundw
          case rel => exact ⟨j + 1, a + q, by omega, by have := HQ.out; have := HA.out; omega, by go_num, HNX.out, HbN.out, HBN.out⟩
          case measure => simp [intOf]; omega
        · have haN : a = xs.length := by rw [HXL.out]; omega
          rw [haN, List.take_length] at hso
          have HSO := hide hso
          have HB4 := hide hB
          clear haN hso hB hkb HKB HB3 HO3 HGL ha HA
          go_wp2_with fail
          refine (of_nil wr).mono ?_
          rintro e w5 ⟨rfl, hBX⟩
          have HB5 := hide (below_through hBX HB4.out)
          have HSO5 := hide (HSO.out.below hBX)
          clear hBX HB4 HSO
          go_wp2_with fail
          refine (hex_known _ _ known1 _).mono ?_
          rintro e w6 ⟨rfl, hBX⟩
          have HB6 := hide (below_through hBX HB5.out)
          have HSO := hide (HSO5.out.below hBX)
          clear hBX HB5 HSO5
          go_wp2_with fail
          have HBa := hide ((HB6.out.alloc HB6.out.size (.cells (cellsOf .u8 [97, 98, 99]) 5 (3, 4))).alloc (by have := HB6.out.size; simp; omega) (.cells #[.slice (some ⟨w6.heap.size, 0, none⟩) 3 3] 24))
          have hBV : Below w6.heap.size w6 ((w6.alloc (.cells (cellsOf .u8 [97, 98, 99]) 5 (3, 4))).alloc (.cells #[.slice (some ⟨w6.heap.size, 0, none⟩) 3 3] 24)) := ((Below.refl _ _).alloc (Nat.le_refl _) _).alloc (by simp) _
          have hm := of_any [[97, 98, 99]] (w6.heap.size + 1) 0 1 ((w6.alloc (.cells (cellsOf .u8 [97, 98, 99]) 5 (3, 4))).alloc (.cells #[.slice (some ⟨w6.heap.size, 0, none⟩) 3 3] 24)) (parts_one ((cell_of_row _ _ 0 _ _ _ (heap_alloc2_new w6 (.cells (cellsOf .u8 [97, 98, 99]) 5 (3, 4)) (.cells #[.slice (some ⟨w6.heap.size, 0, none⟩) 3 3] 24))).trans rfl) (by simp) (slAt_lit (heap_alloc2_old w6 (.cells (cellsOf .u8 [97, 98, 99]) 5 (3, 4)) (.cells #[.slice (some ⟨w6.heap.size, 0, none⟩) 3 3] 24)) (by simp))) (by simp) (by simp) (by simp)
          rw [show ([[97, 98, 99]] : List (List Int)).flatten = [97, 98, 99] from by simp] at hm
          refine hm.mono ?_
          rintro e w7 ⟨rfl, hBX⟩
          have HBb := hide (below_through hBX HBa.out)
          have HSOb := hide (HSO.out.below (hBV.trans (hBX.mono hBV.size)))
          clear hBX hm HBa hBV HSO HB6
          go_wp2_with fail
          refine (hex_known _ _ known2 _).mono ?_
          rintro e w8 ⟨rfl, hBX⟩
          have HB8 := hide (below_through hBX HBb.out)
          have HSO := hide (HSOb.out.below hBX)
          clear hBX HBb HSOb
          go_wp2_with fail
          have HBa := hide ((HB8.out.alloc HB8.out.size (.cells (cellsOf .u8 [97, 98, 99, 100, 98, 99, 100, 101, 99, 100, 101, 102, 100, 101, 102, 103, 101, 102, 103, 104, 102, 103, 104, 105, 103, 104, 105, 106, 104, 105, 106, 107, 105, 106, 107, 108, 106, 107, 108, 109, 107, 108, 109, 110, 108, 109, 110, 111, 109, 110, 111, 112, 110, 111, 112, 113]) 5 (56, 57))).alloc (by have := HB8.out.size; simp; omega) (.cells #[.slice (some ⟨w8.heap.size, 0, none⟩) 56 56] 24))
          have hBV : Below w8.heap.size w8 ((w8.alloc (.cells (cellsOf .u8 [97, 98, 99, 100, 98, 99, 100, 101, 99, 100, 101, 102, 100, 101, 102, 103, 101, 102, 103, 104, 102, 103, 104, 105, 103, 104, 105, 106, 104, 105, 106, 107, 105, 106, 107, 108, 106, 107, 108, 109, 107, 108, 109, 110, 108, 109, 110, 111, 109, 110, 111, 112, 110, 111, 112, 113]) 5 (56, 57))).alloc (.cells #[.slice (some ⟨w8.heap.size, 0, none⟩) 56 56] 24)) := ((Below.refl _ _).alloc (Nat.le_refl _) _).alloc (by simp) _
          have hm := of_any [[97, 98, 99, 100, 98, 99, 100, 101, 99, 100, 101, 102, 100, 101, 102, 103, 101, 102, 103, 104, 102, 103, 104, 105, 103, 104, 105, 106, 104, 105, 106, 107, 105, 106, 107, 108, 106, 107, 108, 109, 107, 108, 109, 110, 108, 109, 110, 111, 109, 110, 111, 112, 110, 111, 112, 113]] (w8.heap.size + 1) 0 1 ((w8.alloc (.cells (cellsOf .u8 [97, 98, 99, 100, 98, 99, 100, 101, 99, 100, 101, 102, 100, 101, 102, 103, 101, 102, 103, 104, 102, 103, 104, 105, 103, 104, 105, 106, 104, 105, 106, 107, 105, 106, 107, 108, 106, 107, 108, 109, 107, 108, 109, 110, 108, 109, 110, 111, 109, 110, 111, 112, 110, 111, 112, 113]) 5 (56, 57))).alloc (.cells #[.slice (some ⟨w8.heap.size, 0, none⟩) 56 56] 24)) (parts_one ((cell_of_row _ _ 0 _ _ _ (heap_alloc2_new w8 (.cells (cellsOf .u8 [97, 98, 99, 100, 98, 99, 100, 101, 99, 100, 101, 102, 100, 101, 102, 103, 101, 102, 103, 104, 102, 103, 104, 105, 103, 104, 105, 106, 104, 105, 106, 107, 105, 106, 107, 108, 106, 107, 108, 109, 107, 108, 109, 110, 108, 109, 110, 111, 109, 110, 111, 112, 110, 111, 112, 113]) 5 (56, 57)) (.cells #[.slice (some ⟨w8.heap.size, 0, none⟩) 56 56] 24))).trans rfl) (by simp) (slAt_lit (heap_alloc2_old w8 (.cells (cellsOf .u8 [97, 98, 99, 100, 98, 99, 100, 101, 99, 100, 101, 102, 100, 101, 102, 103, 101, 102, 103, 104, 102, 103, 104, 105, 103, 104, 105, 106, 104, 105, 106, 107, 105, 106, 107, 108, 106, 107, 108, 109, 107, 108, 109, 110, 108, 109, 110, 111, 109, 110, 111, 112, 110, 111, 112, 113]) 5 (56, 57)) (.cells #[.slice (some ⟨w8.heap.size, 0, none⟩) 56 56] 24)) (by simp))) (by simp) (by simp) (by simp)
          rw [show ([[97, 98, 99, 100, 98, 99, 100, 101, 99, 100, 101, 102, 100, 101, 102, 103, 101, 102, 103, 104, 102, 103, 104, 105, 103, 104, 105, 106, 104, 105, 106, 107, 105, 106, 107, 108, 106, 107, 108, 109, 107, 108, 109, 110, 108, 109, 110, 111, 109, 110, 111, 112, 110, 111, 112, 113]] : List (List Int)).flatten = [97, 98, 99, 100, 98, 99, 100, 101, 99, 100, 101, 102, 100, 101, 102, 103, 101, 102, 103, 104, 102, 103, 104, 105, 103, 104, 105, 106, 104, 105, 106, 107, 105, 106, 107, 108, 106, 107, 108, 109, 107, 108, 109, 110, 108, 109, 110, 111, 109, 110, 111, 112, 110, 111, 112, 113] from by simp] at hm
          refine hm.mono ?_
          rintro e w9 ⟨rfl, hBX⟩
          have HBb := hide (below_through hBX HBa.out)
          have HSOb := hide (HSO.out.below (hBV.trans (hBX.mono hBV.size)))
          clear hBX hm HBa hBV HSO HB8
          go_wp2_with fail
          refine (hex_known _ _ known3 _).mono ?_
          rintro e w10 ⟨rfl, hBX⟩
          have HB10 := hide (below_through hBX HBb.out)
          have HSO := hide (HSOb.out.below hBX)
          clear hBX HBb HSOb
          obtain ⟨ap, rc, hb, hsl⟩ := HSO.out
          have h8 := length_stAt firstS xs rfl (xs.length / 64)
          have hsum := sum_any (stAt firstS xs (xs.length / 64)) (leftS xs) (.slice ap (xs.length % 64) rc) xs.length w10 h8 hsl (by rw [length_leftS]; omega)
          rw [← stAt_more, show outS (stAt firstS (xs ++ endS xs.length) ((xs ++ endS xs.length).length / 64)) = sumS xs from rfl, shaV] at hsum
          unfold ShaBlk at hb
          obtain ⟨RL, hRL⟩ : ∃ RL, RL = cellsOf .u32 (stAt firstS xs (xs.length / 64)) ++ #[.slice ap (xs.length % 64) rc, .int .u64 xs.length] := ⟨_, rfl⟩
          have HRL : Hid (RL.size = 10) := hide (by rw [hRL]; exact shaC_size _ h8 _ _)
          rw [← hRL] at hb hsum
          have HLB := hide hb
          have HSUM := hide hsum
          clear h8 hsl hRL hb hsum HSO
          obtain ⟨sm, hsm⟩ : ∃ sm, sm = sumS xs := ⟨_, rfl⟩
          rw [← hsm] at HSUM HEX4
          clear hsm
          go_wp2_with (first | (refine wpList_load_row_w (by rfl) 27 (.tmp 1) rfl gs rfl _ _ (0, 0) _ HLB.out Try.underlying27 rfl (sz41 HRL.out) ?_))
          refine HSUM.out.mono ?_
          rintro e w11 ⟨rfl, hBX⟩
          have HB11 := hide (below_through hBX HB10.out)
          clear hBX HSUM HLB HRL HB10
          go_wp2_with fail
          refine (HEX4.out _).mono ?_
          rintro e w12 ⟨rfl, hBX⟩
          have HB12 := hide (below_through hBX HB11.out)
          clear hBX HEX4 HB11
          go_wp2_with fail
          refine (awake_any _).mono ?_
          rintro e w13 ⟨rfl, hBX⟩
          have HB13 := hide (below_through hBX HB12.out)
          clear hBX HB12
          go_wp2_with fail
          go_ret
          exact ⟨rfl, HB13.out⟩

theorem known_walk (w : World) : Calls Try.prog 3 #[] w (LawPost w) := by
  obtain ⟨N, hN⟩ : ∃ N : Nat, N = 1000000 := ⟨_, rfl⟩
  obtain ⟨q, hq⟩ : ∃ q : Nat, q = 10000 := ⟨_, rfl⟩
  obtain ⟨xs, hxs⟩ : ∃ xs : List Int, xs = List.replicate N 97 := ⟨_, rfl⟩
  have hsum := mil_sum N xs hN hxs
  have hl : xs.length = 1000000 := by rw [hxs, List.length_replicate, hN]
  refine known_walk' xs q w (hide hl) (hide hq) (hide (fun a ha => by rw [hxs, List.drop_replicate, List.take_replicate, Nat.min_eq_left (by omega)])) (hide (fun W => ?_))
  refine hex_known xs _ ?_ W
  rw [hsum]
  exact known4
end Go.Proofs.Ytjimeicfdcmfhaa
