/- The document's answers for layer 3: Wide, Text; the law's own function meant. -/
import Derived.Test.YtjcdmffjpkckoaaDoorCdRef
import Derived.Laws.MakeOwn
namespace Go.Proofs.YtjcdmffjpkckoaaDoor
open Go.RowKit

/-- A number of so many bytes. -/
def wideS (x n : Nat) : List Int := (List.range n).map fun j => ((x / 2 ^ (8 * j) % 256 : Nat) : Int)
theorem length_wideS (x n : Nat) : (wideS x n).length = n := by simp [wideS]
def wideZ (x n k : Nat) : List Int := wideS x k ++ List.replicate (n - k) 0
theorem length_wideZ (x n k : Nat) (h : k ≤ n) : (wideZ x n k).length = n := by simp [wideZ, length_wideS]; omega
theorem wideZ_succ (x n k : Nat) (h : k < n) : (wideZ x n k).set k ((x / 2 ^ (8 * k) % 256 : Nat) : Int) = wideZ x n (k + 1) := by
  rw [wideZ, wideZ, show n - k = (n - (k + 1)) + 1 by omega, List.replicate_succ, List.set_append_right _ _ (by rw [length_wideS]; omega), length_wideS, Nat.sub_self]
  simp [wideS, List.range_succ]
theorem wide_four (x : Nat) : wideS x 4 = u32S (x % 4294967296) := by
  simp [wideS, u32S, u32T, List.range_succ]
  omega

set_option maxRecDepth 100000 in
set_option maxHeartbeats 1000000 in
theorem wideR_any (x n : Nat) (hx : x < 18446744073709551616) (hn : n ≤ 8) (w : World) :
    Calls Tryd.prog 43 #[.int .u64 x, .int .i64 n] w (fun e w' => ∃ v, e = .returned v ∧ SlAt w' v (wideS x n) ∧ Below w.heap.size w w') := by
  obtain ⟨i0, hi, hz0, hz1, hz2⟩ := info_parts Tryd.info5
  have hmk : ∀ W : World, (Instr.makeSlice 28 (.int .i64 (n : Int)) (.int .i64 (n : Int))).run Tryd.prog W = .ok (.slice (some ⟨W.heap.size, 0, none⟩) n n) (W.alloc (.cells (cellsOf .u8 (wideZ x n 0)) 5)) := fun W => by
    have h := run_make (P := Tryd.prog) W 28 5 i0 (.int .u8 0) Tryd.underlying28 hi hz0 .i64 .i64 n n (by omega) (by omega) (by rw [hz2]; omega) (by omega)
    rw [h]
    have e : madeCells (Value.cells (.int .u8 0)) ((n : Int).toNat * i0.size) = cellsOf .u8 (wideZ x n 0) := by
      apply Array.toList_inj.1
      rw [hz1, Nat.mul_one, Int.toNat_natCast, toArray_cellsOf]
      simp [wideZ, wideS, Value.cells, toList_madeCells_one]
    rw [e]
    simp
  have hB0 : Below w.heap.size w (w.alloc (.cells (cellsOf .u8 (wideZ x n 0)) 5)) := (Below.refl _ _).alloc (Nat.le_refl _) _
  clear hi hz0 hz1 hz2
  go_enter Tryd.func43, Tryd.ntmps43
  go_wp2_with fail
  go_loopw [6] (fun i wr => ∃ k : Nat, k ≤ n ∧ i = .int .i64 k ∧ Blk wr w.heap.size 5 .u8 (wideZ x n k) ∧ Below w.heap.size w wr)
    (fun i _ => n - (intOf i).toNat)
  case atStart => exact ⟨0, by omega, rfl, Blk.new w 5 .u8 (wideZ x n 0), hB0⟩
  case round =>
    clear hmk hB0
    obtain ⟨k, hk, rfl, hw, hB⟩ := hrel
    by_cases hlt : k < n
    · have hc := hw.cell k (by rw [length_wideZ x n k hk]; exact hlt)
      have hf := hw.free k
      have hyc : (x : Int) / 2 ^ (8 * k) = ((x / 2 ^ (8 * k) : Nat) : Int) := by push_cast; rfl
      have hw8 : IntKind.i64.wrap (8 * (k : Int)) = 8 * (k : Int) := IntWalk.i64_in _ (by omega)
      have hw' := hw.set k ((x : Int) / 2 ^ (8 * k) % 256)
      rw [hyc, mod256_cast, wideZ_succ x n k hlt, ← mod256_cast, ← hyc] at hw'
      have HB := hide (hB.setCell (p := ⟨w.heap.size, k, none⟩) (Nat.le_refl _) (.int .u8 ((x : Int) / 2 ^ (8 * k) % 256)))
      have HW := hide hw'
      clear hw' hw hB hyc
      go_wp2_with fail
      go_roundw
      case rel => exact ⟨k + 1, by omega, by go_num, HW.out, HB.out⟩
      case measure => simp [intOf]; omega
    · obtain rfl : k = n := by omega
      have hsl := slAt_lit (cap := k) hw.row (by rw [length_wideZ x k k (Nat.le_refl _)]; exact Nat.le_refl _)
      rw [length_wideZ x k k (Nat.le_refl _), show wideZ x k k = wideS x k by simp [wideZ]] at hsl
      have HS := hide hsl
      have HB := hide hB
      clear hsl hw hB
      go_wp2_with fail
      go_ret
      exact ⟨_, rfl, HS.out, HB.out⟩

theorem bytesOf_get (s : ByteArray) (k : Nat) (h : k < s.size) : nth (bytesOf s) k = ((s[k]'h).toNat : Int) := by
  have h' : k < s.data.toList.length := h
  simp [nth, bytesOf, List.getD, List.getElem?_eq_getElem h']
  rfl

set_option maxRecDepth 100000 in
set_option maxHeartbeats 1000000 in
theorem textR_any (s : ByteArray) (hs : s.size ≤ 100000000) (w : World) :
    Calls Tryd.prog 44 #[.string s] w (fun e w' => ∃ v, e = .returned v ∧ Row w' w.heap.size v (textS s) ∧ Below w.heap.size w w') := by
  have HSH := hide (shortR_any s.size (by omega) w)
  have hul := uintS_len s.size
  have hwl : IntKind.u64.wrap (s.size : Int) = s.size := IntWalk.u64_in _ (by omega)
  obtain ⟨n, hn⟩ : ∃ n, n = s.size := ⟨_, rfl⟩
  go_enter Tryd.func44, Tryd.ntmps44
  clear hn
  go_wp2_with fail
  refine HSH.out.mono ?_
  rintro e w1 ⟨v, rfl, hr1, hB1⟩
  have HR1 := hide hr1
  have HB1 := hide hB1
  clear hr1 hB1 HSH
  obtain ⟨ao, cap, hv⟩ := HR1.out.slAt.len
  subst hv
  go_wp2_with fail
  go_loopw [3, 4] (fun a i wr => ∃ k : Nat, k ≤ s.size ∧ i = .int .i64 k ∧ Row wr w.heap.size a (uintS s.size ++ (bytesOf s).take k) ∧ Hid (Below w.heap.size w wr))
    (fun _ i _ => s.size - (intOf i).toNat)
  case atStart => exact ⟨0, by omega, rfl, by simpa using HR1.out, HB1⟩
  case round =>
    obtain ⟨k, hk, rfl, hr, hB⟩ := hrel
    obtain ⟨ar, cr, hvr⟩ := hr.slAt.len
    subst hvr
    have HR := hide hr
    clear hr
    by_cases hlt : k < s.size
    · have hl1 : (uintS s.size ++ (bytesOf s).take k).length = (uintS s.size).length + k := by rw [List.length_append]; simp [length_bytesOf]; omega
      have hbg := bytesOf_get s k hlt
      have hix : ∀ W : World, (Instr.index 9 (.string s) (.int .i64 (k : Int))).run Tryd.prog W = .ok (.int .u8 (nth (bytesOf s) k)) W := fun W => by
        rw [run_index_string W _ _ _ _ Tryd.underlying9, dif_pos (by omega), hbg]
        simp
      have hB2 : Below w.heap.size w (wr.alloc (.cells #[.int .u8 (nth (bytesOf s) k)] 5)) := hB.out.alloc hB.out.size _
      obtain ⟨v', w', hrun, hrow, hk2, _⟩ := append_keep (wr.alloc (.cells (cellsOf .u8 [nth (bytesOf s) k]) 5)) w.heap.size _ _ (HR.out.alloc _) (.slice (some ⟨wr.heap.size, 0, none⟩) 1 1) [nth (bytesOf s) k] (slAt_lit (heap_alloc_new _ _) (Nat.le_refl _)) (by rw [hl1]; simp; omega) (by have := hB.out.size; simp; omega)
      rw [List.append_assoc, show (bytesOf s).take k ++ [nth (bytesOf s) k] = (bytesOf s).take (k + 1) by rw [List.take_succ_eq_append_getElem (by rw [length_bytesOf]; exact hlt)]; simp [nth, List.getD, length_bytesOf, hlt]] at hrow
      have HR2 := hide hrow
      have HB2 := hide (hk2.through hB2 (fun j e => HR.out.ge e) (by have := hB.out.size; simp; omega))
      obtain ⟨l, hl⟩ : ∃ l, (uintS s.size ++ (bytesOf s).take k).length = l := ⟨_, rfl⟩
      rw [hl] at hrun ⊢
      rw [show cellsOf .u8 [nth (bytesOf s) k] = #[.int .u8 (nth (bytesOf s) k)] from rfl] at hrun
      obtain ⟨ar2, cr2, hv2⟩ := HR2.out.slAt.len
      subst hv2
      clear hrow hk2 hB2 hl1 hbg hl HR
      generalize nth (bytesOf s) k = bv at hix hrun
      go_wp2_with (first | (at_builtin; with_reducible refine wpList_append_run rfl (.tmp 15) (.tmp 19) 28 28 28 rfl rfl (.slice ar l cr) (.slice (some ⟨wr.heap.size, 0, none⟩) 1 1) _ w' rfl rfl hrun ?_))
      go_roundw
      case rel => exact ⟨k + 1, by omega, by go_num, (by rw [show (uintS s.size).length + min (k + 1) (bytesOf s).length = (uintS s.size ++ List.take (k + 1) (bytesOf s)).length by simp]; exact HR2.out), HB2⟩
      case measure => simp [intOf]; omega
    · obtain rfl : k = s.size := by omega
      have hfin : Row wr w.heap.size (.slice ar (uintS s.size ++ (bytesOf s).take s.size).length cr) (textS s) := by
        have := HR.out
        have e : (bytesOf s).take s.size = bytesOf s := List.take_of_length_le (by rw [length_bytesOf]; exact Nat.le_refl _)
        rw [textS]
        rw [e] at this ⊢
        exact this
      have HFN := hide hfin
      clear hfin
      generalize (uintS s.size ++ (bytesOf s).take s.size).length = l at HFN ⊢
      go_wp2_with fail
      go_ret
      exact ⟨_, rfl, HFN.out, hB.out⟩

set_option maxRecDepth 100000 in
set_option maxHeartbeats 1000000 in
theorem meant_any (f : Fld) (hf : f.ok) (hs : f.s.size ≤ 100000000) (W : World) :
    Calls Tryd.prog 15 #[f.val] W (fun e w' => ∃ v, e = .returned v ∧ SlAt w' v (fieldS f) ∧ Below W.heap.size W w') := by
  have hB0 : Below W.heap.size W (W.alloc (.cells f.cells.toArray 32)) := (Below.refl _ _).alloc (Nat.le_refl _) _
  have HK := hide (kind_any f (W.alloc (.cells f.cells.toArray 32)))
  have hrow := heap_alloc_new W (.cells f.cells.toArray 32)
  have HB0 := hide hB0
  clear hB0
  have HE : Hid (∀ z, fieldS f = z ↔ (if f.kd = 0 then [((f.n % 256 : Nat) : Int)] else if f.kd = 1 then u32S (f.n % 4294967296) else if f.kd = 2 then uintS f.n else if f.kd = 3 then textS f.s else bytesOf f.s) = z) := hide (fun z => by rw [fieldS])
  go_enter Tryd.func15, Tryd.ntmps15
  unfold Fld.val at *
  go_wp2_with fail
  refine HK.out.mono ?_
  rintro e w1 ⟨rfl, hBk⟩
  have hl1 : W.heap.size < (W.alloc (.cells f.cells.toArray 32)).heap.size := by simp
  have hrow1 : w1.heap[W.heap.size]? = some (.cells f.cells.toArray 32 (0, 0)) := (hBk.block _ hl1).trans hrow
  have c3 : w1.cell? ⟨W.heap.size, 3, none⟩ = some (.int .u64 (f.n : Nat)) := (cell_of_row w1 _ 3 _ _ _ hrow1).trans rfl
  have c4 : w1.cell? ⟨W.heap.size, 4, none⟩ = some (.string f.s) := (cell_of_row w1 _ 4 _ _ _ hrow1).trans rfl
  have HB1 : Hid (Below W.heap.size W w1) := hide (HB0.out.trans (hBk.mono (by omega)))
  obtain ⟨hn, hsz, _, _⟩ := hf
  generalize f.kd = kd at HE ⊢
  generalize f.n = n at c3 hn HE
  generalize f.s = s at c4 hs hsz HE
  clear hrow1 hl1 hBk HK hrow HB0
  by_cases h0 : kd = 0
  · have HA := hide (wideR_any n 1 hn (by omega) w1)
    have hfs : Hid (∀ v X, SlAt X v (wideS n 1) → SlAt X v (fieldS f)) := hide (fun v X h => by rw [(HE.out _).2 (by rw [if_pos h0])]; simpa [wideS] using h)
    clear HE
    rw [show ((1 : Nat) : Int) = 1 from rfl] at HA
    go_wp2_with fail
    refine HA.out.mono ?_
    rintro e w2 ⟨v, rfl, hv, hB⟩
    have HV := hide (hfs.out _ _ hv)
    have HB2 := hide (HB1.out.trans (hB.mono HB1.out.size))
    obtain ⟨ao, cap, rfl⟩ := hv.len
    clear hv hB hfs
    go_wp2_with fail
    go_ret
    exact ⟨_, rfl, HV.out, HB2.out⟩
  by_cases h1 : kd = 1
  · have HA := hide (wideR_any n 4 hn (by omega) w1)
    have hfs : Hid (∀ v X, SlAt X v (wideS n 4) → SlAt X v (fieldS f)) := hide (fun v X h => by rw [(HE.out _).2 (by rw [if_neg h0, if_pos h1]), ← wide_four]; exact h)
    clear HE
    rw [show ((4 : Nat) : Int) = 4 from rfl] at HA
    go_wp2_with fail
    refine HA.out.mono ?_
    rintro e w2 ⟨v, rfl, hv, hB⟩
    have HV := hide (hfs.out _ _ hv)
    have HB2 := hide (HB1.out.trans (hB.mono HB1.out.size))
    obtain ⟨ao, cap, rfl⟩ := hv.len
    clear hv hB hfs
    go_wp2_with fail
    go_ret
    exact ⟨_, rfl, HV.out, HB2.out⟩
  by_cases h2 : kd = 2
  · have HA := hide (shortR_any n hn w1)
    have hfs : Hid (∀ v X, SlAt X v (uintS n) → SlAt X v (fieldS f)) := hide (fun v X h => by rw [(HE.out _).2 (by rw [if_neg h0, if_neg h1, if_pos h2])]; exact h)
    clear HE
    go_wp2_with fail
    refine HA.out.mono ?_
    rintro e w2 ⟨v, rfl, hv, hB⟩
    have HV := hide (hfs.out _ _ hv.slAt)
    have HB2 := hide (HB1.out.trans (hB.mono HB1.out.size))
    obtain ⟨ao, cap, rfl⟩ := hv.slAt.len
    clear hv hB hfs
    go_wp2_with fail
    go_ret
    exact ⟨_, rfl, HV.out, HB2.out⟩
  by_cases h3 : kd = 3
  · have HA := hide (textR_any s hs w1)
    have hfs : Hid (∀ v X, SlAt X v (textS s) → SlAt X v (fieldS f)) := hide (fun v X h => by rw [(HE.out _).2 (by rw [if_neg h0, if_neg h1, if_neg h2, if_pos h3])]; exact h)
    clear HE
    go_wp2_with fail
    refine HA.out.mono ?_
    rintro e w2 ⟨v, rfl, hv, hB⟩
    have HV := hide (hfs.out _ _ hv.slAt)
    have HB2 := hide (HB1.out.trans (hB.mono HB1.out.size))
    obtain ⟨ao, cap, rfl⟩ := hv.slAt.len
    clear hv hB hfs
    go_wp2_with fail
    go_ret
    exact ⟨_, rfl, HV.out, HB2.out⟩
  · have hfs : Hid (∀ v X, SlAt X v (bytesOf s) → SlAt X v (fieldS f)) := hide (fun v X h => by rw [(HE.out _).2 (by rw [if_neg h0, if_neg h1, if_neg h2, if_neg h3])]; exact h)
    clear HE
    obtain ⟨c, w2, hrun, hrow, hB2', hs2⟩ := str_bytes w1 s hsz
    have hv : SlAt w2 (.slice (some ⟨w1.heap.size, 0, none⟩) s.size c) (bytesOf s) := by have := hrow.slAt; rw [length_bytesOf] at this; exact this
    have HV := hide (hfs.out _ _ hv)
    have HB2 := hide (HB1.out.trans (hB2'.mono HB1.out.size))
    clear hrow hB2' hs2 hv hfs
    go_wp2_with fail
    go_ret
    exact ⟨_, rfl, HV.out, HB2.out⟩
end Go.Proofs.YtjcdmffjpkckoaaDoor
