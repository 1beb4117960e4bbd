/- The law AddrMerges (P4.4, P4.5). -/
import Derived.Test.YtgikkjjnoakhdaaDoorAdRMerge
import Derived.Test.YtgikkjjnoakhdaaDoorAddrHalvesLaw
namespace Go.Proofs.YtgikkjjnoakhdaaDoor
open Go.RowKit Go.Lib

theorem own_none (w : World) : CRow (w.alloc (.cells #[] 24)) w.heap.size (.slice (some ⟨w.heap.size, 0, none⟩) 0 0) [] :=
  World.ownsRow_lit (base := w.heap.size) (e := 24) (size := 2) w #[] 0 (Nat.le_refl _) (by unfold maxLen; omega) rfl
theorem CRow.block {W : World} {B : Nat} {v : Value} {l : List Net} (h : CRow W B v l) : (v = .slice none 0 0 ∧ l = []) ∨ ∃ g c cs, v = .slice (some ⟨g, 0, none⟩) l.length c ∧ B ≤ g ∧ W.heap[g]? = some (.cells cs 24 (0, 0)) ∧ l.length * 2 ≤ cs.size ∧ l.length ≤ maxLen := by
  obtain ⟨h1, h2 | ⟨g', cap', cur, e1, e2, e3, e4, e5, e6, e7⟩⟩ := h
  · rcases h1 with h1
    refine .inl ⟨h2.1, ?_⟩
    have := h2.2
    exact List.eq_nil_of_length_eq_zero (by simpa using this)
  · exact .inr ⟨g', cap', cur, e1, e2, e3, by rw [e6]; exact Nat.mul_le_mul_right 2 e4, Nat.le_trans e4 e5⟩

set_option maxRecDepth 100000 in
set_option maxHeartbeats 4000000 in
theorem merges_any (v : Value) (l : List Net) (hf : ∀ c ∈ l, c.a < 4294967296) (w : World) (hE : Env w) (hC : CAt w v l) : Calls Tryd.prog 5 #[v] w (LawPost w) := by
  have HE := hide hE
  clear hE
  obtain ⟨ao, cap, rfl⟩ := hC.len
  obtain ⟨n, hn⟩ : ∃ n, l.length = n := ⟨_, rfl⟩
  rw [hn] at hC ⊢
  by_cases h60 : 60 < n
  · have h60' : (60 : Int) < (n : Int) := by omega
    clear hC hn
    go_enter Tryd.func5, Tryd.ntmps5
    go_wp2_with fail
    refine (awake_any _ HE.out).mono ?_
    rintro e w2 ⟨rfl, hB⟩
    go_wp2_with fail
    go_ret
    exact ⟨rfl, hB⟩
  · have h60' : ¬ (60 : Int) < (n : Int) := by omega
    have HME := hide (fun v W (h : CAt W v l) => merge_any v l W h hf (by omega))
    have HMR := hide (fun v W (h : CAt W v l) => mergeR_any v l W h hf (by omega))
    unfold MergePost at HME
    unfold RMPost at HMR
    have hq : (mergeS l).length ≤ 4294967296 := canon_len (allB l) 32 0
    generalize mergeS l = q at *
    have hB0 : Below w.heap.size w (w.alloc (.cells #[] 24)) := (Below.refl _ _).alloc (Nat.le_refl _) _
    obtain ⟨v3, w3, hrun, hR3, hK3, _⟩ := append_nets _ w.heap.size _ [] (own_none w) (.slice ao n cap) l (hC.below hB0) (by simp; omega) hB0.size
    have HRUN := hide hrun
    rw [List.nil_append] at hR3
    have HB3 := hide (hK3.through hB0 (fun x hx => (own_none w).ge hx) hB0.size)
    have HL3 := hide (hC.below HB3.out)
    have HW3 := hide hR3.cAt
    have HC := hide hC
    have HLL : Hid (l.length < 9223372036854775807) := hide (by omega)
    clear hrun hK3 hR3 hB0 hC hn hf
    go_enter Tryd.func5, Tryd.ntmps5
    go_wp2_with (at_builtin; with_reducible refine wpList_append_run rfl (.tmp 10) (.tmp 11) 37 37 37 rfl rfl (.slice (some ⟨w.heap.size, 0, none⟩) 0 0) (.slice ao n cap) v3 w3 rfl rfl HRUN.out ?_)
    refine (HME.out _ _ HL3.out).mono ?_
    rintro e w4 ⟨v4, rfl, hR4, hB⟩
    have HB4 := hide hB
    have HW4 := hide (HW3.out.below hB)
    have HR4 := hide hR4
    clear hB hR4
    go_wp2_with fail
    refine (HMR.out _ _ HW4.out).mono ?_
    rintro e w5 ⟨v5, rfl, hR5, hB⟩
    have HB5 := hide (HB4.out.trans (hB.mono HB4.out.size))
    have HR4b := hide (HR4.out.below hB)
    have HR5 := hide hR5.cAt
    clear hB hR5
    go_wp2_with fail
    refine (same_self _ _ _ _ HR4b.out.cAt HR5.out (by omega)).mono ?_
    rintro e w6 ⟨rfl, hB⟩
    have HB6 := hide (HB5.out.trans (hB.mono HB5.out.size))
    have hR6 := HR4b.out.below hB
    clear hB HR4 HR4b HR5 HB5 HB4 HW4
    rcases hR6.block with ⟨rfl, rfl⟩ | ⟨g, c4, cs, rfl, hg, hblk, hcs, hmx⟩
    · clear hR6 hq
      have hLw := HC.out.below (HB3.out.trans (HB6.out.mono HB3.out.size))
      have HLw := hide hLw
      have HWw := hide (HW3.out.below HB6.out)
      have HBw := hide (HB3.out.trans (HB6.out.mono HB3.out.size))
      clear hLw
      go_wp2_with fail
      go_loopw [5] (fun i wr => i = .int .i64 0 ∧ wr = w6) (fun _ _ => 0)
      case atStart => exact ⟨rfl, rfl⟩
      case round =>
        obtain ⟨rfl, rfl⟩ := hrel
        go_wp2_with fail
        refine (same_self _ _ _ _ HLw.out HWw.out HLL.out).mono ?_
        rintro e w7 ⟨rfl, hB⟩
        have HB7 := hide (HBw.out.trans (hB.mono HBw.out.size))
        clear hB
        go_wp2_with fail
        refine (awake_any _ (HE.out.below HB7.out)).mono ?_
        rintro e w8 ⟨rfl, hB⟩
        have HB8 := hide (HB7.out.trans (hB.mono HB7.out.size))
        clear hB
        go_wp2_with fail
        go_ret
        exact ⟨rfl, HB8.out⟩
    · obtain ⟨n4, hn4⟩ : ∃ n4, q.length = n4 := ⟨_, rfl⟩
      rw [hn4] at hcs hmx hq ⊢
      obtain ⟨o, ho⟩ : ∃ o : Nat, 0 = o := ⟨_, rfl⟩
      rw [show (⟨g, 0, none⟩ : Addr) = ⟨g, o, none⟩ by rw [← ho]]
      have HO := Tuck.mk ho
      have HBLK := hide hblk
      have HG := hide hg
      have HCS := hide hcs
      clear hR6 hn4 ho hblk hcs hmx hg
      go_wp2_with fail
      go_loopw [5] (fun i wr => ∃ (k : Nat) (cs : Array Value), k ≤ n4 ∧ i = .int .i64 k ∧ wr.heap[g]? = some (.cells cs 24 (0, 0)) ∧ n4 * 2 ≤ cs.size ∧ Below w3.heap.size w3 wr) (fun i _ => n4 - (intOf i).toNat)
      case atStart => exact ⟨0, cs, Nat.zero_le _, rfl, HBLK.out, HCS.out, HB6.out⟩
      case round =>
        obtain ⟨k, cs2, hk, rfl, hblk, hcs, hB⟩ := hrel
        by_cases hlt : k < n4
        · have hlt' : (k : Int) < (n4 : Int) := by omega
          have hi : o + k * 2 + 1 < cs2.size := by have := HO.out; omega
          have d0 : wr.cell? ⟨g, o + k * 2 + 1, none⟩ = some cs2[o + k * 2 + 1] := by rw [cell_of_row wr g _ _ _ _ hblk, Array.getElem?_eq_getElem hi]
          have f0 : wr.frozen? ⟨g, o + k * 2 + 1, none⟩ = false := frozen_of_row wr g _ _ _ hblk
          have HN := hide (show (wr.setCell ⟨g, o + k * 2 + 1, none⟩ (.int .i64 (-1))).heap[g]? = some (.cells (cs2.setIfInBounds (o + k * 2 + 1) (.int .i64 (-1))) 24 (0, 0)) from heap_setCell_same wr g _ _ _ _ hblk)
          have HB2 := hide (hB.setCell (p := ⟨g, o + k * 2 + 1, none⟩) HG.out (.int .i64 (-1)))
          have HS2 := hide hcs
          generalize cs2[o + k * 2 + 1] = old at *
          clear hblk hcs hB hi
          go_wp2_with fail
          go_roundw
          case rel => exact ⟨k + 1, _, by omega, by go_num, HN.out, by rw [Array.size_setIfInBounds]; exact HS2.out, HB2.out⟩
          case measure => simp [intOf]; omega
        · obtain rfl : k = n4 := by omega
          have HLw := hide (HC.out.below (HB3.out.trans (hB.mono HB3.out.size)))
          have HWw := hide (HW3.out.below hB)
          have HBw := hide (HB3.out.trans (hB.mono HB3.out.size))
          clear hblk hcs hB
          go_wp2_with fail
          refine (same_self _ _ _ _ HLw.out HWw.out HLL.out).mono ?_
          rintro e w7 ⟨rfl, hB⟩
          have HB7 := hide (HBw.out.trans (hB.mono HBw.out.size))
          clear hB
          go_wp2_with fail
          refine (awake_any _ (HE.out.below HB7.out)).mono ?_
          rintro e w8 ⟨rfl, hB⟩
          have HB8 := hide (HB7.out.trans (hB.mono HB7.out.size))
          clear hB
          go_wp2_with fail
          go_ret
          exact ⟨rfl, HB8.out⟩
end Go.Proofs.YtgikkjjnoakhdaaDoor
