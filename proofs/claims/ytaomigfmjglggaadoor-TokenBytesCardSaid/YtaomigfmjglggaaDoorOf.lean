/- Of of package sha: its contract. -/
import Derived.Test.YtaomigfmjglggaaDoorProg
import Derived.Test.YtaomigfmjglggaaDoorSumW
import Derived.Test.YtaomigfmjglggaaDoorCat
import Derived.Test.YtaomigfmjglggaaDoorFirst
namespace Go.Proofs.YtaomigfmjglggaaDoor
open Go.RowKit

/-- The sum of bytes. -/
def sumS (X : List Int) : List Int := outS (stAt firstS (X ++ endS X.length) ((X ++ endS X.length).length / 64))

theorem parts_vals {w : World} {b o : Nat} {ps : List (List Int)} (h : PartsAt w b o ps) : ∃ vs : List Value, vs.length = ps.length ∧ ∀ i, i < ps.length → ∃ sv, vs[i]? = some sv ∧ w.cell? ⟨b, o + i, none⟩ = some sv ∧ SlAt w sv (part ps i) := by
  refine ⟨(List.range ps.length).map (fun i => (w.cell? ⟨b, o + i, none⟩).getD undef), by simp, fun i hi => ?_⟩
  obtain ⟨sv, hc, hs⟩ := h.2 i hi
  exact ⟨sv, by simp [hi, hc], hc, hs⟩

theorem SlAt.one {w : World} {v : Value} {xs : List Int} (h : SlAt w v xs) : v.oneCell' = true := by
  obtain ⟨ao, cap, rfl, _⟩ := h
  rfl

theorem part_left (ps : List (List Int)) (x : List Int) (i : Nat) (h : i < ps.length) : part (ps ++ [x]) i = part ps i := by
  simp [part, List.getD, h, List.getElem?_append_left]
theorem part_last (ps : List (List Int)) (x : List Int) : part (ps ++ [x]) ps.length = x := by
  simp [part, List.getD]

/-- Behind Concat of the parts and one more: a row of slices that read as these. -/
def MorePost2 (ps : List (List Int)) (x : List Int) (n : Nat) (w : World) (e : Ending) (w' : World) : Prop :=
  ∃ g cap, e = .returned (.slice (some ⟨g, 0, none⟩) n cap) ∧ PartsAt w' g 0 (ps ++ [x]) ∧ Below w.heap.size w w'

theorem more_parts (ps : List (List Int)) (x : List Int) (b o n c : Nat) (ev : Value) (w : World) (hn : n = ps.length) (hnm : n ≤ 100000) (hnc : n ≤ c) (hP : PartsAt w b o ps) (he : SlAt w ev x) :
    Calls Tryd.prog 89 #[.slice (some ⟨w.heap.size + 1, 0, none⟩) 2 2] ((w.alloc (.cells #[ev] 22)).alloc (.cells #[.slice (some ⟨b, o, none⟩) n c, .slice (some ⟨w.heap.size, 0, none⟩) 1 1] 98))
      (MorePost2 ps x (n + 1) ((w.alloc (.cells #[ev] 22)).alloc (.cells #[.slice (some ⟨b, o, none⟩) n c, .slice (some ⟨w.heap.size, 0, none⟩) 1 1] 98))) := by
  obtain ⟨vs, hvl, hvs⟩ := parts_vals hP
  have hB : Below w.heap.size w ((w.alloc (.cells #[ev] 22)).alloc (.cells #[.slice (some ⟨b, o, none⟩) n c, .slice (some ⟨w.heap.size, 0, none⟩) 1 1] 98)) := ((Below.refl _ _).alloc (Nat.le_refl _) _).alloc (by simp) _
  have hrows : RowsAt ((w.alloc (.cells #[ev] 22)).alloc (.cells #[.slice (some ⟨b, o, none⟩) n c, .slice (some ⟨w.heap.size, 0, none⟩) 1 1] 98)) (w.heap.size + 1) 0 [vs, [ev]] := by
    refine ⟨by simp, fun i hi => ?_⟩
    have h : i = 0 ∨ i = 1 := by simp at hi; omega
    rcases h with rfl | rfl
    · refine ⟨_, (cell_of_row _ _ 0 _ _ _ (heap_alloc2_new _ _ _)).trans rfl, some ⟨b, o, none⟩, c, by simp [partG, hvl, hn], (fun h => by cases h), by simp [partG, hvl, ← hn, hnc], fun ad had i u hu => ?_⟩
      cases had
      have hil : i < ps.length := by
        rcases Nat.lt_or_ge i ps.length with h | h
        · exact h
        · rw [show partG [vs, [ev]] 0 = vs from rfl, List.getElem?_eq_none (by omega)] at hu; cases hu
      obtain ⟨sv, h1, h2, _⟩ := hvs i hil
      have hu2 : some sv = some u := h1.symm.trans hu
      cases hu2
      refine ⟨Nat.lt_of_lt_of_le hP.1 hB.size, ?_⟩
      rw [addr_plain]
      exact (hB.cell (p := ⟨b, o + i, none⟩) hP.1).trans h2
    · refine ⟨_, (cell_of_row _ _ 1 _ _ _ (heap_alloc2_new _ _ _)).trans rfl, some ⟨w.heap.size, 0, none⟩, 1, by simp [partG], (fun h => by cases h), by simp [partG], fun ad had i u hu => ?_⟩
      cases had
      have hi0 : i = 0 := by
        rcases Nat.eq_zero_or_pos i with h | h
        · exact h
        · rw [show partG [vs, [ev]] 1 = [ev] from rfl, List.getElem?_eq_none (by simp; omega)] at hu; cases hu
      subst hi0
      have hu2 : some ev = some u := hu
      cases hu2
      refine ⟨by simp; omega, ?_⟩
      rw [addr_plain]
      exact (cell_of_row _ _ 0 _ _ _ (heap_alloc2_old _ _ _)).trans rfl
  have hone : ∀ q ∈ [vs, [ev]], ∀ u ∈ q, u.oneCell' = true := by
    intro q hq u hu
    simp at hq
    rcases hq with rfl | rfl
    · obtain ⟨i, hi, hiu⟩ := List.mem_iff_getElem.1 hu
      obtain ⟨sv, h1, _, h3⟩ := hvs i (by omega)
      rw [List.getElem?_eq_getElem hi] at h1
      cases h1
      rw [← hiu]
      exact h3.one
    · simp at hu
      subst hu
      exact he.one
  have hfl : [vs, [ev]].flatten = vs ++ [ev] := by simp
  have hfn : (vs ++ [ev]).length = n + 1 := by simp [hvl, hn]
  have hc := concat_rows [vs, [ev]] (w.heap.size + 1) 0 2 _ hrows (by simp) (by rw [hfl, hfn]; omega) (by rw [hfl, hfn]; omega) hone
  rw [hfl] at hc
  refine hc.mono ?_
  rintro e w' ⟨cap, rfl, hown, hBB⟩
  rw [hfn] at hown ⊢
  refine ⟨_, cap, rfl, ⟨(hown.lt _ rfl).2, fun i hi => ?_⟩, hBB⟩
  have hcell : ∀ i, i < n + 1 → w'.cell? ⟨_, 0 + i, none⟩ = (vs ++ [ev])[i]? := fun i hi => by
    have := hown.cellAt i (by omega)
    rw [Nat.zero_add]
    exact this
  have hi' : i < n + 1 := by simp at hi; omega
  have hB2 := hB.trans (hBB.mono hB.size)
  rcases Nat.lt_or_ge i n with h | h
  · obtain ⟨sv, h1, h2, h3⟩ := hvs i (by omega)
    refine ⟨sv, (hcell i hi').trans ?_, ?_⟩
    · rw [List.getElem?_append_left (by omega), h1]
    · rw [part_left _ _ _ (by omega)]
      exact h3.below hB2
  · have hin : i = ps.length := by omega
    subst hin
    refine ⟨ev, (hcell _ hi').trans ?_, ?_⟩
    · rw [List.getElem?_append_right (by omega), hvl]; simp
    · rw [part_last]
      exact he.below hB2

set_option maxRecDepth 100000 in
set_option maxHeartbeats 1000000 in
theorem of_any (ps : List (List Int)) (b o c : Nat) (w : World) (hP : PartsAt w b o ps) (hn : ps.length ≤ 100000) (hnc : ps.length ≤ c) (hX : ps.flatten.length ≤ 140737488355000) :
    Calls Tryd.prog 71 #[.slice (some ⟨b, o, none⟩) ps.length c] w (fun e w' => e = .returned (.agg (cellsOf .u8 (sumS ps.flatten))) ∧ Below w.heap.size w w') := by
  obtain ⟨n, hnn⟩ : ∃ n, n = ps.length := ⟨_, rfl⟩
  have HN := hide hnn
  have HNC := hide hnc
  rw [← hnn] at hn HNC ⊢
  have HP := hide hP
  obtain ⟨T, hT⟩ : ∃ T, T = ps.flatten.length := ⟨_, rfl⟩
  have HT := hide hT
  rw [← hT] at hX
  clear hP hnn hT hnc
  go_enter Tryd.func71, Tryd.ntmps71
  go_wp2_with (with_reducible refine wpList_alloc_row rfl 29 rfl (cellsOf .u8 zeros32) zero36 ?_)
  go_loop [3, 10] (fun s i => ∃ k : Nat, k ≤ n ∧ i = .int .i64 k ∧ s = .int .u64 ((cat ps k).length : Int)) (fun _ i => n - (intOf i).toNat)
  case atStart => exact ⟨0, Nat.zero_le _, rfl, rfl⟩
  case round =>
    obtain ⟨k, hk, rfl, rfl⟩ := hrel
    by_cases hlt : k < n
    · have hBz : Below w.heap.size w (w.alloc (.cells (cellsOf .u8 zeros32) 29)) := (Below.refl _ _).alloc (Nat.le_refl _) _
      obtain ⟨sv, hc, ao, cp, rfl, _, _, _⟩ := (HP.out.below hBz).2 k (by rw [← HN.out]; exact hlt)
      clear hBz
      have hle := part_le ps k (by rw [← HN.out]; exact hlt)
      rw [← HT.out] at hle
      have HS := hide (cat_succ ps k (by rw [← HN.out]; exact hlt))
      obtain ⟨s, hs⟩ : ∃ s, s = (cat ps k).length := ⟨_, rfl⟩
      obtain ⟨m, hm⟩ : ∃ m, m = (part ps k).length := ⟨_, rfl⟩
      rw [← hm] at hc
      rw [← hs, ← hm] at hle
      rw [← hs]
      have HSM := hide (And.intro hs hm)
      clear hs hm
      go_wp2_with fail
      go_round
      case rel => exact ⟨k + 1, by omega, by go_num, by rw [HS.out, List.length_append, ← HSM.out.1, ← HSM.out.2]; go_num⟩
      case measure => simp [intOf]; omega
    · have hkn : cat ps k = ps.flatten := by rw [show k = ps.length from by have := HN.out; omega]; exact cat_all ps
      rw [hkn, ← HT.out]
      clear hkn
      go_wp2_with fail
      refine (first_any _).mono ?_
      rintro e w1 ⟨rfl, hB1⟩
      have HZ1 := hide (blk_through hB1 (Blk.new w 29 .u8 zeros32))
      have HB1 : Hid (Below w.heap.size w w1) := hide (below_through hB1 ((Below.refl _ _).alloc (Nat.le_refl _) _))
      clear hB1
      go_wp2_with fail
      refine (end_sl T _).mono ?_
      rintro e w2 ⟨ap, rfl, hsl, hB2⟩
      have HZ2 := hide (blk_through hB2 HZ1.out)
      have HB2 : Hid (Below w.heap.size w w2) := hide (below_through hB2 HB1.out)
      clear hB2
      generalize (k : Int) = kx
      go_wp2_with fail
      have hBs : Below w.heap.size w ((w2.alloc (.cells #[.slice ap (padZ T + 9) (padZ T + 9)] 22)).alloc (.cells #[.slice (some ⟨b, o, none⟩) n c, .slice (some ⟨w2.heap.size, 0, none⟩) 1 1] 98)) := (HB2.out.alloc HB2.out.size _).alloc (by have := HB2.out.size; simp; omega) _
      have hZs := (HZ2.out.alloc (.cells #[.slice ap (padZ T + 9) (padZ T + 9)] 22)).alloc (.cells #[.slice (some ⟨b, o, none⟩) n c, .slice (some ⟨w2.heap.size, 0, none⟩) 1 1] 98)
      have HB3 := hide hBs
      have HZ3 := hide hZs
      clear hBs hZs
      refine (more_parts ps (endS T) b o n c _ w2 HN.out hn HNC.out (HP.out.below HB2.out) hsl).mono ?_
      rintro e w3 ⟨g, cq, rfl, hpa, hB4⟩
      have HZ4 := hide (blk_through hB4 HZ3.out)
      have HB4 : Hid (Below w.heap.size w w3) := hide (below_through hB4 HB3.out)
      clear hB4 hsl hlt hk
      have hfl : (ps ++ [endS T]).flatten = ps.flatten ++ endS T := by simp
      have hfn : (ps ++ [endS T]).length = n + 1 := by simp [← HN.out]
      have hpz : padZ T ≤ 63 := by unfold padZ; omega
      have hc := blocks_own firstS (ps ++ [endS T]) g 0 cq w3 rfl hpa (by rw [hfn]; omega) (by rw [hfl, List.length_append, length_endS, ← HT.out]; omega)
      rw [hfn, hfl] at hc
      have HC := hide hc
      clear hc hpa hfn hfl hpz
      go_wp2_with fail
      refine HC.out.mono ?_
      rintro e w5 ⟨aq, cr, rfl, hxx, hB5⟩
      clear hxx
      have HZ5 := hide (blk_through hB5 HZ4.out)
      have HB5 : Hid (Below w.heap.size w w5) := hide (below_through hB5 HB4.out)
      clear hB5
      obtain ⟨st, hst⟩ : ∃ st, st = stAt firstS (ps.flatten ++ endS T) ((ps.flatten ++ endS T).length / 64) := ⟨_, rfl⟩
      have hl8 : st.length = 8 := by rw [hst]; exact length_stAt _ _ rfl _
      rw [← hst]
      have HST := hide hst
      generalize (ps.flatten ++ endS T).length % 64 = q
      clear hst
      obtain ⟨b0, b1, b2, b3, b4, b5, b6, b7, rfl⟩ := list8 hl8
      clear hl8
      rw [show cellsOf .u32 [b0, b1, b2, b3, b4, b5, b6, b7] = #[.int .u32 b0, .int .u32 b1, .int .u32 b2, .int .u32 b3, .int .u32 b4, .int .u32 b5, .int .u32 b6, .int .u32 b7] from rfl]
      go_wp2_with fail
      refine (word_any [b0, b1, b2, b3, b4, b5, b6, b7] _ (hide rfl)).mono ?_
      rintro e wD ⟨rfl, hBD⟩
      have hZD : Blk wD w.heap.size 29 .u8 zeros32 := blk_through hBD (HZ5.out.alloc _)
      have hBE : Below w.heap.size w wD := below_through hBD (HB5.out.alloc HB5.out.size _)
      clear hBD
      go_wp2_with (with_reducible refine wpList_store_row rfl 29 (.tmp 2) (.tmp 32) rfl w.heap.size _ rfl rfl _ _ hZD.row (sz36 _ (length_outS _)) (szZ32 _ (length_outS _)) (oneCell_cellsOf _ _) ?_)
      refine bodyPost_ret (v := .agg (cellsOf .u8 (outS [b0, b1, b2, b3, b4, b5, b6, b7]))) (results_cell_row rfl _ _ w.heap.size _ _ (0, 0) _ rfl (hZD.setRow (outS [b0, b1, b2, b3, b4, b5, b6, b7])).row Tryd.underlying29 rfl (sz36 _ (length_outS _))) rfl ?_
      exact ⟨by rw [HST.out, sumS, ← HT.out], below_setRow hBE (by omega) _⟩
end Go.Proofs.YtaomigfmjglggaaDoor
