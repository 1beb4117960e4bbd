/- The law NameSort (P5.3, P5.4). -/
import Derived.Test.YtjbfaaoeoggkpaaNmSortR
import Derived.Test.YtjbfaaoeoggkpaaNmCopy
import Derived.Test.YtjbfaaoeoggkpaaNmAwake
namespace Go.Proofs.Ytjbfaaoeoggkpaa
open Go.RowKit Go.Lib

set_option maxRecDepth 100000 in
set_option maxHeartbeats 1000000 in
theorem nameSort_walk (v : Value) (l : List Nm) (w : World) (hE : Env w) (hv : GAt KN w v l) (_hok : ∀ c ∈ l, c.ok) (hm : l.length ≤ maxLen) : Calls Try.prog 5 #[v] w (LawPost w) := by
  unfold maxLen at hm
  have HE := hideL hE
  obtain ⟨ao, cap, rfl⟩ := hv.len
  obtain ⟨n, hn⟩ : ∃ n, l.length = n := ⟨_, rfl⟩
  rw [hn] at hv hm ⊢
  by_cases g : (60 : Int) < n
  · clear hE hv hn
    go_enter Try.func5, Try.ntmps5
    go_wp2_with (go_at_call 8; with_reducible refine (awake_any _ HE.out).mono ?_; rintro e w9 ⟨rfl, hB9⟩)
    go_ret
    exact ⟨rfl, hB9⟩
  have g60 : n ≤ 60 := by omega
  have HV := hideL hv
  have HN := hideL hn
  clear hE hv hn
  go_enter Try.func5, Try.ntmps5
  go_wp2_with fail
  go_loopw [3] (fun i wr => ∃ k : Nat, k ≤ n ∧ i = .int .i64 k ∧ wr = w ∧ HidL (∀ j, j < k → (l.getD j KN.dft).ns.size ≤ 300 ∧ (l.getD j KN.dft).sa.size ≤ 300)) (fun i _ => n - (intOf i).toNat)
  case atStart => exact ⟨0, Nat.zero_le _, rfl, rfl, ⟨fun _ h => absurd h (by omega)⟩⟩
  case round =>
    obtain ⟨k, hk, rfl, rfl, hall⟩ := hrel
    by_cases hlt : k < n
    · have hlt' : (k : Int) < (n : Int) := by omega
      obtain ⟨b, o, hao, hbl, hcell⟩ := HV.out.at (k := k) hlt
      subst hao
      have hnext : (l.getD k KN.dft).ns.size ≤ 300 → (l.getD k KN.dft).sa.size ≤ 300 → HidL (∀ j, j < k + 1 → (l.getD j KN.dft).ns.size ≤ 300 ∧ (l.getD j KN.dft).sa.size ≤ 300) := fun h1 h2 => ⟨fun j hj => if he : j < k then hall.out j he else (show j = k by omega) ▸ ⟨h1, h2⟩⟩
      generalize l.getD k KN.dft = x at *
      obtain ⟨p, q⟩ := x
      dsimp only at hnext
      have d0 : wr.cell? ⟨b, o + k * 2, none⟩ = some (.string p) := hcell 0 (by decide)
      have d1 : wr.cell? ⟨b, o + k * 2 + 1, none⟩ = some (.string q) := hcell 1 (by decide)
      clear hcell hbl
      by_cases g1 : (300 : Int) < p.size
      · clear hnext
        go_wp2_with (go_at_call 8; with_reducible refine (awake_any _ HE.out).mono ?_; rintro e w9 ⟨rfl, hB9⟩)
        go_ret
        exact ⟨rfl, hB9⟩
      by_cases g2 : (300 : Int) < q.size
      · clear hnext
        go_wp2_with (go_at_call 8; with_reducible refine (awake_any _ HE.out).mono ?_; rintro e w9 ⟨rfl, hB9⟩)
        go_ret
        exact ⟨rfl, hB9⟩
      have HNX := hnext (by omega) (by omega)
      clear hnext
      go_wp2_with fail
      go_roundw
      case rel => exact ⟨k + 1, by omega, by go_num, by simp, HNX⟩
      case measure => simp [intOf]; omega
    · obtain rfl : k = n := by omega
      have hlt' : ¬ (k : Int) < (k : Int) := by omega
      have hz : ∀ x ∈ l, x.ns.size ≤ 1000 ∧ x.sa.size ≤ 1000 := fun x hx => by
        obtain ⟨j, hj, rfl⟩ := List.getElem_of_mem hx
        have h1 := hall.out j (by rw [← HN.out]; exact hj)
        rw [show l.getD j KN.dft = l[j] by simp [List.getD, hj]] at h1
        omega
      have HZ := hideL hz
      obtain ⟨v1, w1, hrun, hr1, hB1⟩ := copy_nm wr (.slice ao k cap) l HV.out (by rw [HN.out]; omega)
      obtain ⟨ao1, cap1, rfl⟩ := hr1.gAt.len
      rw [HN.out] at hrun hr1
      have HRUN := hideL hrun
      have HR1 := hideL hr1
      have HB1 := hideL hB1
      obtain ⟨N, hNN⟩ : ∃ N, (sortN l).length = N := ⟨_, rfl⟩
      have HNN := hideL hNN
      have hN60 : N ≤ 60 := by have := length_sortN l; rw [hNN, HN.out] at this; omega
      clear hz hall hrun hr1 hB1 hNN
      go_wp2_with (first
        | (at_builtin; refine wpList_append_runN rfl (.tmp 36) (.tmp 37) 37 37 37 rfl rfl (.slice (some ⟨wr.heap.size, 0, none⟩) 0 0) (.slice ao k cap) (.slice ao1 k cap1) w1 rfl rfl HRUN.out ?_)
        | (go_at_call 19; refine (sortP_any _ l _ (HV.out.below HB1.out) (by rw [HN.out]; exact g60) HZ.out).mono ?_; rintro e w2 ⟨v2, rfl, hr2, hB2⟩; obtain ⟨ao2, cap2, rfl⟩ := hr2.gAt.len; rw [HNN.out] at hr2 ⊢; have HR2 := hideL hr2; have HB2 := hideL (HB1.out.trans (hB2.mono HB1.out.size)); have HR12 := hideL (HR1.out.below hB2); clear hr2 hB2)
        | (go_at_call 20; refine (sortR_any _ l _ HR12.out.gAt (by rw [HN.out]; exact g60) HZ.out).mono ?_; rintro e w3 ⟨v3, rfl, hr3, hB3⟩; obtain ⟨ao3, cap3, rfl⟩ := hr3.gAt.len; rw [HNN.out] at hr3 ⊢; have HR3 := hideL hr3; have HB3 := hideL (HB2.out.trans (hB3.mono HB2.out.size)); have HR13 := hideL (HR12.out.below hB3); have HR23 := hideL (HR2.out.below hB3); clear hr3 hB3))
      obtain ⟨w0, rfl⟩ : ∃ w', w' = wr := ⟨_, rfl⟩
      clear HRUN HR1 HR2 HR12
      go_loopw [7] (fun i wr => ∃ j : Nat, j ≤ N ∧ i = .int .i64 j ∧ Below w3.heap.size w3 wr) (fun i _ => N - (intOf i).toNat)
      case atStart => exact ⟨0, Nat.zero_le _, rfl, Below.refl _ _⟩
      case round =>
        obtain ⟨j, hj, rfl, hB⟩ := hrel
        by_cases hlt2 : j < N
        · have hlt2' : (j : Int) < (N : Int) := by omega
          obtain ⟨b2, o2, hao2, hbl2, hc2⟩ := HR23.out.gAt.at (k := j) hlt2
          obtain ⟨b3, o3, hao3, hbl3, hc3⟩ := HR3.out.gAt.at (k := j) hlt2
          subst hao2 hao3
          generalize (sortN l).getD j KN.dft = x at *
          obtain ⟨p, q⟩ := x
          have ep := eqs_true (rfl : p = p)
          have eq := eqs_true (rfl : q = q)
          have e0 : wr.cell? ⟨b2, o2 + j * 2, none⟩ = some (.string p) := (hB.cell (p := ⟨b2, o2 + j * 2, none⟩) hbl2).trans (hc2 0 (by decide))
          have e1 : wr.cell? ⟨b2, o2 + j * 2 + 1, none⟩ = some (.string q) := (hB.cell (p := ⟨b2, o2 + j * 2 + 1, none⟩) hbl2).trans (hc2 1 (by decide))
          have e2 : wr.cell? ⟨b3, o3 + j * 2, none⟩ = some (.string p) := (hB.cell (p := ⟨b3, o3 + j * 2, none⟩) hbl3).trans (hc3 0 (by decide))
          have e3 : wr.cell? ⟨b3, o3 + j * 2 + 1, none⟩ = some (.string q) := (hB.cell (p := ⟨b3, o3 + j * 2 + 1, none⟩) hbl3).trans (hc3 1 (by decide))
          clear hc2 hc3 hbl2 hbl3
          go_wp2_with (go_region)
          exact ⟨⟨j + 1, by omega, by go_num, hB.drew⟩, by simp [intOf]; omega⟩
        · obtain rfl : j = N := by omega
          have hlt2' : ¬ (j : Int) < (j : Int) := by omega
          go_wp2_with fail
          obtain ⟨w4, rfl⟩ : ∃ w', w' = wr := ⟨_, rfl⟩
          go_loopw [8] (fun i wr => ∃ t : Nat, t ≤ k ∧ i = .int .i64 t ∧ Below w3.heap.size w3 wr) (fun i _ => k - (intOf i).toNat)
          case atStart => exact ⟨0, Nat.zero_le _, rfl, hB⟩
          case round =>
            obtain ⟨t, ht, rfl, hB⟩ := hrel
            by_cases hlt3 : t < k
            · have hlt3' : (t : Int) < (k : Int) := by omega
              have HVw := HV.out.below HB3.out
              obtain ⟨b2, o2, hao2, hbl2, hc2⟩ := HVw.at (k := t) hlt3
              obtain ⟨b3, o3, hao3, hbl3, hc3⟩ := HR13.out.gAt.at (k := t) hlt3
              subst hao2 hao3
              clear HVw
              generalize l.getD t KN.dft = x at *
              obtain ⟨p, q⟩ := x
              have ep := eqs_true (rfl : p = p)
              have eq := eqs_true (rfl : q = q)
              have e0 : wr.cell? ⟨b2, o2 + t * 2, none⟩ = some (.string p) := (hB.cell (p := ⟨b2, o2 + t * 2, none⟩) hbl2).trans (hc2 0 (by decide))
              have e1 : wr.cell? ⟨b2, o2 + t * 2 + 1, none⟩ = some (.string q) := (hB.cell (p := ⟨b2, o2 + t * 2 + 1, none⟩) hbl2).trans (hc2 1 (by decide))
              have e2 : wr.cell? ⟨b3, o3 + t * 2, none⟩ = some (.string p) := (hB.cell (p := ⟨b3, o3 + t * 2, none⟩) hbl3).trans (hc3 0 (by decide))
              have e3 : wr.cell? ⟨b3, o3 + t * 2 + 1, none⟩ = some (.string q) := (hB.cell (p := ⟨b3, o3 + t * 2 + 1, none⟩) hbl3).trans (hc3 1 (by decide))
              clear hc2 hc3 hbl2 hbl3
              go_wp2_with (go_region)
              exact ⟨⟨t + 1, by omega, by go_num, hB.drew⟩, by simp [intOf]; omega⟩
            · obtain rfl : t = k := by omega
              have hlt3' : ¬ (t : Int) < (t : Int) := by omega
              have HBF := hideL (HB3.out.trans (hB.mono HB3.out.size))
              go_wp2_with (go_at_call 8; with_reducible refine (awake_any _ (HE.out.below HBF.out)).mono ?_; rintro e w9 ⟨rfl, hB9⟩)
              go_ret
              exact ⟨rfl, HBF.out.trans (hB9.mono HBF.out.size)⟩
end Go.Proofs.Ytjbfaaoeoggkpaa
