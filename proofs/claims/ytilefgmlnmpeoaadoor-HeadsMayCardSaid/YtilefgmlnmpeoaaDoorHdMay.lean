/- May of headers: none that may not be, by a closure. -/
import Derived.Test.YtilefgmlnmpeoaaDoorHdVal
namespace Go.Proofs.YtilefgmlnmpeoaaDoor
open Go.RowKit Go.Lib

set_option maxRecDepth 100000 in
set_option maxHeartbeats 400000 in
theorem index_noneMay (v : Value) (l : List Hd) (w : World) (hv : GAt KH w v l) (hf : Fits l) (hm : l.length ≤ 9223372036854775807) : Calls Tryd.prog 56 #[v, .func (.func 36) #[] #[]] w (fun e w' => ∃ r : Int, e = .returned (.int .i64 r) ∧ decide (0 ≤ r) = l.any (fun a => !goodP a) ∧ Below w.heap.size w w') := by
  have HF := hideL hf
  obtain ⟨ao, cap, rfl⟩ := hv.len
  obtain ⟨n, hn⟩ : ∃ n, l.length = n := ⟨_, rfl⟩
  rw [hn] at hv hm ⊢
  have HN := hideL hn
  have HV := hideL hv
  obtain ⟨B, hB⟩ : ∃ b, l.any (fun a => !goodP a) = b := ⟨_, rfl⟩
  rw [hB]
  have HBB := hideL hB
  clear hB hv hn hf
  go_enter Tryd.func56, Tryd.ntmps56
  go_wp2_with fail
  go_loopw [8] (fun i wr => ∃ k : Nat, k ≤ n ∧ i = .int .i64 k ∧ Below w.heap.size w wr ∧ HidL ((l.drop k).any (fun a => !goodP a) = B)) (fun i _ => n - (intOf i).toNat)
  case atStart => exact ⟨0, Nat.zero_le _, rfl, Below.refl _ _, HBB⟩
  case round =>
    obtain ⟨k, hk, rfl, hb, hd⟩ := hrel
    obtain ⟨W, rfl⟩ : ∃ W, W = wr := ⟨_, rfl⟩
    by_cases hlt : k < n
    · have hlt' : (k : Int) < (n : Int) := by omega
      obtain ⟨b, o, hao, hbl, hcell⟩ := HV.out.at (k := k) hlt
      subst hao
      have hkl : k < l.length := by rw [HN.out]; exact hlt
      replace hd := hd.out
      rw [hdrop_at l k hkl, List.any_cons] at hd
      have hfit := HF.out.get hkl
      generalize l.getD k KH.dft = x at *
      have LC := hideL (fun W : World => notMay_any x hfit W)
      obtain ⟨y, hy⟩ : ∃ y, (!goodP x) = y := ⟨_, rfl⟩
      rw [hy] at hd LC
      clear hy
      have HD := hideL hd
      clear hd hfit
      obtain ⟨p, q⟩ := x
      have d0 : W.cell? ⟨b, o + k * 2, none⟩ = some (.string p) := (hb.cell (p := ⟨b, o + k * 2, none⟩) hbl).trans (hcell 0 (by decide))
      have d1 : W.cell? ⟨b, o + k * 2 + 1, none⟩ = some (.string q) := (hb.cell (p := ⟨b, o + k * 2 + 1, none⟩) hbl).trans (hcell 1 (by decide))
      have HB := hideL hb
      clear hcell hbl hb
      cases y
      · have HN2 := HD.out
        rw [Bool.false_or] at HN2
        have HNX := hideL HN2
        clear HD HN2
        go_wp2_with (go_at_call 36; refine (LC.out _).mono ?_; rintro e w3 ⟨rfl, hB3⟩; have HB3 := hideL (HB.out.trans (hB3.mono HB.out.size)))
        go_roundw
        case rel => exact ⟨k + 1, by omega, by go_num, HB3.out, HNX⟩
        case measure => simp [intOf]; omega
      · have hBt : B = true := by rw [← HD.out]; rfl
        subst hBt
        go_wp2_with (go_at_call 36; refine (LC.out _).mono ?_; rintro e w3 ⟨rfl, hB3⟩; have HB3 := hideL (HB.out.trans (hB3.mono HB.out.size)))
        go_ret
        exact ⟨k, rfl, decide_eq_true (by omega), HB3.out⟩
    · obtain rfl : k = n := by omega
      have hlt' : ¬ (k : Int) < (k : Int) := by omega
      replace hd := hd.out
      rw [List.drop_of_length_le (by rw [HN.out]; omega)] at hd
      have hBf : B = false := by rw [← hd]; rfl
      subst hBf
      have HB := hideL hb
      clear hb
      go_wp2_with fail
      go_ret
      exact ⟨-1, rfl, by decide, HB.out⟩
set_option maxRecDepth 100000 in
theorem contains_noneMay (v : Value) (l : List Hd) (w : World) (hv : GAt KH w v l) (hf : Fits l) (hm : l.length ≤ 9223372036854775807) : Calls Tryd.prog 35 #[v, .func (.func 36) #[] #[]] w (fun e w' => e = .returned (.bool (l.any (fun a => !goodP a))) ∧ Below w.heap.size w w') := by
  have L := hideL (index_noneMay v l w hv hf hm)
  obtain ⟨B, hB⟩ : ∃ b, l.any (fun a => !goodP a) = b := ⟨_, rfl⟩
  rw [hB] at L ⊢
  clear hB hf
  obtain ⟨ao, cap, rfl⟩ := hv.len
  clear hv
  go_enter Tryd.func35, Tryd.ntmps35
  go_wp2_with (go_at_call 56; refine L.out.mono ?_; rintro e w2 ⟨r, rfl, hr, hB2⟩)
  go_ret
  exact ⟨by rw [← hr]; rfl, hB2⟩
theorem any_not_all (l : List Hd) : (!l.any fun a => !goodP a) = l.all goodP := by
  induction l with
  | nil => rfl
  | cons a l ih =>
    rw [List.any_cons, List.all_cons, ← ih]
    cases goodP a <;> simp
set_option maxRecDepth 100000 in
theorem mayH_any (v : Value) (l : List Hd) (w : World) (hv : GAt KH w v l) (hf : Fits l) (hm : l.length ≤ 9223372036854775807) : Calls Tryd.prog 15 #[v] w (fun e w' => e = .returned (.bool (mayH l)) ∧ Below w.heap.size w w') := by
  have L := hideL (contains_noneMay v l w hv hf hm)
  have hA := any_not_all l
  unfold mayH
  rw [← hA]
  clear hA
  obtain ⟨B, hB⟩ : ∃ b, (l.any fun a => !goodP a) = b := ⟨_, rfl⟩
  rw [hB] at L ⊢
  clear hB hf
  obtain ⟨ao, cap, rfl⟩ := hv.len
  clear hv
  obtain ⟨n, hn⟩ : ∃ n, l.length = n := ⟨_, rfl⟩
  rw [hn] at L hm ⊢
  clear hn
  by_cases h : n ≤ 24
  · rw [decide_eq_true h, Bool.and_true]
    have h' : (n : Int) ≤ 24 := by omega
    go_enter Tryd.func15, Tryd.ntmps15
    go_wp2_with (go_at_call 35; refine L.out.mono ?_; rintro e w2 ⟨rfl, hB2⟩)
    go_ret
    exact ⟨rfl, hB2⟩
  · rw [decide_eq_false h, Bool.and_false]
    have h' : ¬ (n : Int) ≤ 24 := by omega
    go_enter Tryd.func15, Tryd.ntmps15
    go_wp2_with fail
    go_ret
    exact ⟨rfl, Below.refl _ _⟩
end Go.Proofs.YtilefgmlnmpeoaaDoor
