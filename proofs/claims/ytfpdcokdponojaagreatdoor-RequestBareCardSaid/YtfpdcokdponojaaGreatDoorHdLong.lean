/- Are headers more than is gone through? (Long) -/
import Derived.Test.YtfpdcokdponojaaGreatDoorRqM5
import Derived.Test.YtfpdcokdponojaaGreatDoorRqM3
import Derived.Deep.RegionWith
import Derived.Deep.RegionHeld3
import Derived.Deep.CutBlock
import Derived.Deep.DeepCutAuto
import Derived.StillTailTactics
namespace Go.Proofs.YtfpdcokdponojaaGreatDoor
open Go.RowKit Go.Lib

/-- A header, a row of headers as the laws go through them. -/
def longH (h : Hd) : Bool := decide (1000 < h.n.size) || decide (2000 < h.v.size)
def longP (l : List Hd) : Bool := decide (100 < l.length) || l.any longH
theorem longP_no {l : List Hd} (h : longP l = false) : l.length ≤ 100 ∧ ∀ a ∈ l, a.n.size ≤ 1000 ∧ a.v.size ≤ 2000 := by
  unfold longP at h
  rw [Bool.or_eq_false_iff, decide_eq_false_iff_not, List.any_eq_false] at h
  refine ⟨by omega, fun a ha => ?_⟩
  have := h.2 a ha
  unfold longH at this
  rw [Bool.or_eq_true, decide_eq_true_eq, decide_eq_true_eq] at this
  omega
theorem longP_fits {l : List Hd} (h : longP l = false) : Fits l := fun a ha => by have := (longP_no h).2 a ha; omega
set_option maxRecDepth 100000 in
set_option maxHeartbeats 400000 in
theorem long_any (v : Value) (l : List Hd) (w : World) (hv : GAt KH w v l) : Calls Tryz.prog 37 #[v] w (fun e w' => e = .returned (.bool (longP l)) ∧ Below w.heap.size w w') := by
  obtain ⟨ao, cap, rfl⟩ := hv.len
  obtain ⟨n, hnn⟩ : ∃ n, l.length = n := ⟨_, rfl⟩
  obtain ⟨B, hB⟩ : ∃ b, l.any longH = b := ⟨_, rfl⟩
  have hR : longP l = (decide (100 < n) || B) := by unfold longP; rw [hB, hnn]
  rw [hR]
  rw [hnn] at hv ⊢
  by_cases h60 : 100 < n
  · rw [decide_eq_true h60, Bool.true_or]
    have i60 : (100 : Int) < (n : Int) := by omega
    clear hR hB hnn hv h60
    go_enter Tryz.func37, Tryz.ntmps37
    go_wp2_with fail
    go_ret
    exact ⟨rfl, Below.refl _ _⟩
  · rw [decide_eq_false h60, Bool.false_or]
    have i60 : ¬ (100 : Int) < (n : Int) := by omega
    have H0 : HidL ((l.drop 0).any longH = B) := ⟨hB⟩
    have HN := hideL hnn
    have HV := hideL hv
    clear hR hB hnn hv
    go_enter Tryz.func37, Tryz.ntmps37
    go_wp2_with fail
    go_loopw [3] (fun i wr => ∃ k : Nat, k ≤ n ∧ i = .int .i64 k ∧ w = wr ∧ HidL ((l.drop k).any longH = B)) (fun i _ => n - (RowKit.intOf i).toNat)
    case atStart => exact ⟨0, Nat.zero_le _, rfl, rfl, H0⟩
    case round =>
      obtain ⟨k, hk, rfl, rfl, HD⟩ := hrel
      clear H0
      by_cases hlt : k < n
      · have hlt' : (k : Int) < (n : Int) := by omega
        obtain ⟨b, o, hao, hbl, hcell⟩ := HV.out.at (k := k) hlt
        subst hao
        have hkl : k < l.length := by rw [HN.out]; exact hlt
        have hD := HD.out
        rw [hdrop_at l k hkl, List.any_cons] at hD
        generalize l.getD k KH.dft = x at *
        obtain ⟨p, q⟩ := x
        have d0 : w.cell? ⟨b, o + k * 2, none⟩ = some (.string p) := hcell 0 (by decide)
        have d1 : w.cell? ⟨b, o + k * 2 + 1, none⟩ = some (.string q) := hcell 1 (by decide)
        have hlh : longH ⟨p, q⟩ = (decide (1000 < p.size) || decide (2000 < q.size)) := rfl
        rw [hlh] at hD
        clear hcell hbl HD hlh
        by_cases hp : 1000 < p.size
        · rw [decide_eq_true hp, Bool.true_or, Bool.true_or] at hD
          have hp' : (1000 : Int) < (p.size : Int) := by omega
          subst hD
          clear hp
          go_wp2_with fail
          go_ret
          exact ⟨rfl, Below.refl _ _⟩
        · have hp' : ¬ (1000 : Int) < (p.size : Int) := by omega
          rw [decide_eq_false hp, Bool.false_or] at hD
          by_cases hq : 2000 < q.size
          · rw [decide_eq_true hq, Bool.true_or] at hD
            have hq' : (2000 : Int) < (q.size : Int) := by omega
            subst hD
            clear hp hq
            go_wp2_with fail
            go_ret
            exact ⟨rfl, Below.refl _ _⟩
          · have hq' : ¬ (2000 : Int) < (q.size : Int) := by omega
            rw [decide_eq_false hq, Bool.false_or] at hD
            have HNX := hideL hD
            clear hp hq hD
            go_wp2_with fail
            go_roundw
            case rel => exact ⟨k + 1, by omega, by go_num, trivial, HNX⟩
            case measure => simp [RowKit.intOf]; omega
      · obtain rfl : k = n := by omega
        have hlt' : ¬ (k : Int) < (k : Int) := by omega
        have hD := HD.out
        rw [List.drop_of_length_le (by rw [HN.out]; omega)] at hD
        have hBf : B = false := hD.symm
        subst hBf
        clear hD HD
        go_wp2_with fail
        go_ret
        exact ⟨rfl, Below.refl _ _⟩
end Go.Proofs.YtfpdcokdponojaaGreatDoor
