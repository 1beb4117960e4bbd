/- The laws' awake, long. -/
import Derived.Test.YthbgnkkjchaaeaaDoorPhNormal
namespace Go.Proofs.YthbgnkkjchaaeaaDoor
open Go.RowKit

theorem aw1 : norP [47, 97, 47, 47, 98, 47, 46, 47, 99, 47, 46, 46, 47, 100, 63, 120, 61, 37, 55, 101] = some ([47, 97, 47, 98, 47, 100], [120, 61, 126]) := by decide +kernel
theorem aw2 : norP [47, 97, 47, 37, 50, 101, 37, 50, 69, 47, 98, 47] = some ([47, 98, 47], []) := by decide +kernel
theorem aw3 : norP [47, 46, 46] = none := by decide +kernel
theorem aw4 : norP [47, 97, 37, 50, 102, 98] = none := by decide +kernel
theorem aw5 : norP [47, 37, 55, 69, 97, 37, 51, 98] = some ([47, 126, 97, 37, 51, 66], []) := by decide +kernel
theorem norm_at (l : List UInt8) (r : Option (List UInt8 × List UInt8)) (h : norP l = r) (hl : l.length ≤ 1000) (W : World) (hE : Env W) : Calls Tryd.prog 8 #[.string ⟨l.toArray⟩] W fun e w' => e = .returned (norA r) ∧ Below W.heap.size W w' := by
  have hx := normal_any (bo l) (by rw [bo_size]; omega) W hE
  rw [bo_list, h] at hx
  exact hx
set_option maxRecDepth 100000 in
set_option maxHeartbeats 1000000 in
theorem awake_any (w : World) (hE : Env w) : Calls Tryd.prog 7 #[] w fun e w' => e = .returned (.bool true) ∧ Below w.heap.size w w' := by
  have HE := hideL hE
  have A1 : HidL (∀ W : World, Env W → Calls Tryd.prog 8 #[.string ⟨#[47, 97, 47, 47, 98, 47, 46, 47, 99, 47, 46, 46, 47, 100, 63, 120, 61, 37, 55, 101]⟩] W fun e w' => e = .returned (.tuple #[.string ⟨#[47, 97, 47, 98, 47, 100]⟩, .string ⟨#[120, 61, 126]⟩, .int .i64 0]) ∧ Below W.heap.size W w') := ⟨norm_at _ _ aw1 (by decide)⟩
  have A2 : HidL (∀ W : World, Env W → Calls Tryd.prog 8 #[.string ⟨#[47, 97, 47, 37, 50, 101, 37, 50, 69, 47, 98, 47]⟩] W fun e w' => e = .returned (.tuple #[.string ⟨#[47, 98, 47]⟩, .string ⟨#[]⟩, .int .i64 0]) ∧ Below W.heap.size W w') := ⟨norm_at _ _ aw2 (by decide)⟩
  have A3 : HidL (∀ W : World, Env W → Calls Tryd.prog 8 #[.string ⟨#[47, 46, 46]⟩] W fun e w' => e = .returned (.tuple #[.string ⟨#[]⟩, .string ⟨#[]⟩, .int .i64 2]) ∧ Below W.heap.size W w') := ⟨norm_at _ _ aw3 (by decide)⟩
  have A4 : HidL (∀ W : World, Env W → Calls Tryd.prog 8 #[.string ⟨#[47, 97, 37, 50, 102, 98]⟩] W fun e w' => e = .returned (.tuple #[.string ⟨#[]⟩, .string ⟨#[]⟩, .int .i64 2]) ∧ Below W.heap.size W w') := ⟨norm_at _ _ aw4 (by decide)⟩
  have A5 : HidL (∀ W : World, Env W → Calls Tryd.prog 8 #[.string ⟨#[47, 37, 55, 69, 97, 37, 51, 98]⟩] W fun e w' => e = .returned (.tuple #[.string ⟨#[47, 126, 97, 37, 51, 66]⟩, .string ⟨#[]⟩, .int .i64 0]) ∧ Below W.heap.size W w') := ⟨norm_at _ _ aw5 (by decide)⟩
  have HB : HidL (Below w.heap.size w w) := ⟨Below.refl _ _⟩
  clear hE
  go_enter Tryd.func7, Tryd.ntmps7
  go_wp2_with (first
    | (go_at_call 8; first
      | (with_reducible refine (A1.out _ HE.out).mono ?_; rintro e wx ⟨rfl, hB⟩; replace HE := hideL (HE.out.next hB); replace HB := hideL (HB.out.trans (hB.mono HB.out.size)); clear hB)
      | (with_reducible refine (A2.out _ HE.out).mono ?_; rintro e wx ⟨rfl, hB⟩; replace HE := hideL (HE.out.next hB); replace HB := hideL (HB.out.trans (hB.mono HB.out.size)); clear hB)
      | (with_reducible refine (A3.out _ HE.out).mono ?_; rintro e wx ⟨rfl, hB⟩; replace HE := hideL (HE.out.next hB); replace HB := hideL (HB.out.trans (hB.mono HB.out.size)); clear hB)
      | (with_reducible refine (A4.out _ HE.out).mono ?_; rintro e wx ⟨rfl, hB⟩; replace HE := hideL (HE.out.next hB); replace HB := hideL (HB.out.trans (hB.mono HB.out.size)); clear hB)
      | (with_reducible refine (A5.out _ HE.out).mono ?_; rintro e wx ⟨rfl, hB⟩; replace HE := hideL (HE.out.next hB); replace HB := hideL (HB.out.trans (hB.mono HB.out.size)); clear hB))
    | go_region)
  all_goals go_ret
  all_goals exact ⟨rfl, HB.out⟩
def longP (l : List ByteArray) : Bool := decide (60 < l.length) || l.any fun s => decide (1000 < s.size)
theorem longP_no {l : List ByteArray} (h : longP l = false) : l.length ≤ 60 ∧ ∀ s ∈ l, s.size ≤ 1000 := by
  unfold longP at h
  rw [Bool.or_eq_false_iff, decide_eq_false_iff_not, List.any_eq_false] at h
  exact ⟨by omega, fun s hs => by have := h.2 s hs; simp at this; exact this⟩
set_option maxRecDepth 100000 in
set_option maxHeartbeats 400000 in
theorem long_any (v : Value) (l : List ByteArray) (w : World) (hv : GAt KS w v l) : Calls Tryd.prog 16 #[v] w (fun e w' => e = .returned (.bool (longP l)) ∧ Below w.heap.size w w') := by
  obtain ⟨ao, cap, rfl⟩ := hv.len
  obtain ⟨n, hnn⟩ : ∃ n, l.length = n := ⟨_, rfl⟩
  obtain ⟨B, hB⟩ : ∃ b, (l.any fun s => decide (1000 < s.size)) = b := ⟨_, rfl⟩
  have hR : longP l = (decide (60 < n) || B) := by unfold longP; rw [hB, hnn]
  rw [hR]
  rw [hnn] at hv ⊢
  by_cases h60 : 60 < n
  · rw [decide_eq_true h60, Bool.true_or]
    have i60 : (60 : Int) < (n : Int) := by omega
    clear hR hB hnn hv h60
    go_enter Tryd.func16, Tryd.ntmps16
    go_wp2_with fail
    go_ret
    exact ⟨rfl, Below.refl _ _⟩
  · rw [decide_eq_false h60, Bool.false_or]
    have i60 : ¬ (60 : Int) < (n : Int) := by omega
    have H0 : HidL ((l.drop 0).any (fun s => decide (1000 < s.size)) = B) := ⟨hB⟩
    have HN := hideL hnn
    have HV := hideL hv
    clear hR hB hnn hv
    go_enter Tryd.func16, Tryd.ntmps16
    go_wp2_with fail
    go_loopw [3] (fun i wr => ∃ k : Nat, k ≤ n ∧ i = .int .i64 k ∧ HidL (Below w.heap.size w wr) ∧ HidL ((l.drop k).any (fun s => decide (1000 < s.size)) = B)) (fun i _ => n - (RowKit.intOf i).toNat)
    case atStart => exact ⟨0, Nat.zero_le _, rfl, ⟨Below.refl _ _⟩, H0⟩
    case round =>
      obtain ⟨k, hk, rfl, HB, HD⟩ := hrel
      clear H0
      obtain ⟨W, rfl⟩ : ∃ W, W = wr := ⟨_, rfl⟩
      by_cases hlt : k < n
      · have hlt' : (k : Int) < (n : Int) := by omega
        obtain ⟨b, o, hao, hbl, hcell⟩ := gat_text HV.out (k := k) hlt
        subst hao
        have hkl : k < l.length := by rw [HN.out]; exact hlt
        have hd : l.drop k = l.getD k ByteArray.empty :: l.drop (k + 1) := by
          rw [List.drop_eq_getElem_cons hkl]
          simp [List.getD, hkl]
        have hD := HD.out
        rw [hd, List.any_cons] at hD
        generalize l.getD k ByteArray.empty = x at *
        have c0 := (HB.out.cell (p := ⟨b, o + k, none⟩) hbl).trans hcell
        clear hcell hd HD
        by_cases hx : 1000 < x.size
        · rw [decide_eq_true hx, Bool.true_or] at hD
          subst hD
          have hx' : (1000 : Int) < (x.size : Int) := by omega
          go_wp2_with fail
          go_ret
          exact ⟨rfl, HB.out⟩
        · rw [decide_eq_false hx, Bool.false_or] at hD
          have HD2 := hideL hD
          have hx' : ¬ (1000 : Int) < (x.size : Int) := by omega
          clear hD
          go_wp2_with fail
          go_roundw
          case rel => exact ⟨k + 1, by omega, by go_num, HB, HD2⟩
          case measure => simp [RowKit.intOf]; omega
      · obtain rfl : k = n := by omega
        have hlt' : ¬ (k : Int) < (k : Int) := by omega
        have hD := HD.out
        rw [List.drop_of_length_le (by rw [HN.out]; omega)] at hD
        have hBf : B = false := hD.symm
        subst hBf
        clear hD HD
        go_wp2_with fail
        go_ret
        exact ⟨rfl, HB.out⟩
end Go.Proofs.YthbgnkkjchaaeaaDoor
