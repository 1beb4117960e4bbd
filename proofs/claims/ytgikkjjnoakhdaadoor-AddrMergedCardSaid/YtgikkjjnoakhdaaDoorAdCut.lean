/- The document's Cut. -/
import Derived.Test.YtgikkjjnoakhdaaDoorAdStrs
import Derived.Test.YtgikkjjnoakhdaaDoorAdDig
namespace Go.Proofs.YtgikkjjnoakhdaaDoor
open Go.RowKit Go.Lib

def TextsAre (l : List ByteArray) (m : List (List UInt8)) : Prop := l.map (fun b => b.data.toList) = m
/-- What is cut so far: the pieces that are done, and where the next one begins. -/
def CutTo (c : UInt8) (s : ByteArray) (done : List ByteArray) (f i : Nat) : Prop :=
  (f ≤ i ∧ i ≤ s.size ∧ cutL c s.data.toList = done.map (fun b => b.data.toList) ++ cutL c (s.data.toList.drop f) ∧ c ∉ (s.data.toList.drop f).take (i - f)) ∨ (i = s.size + 1 ∧ f = s.size + 1 ∧ cutL c s.data.toList = done.map (fun b => b.data.toList))
theorem piece_list (s : ByteArray) (f i : Nat) : (s.extract f i).data.toList = (s.data.toList.drop f).take (i - f) := by
  rw [ByteArray.data_extract, Array.toList_extract, List.extract_eq_take_drop]
theorem CutTo.last {c : UInt8} {s : ByteArray} {done : List ByteArray} {f : Nat} (h : CutTo c s done f s.size) : CutTo c s (done ++ [s.extract f s.size]) (s.size + 1) (s.size + 1) := by
  rcases h with ⟨h1, h2, h3, h4⟩ | ⟨h1, _⟩
  · refine .inr ⟨rfl, rfl, ?_⟩
    have e : (s.data.toList.drop f).take (s.size - f) = s.data.toList.drop f := List.take_of_length_le (by rw [List.length_drop, Array.length_toList]; exact Nat.le_refl _)
    rw [e] at h4
    rw [h3, cutL_one c _ h4, List.map_append, List.map_singleton, piece_list, e]
  · omega
theorem CutTo.hit {c : UInt8} {s : ByteArray} {done : List ByteArray} {f i : Nat} (h : CutTo c s done f i) (hi : i < s.size) (hc : s[i] = c) : CutTo c s (done ++ [s.extract f i]) (i + 1) (i + 1) := by
  rcases h with ⟨h1, h2, h3, h4⟩ | ⟨h1, _⟩
  · refine .inl ⟨Nat.le_refl _, hi, ?_, by simp⟩
    have e : s.data.toList.drop f = (s.data.toList.drop f).take (i - f) ++ c :: s.data.toList.drop (i + 1) := by
      conv => lhs; rw [← List.take_append_drop (i - f) (s.data.toList.drop f), List.drop_drop, show f + (i - f) = i by omega, get_byte s i hi, hc]
    rw [h3, List.map_append, List.map_singleton, piece_list, List.append_assoc]
    congr 1
    rw [e]
    conv => lhs; rw [cutL_hit c _ _ h4]
    rw [List.take_left' (by rw [List.length_take, List.length_drop, Array.length_toList]; have : s.data.size = s.size := rfl; omega)]
    rfl
  · omega
theorem CutTo.miss {c : UInt8} {s : ByteArray} {done : List ByteArray} {f i : Nat} (h : CutTo c s done f i) (hi : i < s.size) (hc : s[i] ≠ c) : CutTo c s done f (i + 1) := by
  rcases h with ⟨h1, h2, h3, h4⟩ | ⟨h1, _⟩
  · refine .inl ⟨by omega, hi, h3, ?_⟩
    rw [show i + 1 - f = (i - f) + 1 by omega, List.take_add_one]
    intro hm
    rcases List.mem_append.1 hm with hm | hm
    · exact h4 hm
    · rw [List.getElem?_drop, show f + (i - f) = i by omega] at hm
      have hi2 : i < s.data.toList.length := by rw [Array.length_toList]; exact hi
      rw [List.getElem?_eq_getElem hi2] at hm
      simp at hm
      exact hc hm.symm
  · omega
theorem CutTo.done' {c : UInt8} {s : ByteArray} {done : List ByteArray} {f : Nat} (h : CutTo c s done f (s.size + 1)) : TextsAre done (cutL c s.data.toList) := by
  rcases h with ⟨h1, h2, h3, h4⟩ | ⟨_, _, h3⟩
  · omega
  · exact h3.symm
theorem CutTo.from_le {c : UInt8} {s : ByteArray} {done : List ByteArray} {f i : Nat} (h : CutTo c s done f i) (hi : i ≤ s.size) : f ≤ i := by
  rcases h with ⟨h1, _⟩ | ⟨h1, _⟩
  · exact h1
  · omega
theorem CutTo.few {c : UInt8} {s : ByteArray} {done : List ByteArray} {f i : Nat} (h : CutTo c s done f i) : done.length ≤ s.size + 1 := by
  have hl : (cutL c s.data.toList).length ≤ s.size + 1 := by
    have h := cutL_length c s.data.toList
    have e : s.data.toList.length = s.size := by rw [Array.length_toList]; rfl
    omega
  rcases h with ⟨_, _, h3, _⟩ | ⟨_, _, h3⟩
  · rw [h3, List.length_append, List.length_map] at hl
    omega
  · rw [h3, List.length_map] at hl
    omega

set_option maxRecDepth 100000 in
set_option maxHeartbeats 1000000 in
theorem cutR_any (s : ByteArray) (c : UInt8) (hs : s.size ≤ 100000) (w : World) : Calls Tryd.prog 37 #[.string s, .int .u8 c.toNat] w (fun e w' => ∃ v l, e = .returned v ∧ TRow w' w.heap.size v l ∧ TextsAre l (cutL c s.data.toList) ∧ Below w.heap.size w w') := by
  go_enter Tryd.func37, Tryd.ntmps37
  go_wp2_with fail
  go_loopw [5, 6, 7] (fun o f i wr => ∃ (k j : Nat) (done : List ByteArray), i = .int .i64 k ∧ f = .int .i64 j ∧ k ≤ s.size + 1 ∧ CutTo c s done j k ∧ TRow wr w.heap.size o done ∧ Below w.heap.size w wr)
    (fun _ _ i _ => s.size + 1 - (intOf i).toNat)
  case atStart => exact ⟨0, 0, [], rfl, rfl, by omega, .inl ⟨Nat.le_refl _, Nat.zero_le _, rfl, by simp⟩, TRow.nil _ _, Below.refl _ _⟩
  case round =>
    obtain ⟨k, j, done, rfl, rfl, hk, hC, hR, hB⟩ := hrel
    by_cases hle : k ≤ s.size
    · have hj := hC.from_le hle
      obtain ⟨v2, w2, hrun, hR2, hB2⟩ := append_text wr w.heap.size _ done hR (s.extract j k) (by have := hC.few; omega) hB.size
      have hle' : (k : Int) ≤ (s.size : Int) := by omega
      have hj' : (j : Int) ≤ (k : Int) := by omega
      have HR := hide hR
      have HB := hide hB
      have HB2 := hide ((hB.alloc hB.size _).trans hB2)
      have HR2 := hide hR2
      have HRUN := hide hrun
      clear hrun hR2 hB2 hB hR
      by_cases he : k = s.size
      · subst he
        have HC := hide hC.last
        clear hC
        go_wp2_with (at_builtin; with_reducible refine wpList_append_run rfl (.tmp 25) (.tmp 30) 53 53 53 rfl rfl u5 (.slice (some ⟨wr.heap.size, 0, none⟩) 1 1) v2 w2 rfl rfl HRUN.out ?_)
        go_roundw
        case rel => exact ⟨s.size + 1, s.size + 1, _, by first | rfl | go_num, by first | rfl | simp, Nat.le_refl _, HC.out, HR2.out, HB2.out⟩
        case measure => simp [intOf]
      · have hlt : k < s.size := by omega
        have hne' : ¬ (k : Int) = (s.size : Int) := by omega
        by_cases hc : s[k] = c
        · have hc' : ((s[k].toNat : Nat) : Int) = ((c.toNat : Nat) : Int) := by rw [hc]
          have HC := hide (hC.hit hlt hc)
          clear hC hc
          go_wp2_with (at_builtin; with_reducible refine wpList_append_run rfl (.tmp 25) (.tmp 30) 53 53 53 rfl rfl u5 (.slice (some ⟨wr.heap.size, 0, none⟩) 1 1) v2 w2 rfl rfl HRUN.out ?_)
          go_roundw
          case rel => exact ⟨k + 1, k + 1, _, by go_num, by first | rfl | simp, by omega, HC.out, HR2.out, HB2.out⟩
          case measure => simp [intOf]; omega
        · have hc' : ¬ ((s[k].toNat : Nat) : Int) = ((c.toNat : Nat) : Int) := fun e => hc (UInt8.toNat_inj.1 (by omega))
          have hb1 : (((s[k].toNat : Nat) : Int) == ((c.toNat : Nat) : Int)) = false := by simpa using hc'
          have hb2 : ((k : Int) == (s.size : Int)) = false := by simpa using hne'
          have HC := hide (hC.miss hlt hc)
          clear hC hc HRUN HR2 HB2
          go_wp2_with fail
          go_roundw
          case rel => exact ⟨k + 1, j, done, by go_num, rfl, by omega, HC.out, HR.out, HB.out⟩
          case measure => simp [intOf]; omega
    · obtain rfl : k = s.size + 1 := by omega
      have HT := hide hC.done'
      have HR := hide hR
      have HB := hide hB
      clear hC hR hB
      go_wp2_with fail
      go_ret
      exact ⟨_, _, rfl, HR.out, HT.out, HB.out⟩
end Go.Proofs.YtgikkjjnoakhdaaDoor
