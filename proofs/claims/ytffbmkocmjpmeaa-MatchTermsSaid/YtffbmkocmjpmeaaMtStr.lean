/- The library's small functions of texts. -/
import Derived.Test.YtffbmkocmjpmeaaProg
import Derived.Test.YtffbmkocmjpmeaaMtPl
import Derived.Test.YtffbmkocmjpmeaaShelf
import Derived.WalkKit
import Derived.WalkSpells
import Derived.WalkLawsBesides
import Derived.IntWalk
import Derived.Outline
import Derived.Deep.QuietTactic
import Derived.BigQuiet
import Derived.Laws.Strings
import Derived.Lib.Bytealg
import Derived.WideShapes
import Derived.StillTactics
import Derived.Laws.EntriesVeiled
namespace Go.Proofs.Ytffbmkocmjpmeaa
open Go.RowKit Go.Lib

structure HidL (p : Prop) : Prop where
  out : p
theorem hideL {p : Prop} (h : p) : HidL p := ⟨h⟩
theorem byte_at (s : ByteArray) (k : Nat) (h : k < s.size) : s.data.toList.drop k = s[k] :: s.data.toList.drop (k + 1) := by
  have h2 : k < s.data.toList.length := by rw [Array.length_toList]; exact h
  rw [List.drop_eq_getElem_cons h2]
  congr 1
theorem size_list (s : ByteArray) : s.data.toList.length = s.size := by rw [Array.length_toList]; rfl
theorem below_drewN5 (w : World) : ∀ n, Below w.heap.size w (w.drewN n)
  | 0 => Below.refl _ _
  | n + 1 => (below_drewN5 w n).drew
theorem eqs_true {s t : ByteArray} (h : s = t) : (s.toList == t.toList) = true := by rw [h]; exact beq_self_eq_true _
theorem eqs_false {s t : ByteArray} (h : s ≠ t) : (s.toList == t.toList) = false := beq_eq_false_iff_ne.2 fun e => h (bytes_ext (by rw [ByteArray.toList_eq, ByteArray.toList_eq] at e; exact e))
theorem eqs_dec (s t : ByteArray) : (s.toList == t.toList) = decide (s = t) := by
  by_cases h : s = t
  · rw [eqs_true h, decide_eq_true h]
  · rw [eqs_false h, decide_eq_false h]
theorem ex_list (s : ByteArray) (i j : Nat) : (s.extract i j).data.toList = (s.data.toList.drop i).take (j - i) := by
  rw [ByteArray.data_extract, Array.toList_extract]
theorem pre_iff (s p : ByteArray) (_ : p.size ≤ s.size) : ((s.extract 0 p.size).toList == p.toList) = decide (p.data.toList <+: s.data.toList) := by
  rw [eqs_dec]
  apply decide_eq_decide.2
  rw [List.prefix_iff_eq_take, size_list]
  constructor
  · intro e
    have : (_ : ByteArray).data.toList = _ := congrArg (fun b : ByteArray => b.data.toList) e
    rw [ex_list, Nat.sub_zero, List.drop_zero] at this
    exact this.symm
  · intro e
    apply bytes_ext
    rw [ex_list, Nat.sub_zero, List.drop_zero]
    exact e.symm
theorem pre_no (s p : ByteArray) (h : ¬ p.size ≤ s.size) : decide (p.data.toList <+: s.data.toList) = false := decide_eq_false fun e => h (by have := e.length_le; rwa [size_list, size_list] at this)
theorem suf_iff (s p : ByteArray) (_ : p.size ≤ s.size) : ((s.extract (s.size - p.size) s.size).toList == p.toList) = decide (p.data.toList <:+ s.data.toList) := by
  rw [eqs_dec]
  apply decide_eq_decide.2
  rw [List.suffix_iff_eq_drop, size_list, size_list]
  have hl : ((s.data.toList.drop (s.size - p.size)).take (s.size - (s.size - p.size))) = s.data.toList.drop (s.size - p.size) := List.take_of_length_le (by rw [List.length_drop, size_list]; omega)
  constructor
  · intro e
    have : (_ : ByteArray).data.toList = _ := congrArg (fun b : ByteArray => b.data.toList) e
    rw [ex_list, hl] at this
    exact this.symm
  · intro e
    apply bytes_ext
    rw [ex_list, hl]
    exact e.symm
theorem suf_no (s p : ByteArray) (h : ¬ p.size ≤ s.size) : decide (p.data.toList <:+ s.data.toList) = false := decide_eq_false fun e => h (by have := e.length_le; rwa [size_list, size_list] at this)

set_option maxRecDepth 100000 in
set_option maxHeartbeats 400000 in
theorem hasPre_any (s p : ByteArray) (w : World) : Calls Try.prog 38 #[.string s, .string p] w (fun e w' => e = .returned (.bool (decide (p.data.toList <+: s.data.toList))) ∧ Below w.heap.size w w') := by
  by_cases h : p.size ≤ s.size
  · rw [← pre_iff s p h]
    go_enter Try.func38, Try.ntmps38
    go_wp2
    go_ret
    exact ⟨rfl, Below.refl _ _⟩
  · rw [pre_no s p h]
    go_enter Try.func38, Try.ntmps38
    go_wp2
    go_ret
    exact ⟨rfl, Below.refl _ _⟩
set_option maxRecDepth 100000 in
set_option maxHeartbeats 400000 in
theorem hasSuf_any (s p : ByteArray) (hs : s.size ≤ 9223372036854775807) (w : World) : Calls Try.prog 39 #[.string s, .string p] w (fun e w' => e = .returned (.bool (decide (p.data.toList <:+ s.data.toList))) ∧ Below w.heap.size w w') := by
  by_cases h : p.size ≤ s.size
  · have hlo : ((s.size : Int) - (p.size : Int) + 9223372036854775808) % 18446744073709551616 - 9223372036854775808 = ((s.size - p.size : Nat) : Int) := by omega
    rw [← suf_iff s p h]
    go_enter Try.func39, Try.ntmps39
    go_wp2
    go_ret
    exact ⟨rfl, Below.refl _ _⟩
  · rw [suf_no s p h]
    go_enter Try.func39, Try.ntmps39
    go_wp2
    go_ret
    exact ⟨rfl, Below.refl _ _⟩
theorem cutP_hit {s p : ByteArray} (h : decide (p.data.toList <+: s.data.toList) = true) : bo (cutP p.data.toList s.data.toList) = s.extract p.size s.size := by
  apply bytes_ext
  rw [bo_list, ex_list]
  unfold cutP
  rw [if_pos (of_decide_eq_true h), size_list]
  exact (List.take_of_length_le (by rw [List.length_drop, size_list]; omega)).symm
theorem cutP_miss {s p : ByteArray} (h : decide (p.data.toList <+: s.data.toList) = false) : bo (cutP p.data.toList s.data.toList) = s := by
  unfold cutP
  rw [if_neg (of_decide_eq_false h)]
  exact bo_of s
theorem cutE_hit {s p : ByteArray} (h : decide (p.data.toList <:+ s.data.toList) = true) : bo (cutE p.data.toList s.data.toList) = s.extract 0 (s.size - p.size) := by
  apply bytes_ext
  rw [bo_list, ex_list]
  unfold cutE
  rw [if_pos (of_decide_eq_true h), size_list, size_list]
  rfl
theorem cutE_miss {s p : ByteArray} (h : decide (p.data.toList <:+ s.data.toList) = false) : bo (cutE p.data.toList s.data.toList) = s := by
  unfold cutE
  rw [if_neg (of_decide_eq_false h)]
  exact bo_of s
set_option maxRecDepth 100000 in
set_option maxHeartbeats 400000 in
theorem trimPre_any (s p : ByteArray) (w : World) : Calls Try.prog 43 #[.string s, .string p] w (fun e w' => e = .returned (.string (bo (cutP p.data.toList s.data.toList))) ∧ Below w.heap.size w w') := by
  by_cases h : p.size ≤ s.size
  · have hp := pre_iff s p h
    obtain ⟨b, hb⟩ : ∃ b, decide (p.data.toList <+: s.data.toList) = b := ⟨_, rfl⟩
    cases b
    · rw [cutP_miss hb]
      rw [hb] at hp
      clear hb
      go_enter Try.func43, Try.ntmps43
      go_wp2
      go_ret
      exact ⟨rfl, Below.refl _ _⟩
    · rw [cutP_hit hb]
      rw [hb] at hp
      clear hb
      go_enter Try.func43, Try.ntmps43
      go_wp2
      go_ret
      exact ⟨rfl, Below.refl _ _⟩
  · rw [cutP_miss (pre_no s p h)]
    go_enter Try.func43, Try.ntmps43
    go_wp2
    go_ret
    exact ⟨rfl, Below.refl _ _⟩
set_option maxRecDepth 100000 in
set_option maxHeartbeats 400000 in
theorem trimSuf_any (s p : ByteArray) (hs : s.size ≤ 9223372036854775807) (w : World) : Calls Try.prog 42 #[.string s, .string p] w (fun e w' => e = .returned (.string (bo (cutE p.data.toList s.data.toList))) ∧ Below w.heap.size w w') := by
  by_cases h : p.size ≤ s.size
  · have hlo : ((s.size : Int) - (p.size : Int) + 9223372036854775808) % 18446744073709551616 - 9223372036854775808 = ((s.size - p.size : Nat) : Int) := by omega
    have hp := suf_iff s p h
    obtain ⟨b, hb⟩ : ∃ b, decide (p.data.toList <:+ s.data.toList) = b := ⟨_, rfl⟩
    cases b
    · rw [cutE_miss hb]
      rw [hb] at hp
      clear hb
      go_enter Try.func42, Try.ntmps42
      go_wp2
      go_ret
      exact ⟨rfl, Below.refl _ _⟩
    · rw [cutE_hit hb]
      rw [hb] at hp
      clear hb
      go_enter Try.func42, Try.ntmps42
      go_wp2
      go_ret
      exact ⟨rfl, Below.refl _ _⟩
  · rw [cutE_miss (suf_no s p h)]
    go_enter Try.func42, Try.ntmps42
    go_wp2
    go_ret
    exact ⟨rfl, Below.refl _ _⟩
set_option maxRecDepth 100000 in
theorem indexByte_any (s : ByteArray) (c : Int) (w : World) : Calls Try.prog 44 #[.string s, .int .u8 c] w (fun e w' => e = .returned (.int .i64 (Lib.indexByte s.data.toList c.toNat.toUInt8)) ∧ w' = w) := by
  go_enter Try.func44, Try.ntmps44
  go_wp2
  rw [run_callFunc_extern Try.func50 (by kernel_rfl) (by kernel_rfl) (by kernel_rfl) (e := Extern.BytealgIndexByte.indexByte) (by kernel_rfl), Lib.run_indexByteString]
  simp only [Result.andThen]
  rw [Oper.upon_value]
  go_wp2
  go_ret
  exact ⟨rfl, rfl⟩
set_option maxRecDepth 100000 in
theorem clone_any (s : ByteArray) (hs : s.size ≤ 281474976710656) (w : World) : Calls Try.prog 31 #[.string s] w (fun e w' => e = .returned (.string s) ∧ Below w.heap.size w w') := by
  have HC := hideL (fun W : World => Any.stringslite_Clone Try.laysM316 s W hs)
  go_enter Try.func31, Try.ntmps31
  go_wp2_with (go_at_call 35; refine (HC.out _).mono ?_; rintro e w2 ⟨rfl, hB2⟩)
  go_ret
  exact ⟨rfl, hB2⟩
end Go.Proofs.Ytffbmkocmjpmeaa
