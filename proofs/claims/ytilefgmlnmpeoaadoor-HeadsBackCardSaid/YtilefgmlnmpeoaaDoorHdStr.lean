/- The library's small functions of texts: HasPrefix, IndexByte, Cut at one byte. -/
import Derived.Test.YtilefgmlnmpeoaaDoorProg
import Derived.Test.YtilefgmlnmpeoaaDoorHdPl2
import Derived.WalkKit
import Derived.WalkSpells
import Derived.WalkLawsBesides
import Derived.IntWalk
import Derived.Outline
import Derived.Deep.QuietTactic
import Derived.BigQuiet
import Derived.Laws.Strings
import Derived.Lib.Bytealg
import Derived.WideShapes
import Derived.StillTactics
import Derived.Laws.EntriesVeiled
import Derived.Laws.RangeAny
namespace Go.Proofs.YtilefgmlnmpeoaaDoor
open Go.RowKit Go.Lib

structure HidL (p : Prop) : Prop where
  out : p
theorem hideL {p : Prop} (h : p) : HidL p := ⟨h⟩
theorem size_list (s : ByteArray) : s.data.toList.length = s.size := by rw [Array.length_toList]; rfl
theorem byte_at (s : ByteArray) (k : Nat) (h : k < s.size) : s.data.toList.drop k = s[k] :: s.data.toList.drop (k + 1) := by
  have h2 : k < s.data.toList.length := by rw [Array.length_toList]; exact h
  rw [List.drop_eq_getElem_cons h2]
  congr 1
theorem ex_list (s : ByteArray) (i j : Nat) : (s.extract i j).data.toList = (s.data.toList.drop i).take (j - i) := by
  rw [ByteArray.data_extract, Array.toList_extract, List.extract_eq_take_drop]
theorem eqs_true {s t : ByteArray} (h : s = t) : (s.toList == t.toList) = true := by rw [h]; exact beq_self_eq_true _
theorem eqs_false {s t : ByteArray} (h : s ≠ t) : (s.toList == t.toList) = false := beq_eq_false_iff_ne.2 fun e => h (bytes_ext (by rw [ByteArray.toList_eq, ByteArray.toList_eq] at e; exact e))
theorem eqs_dec (s t : ByteArray) : (s.toList == t.toList) = decide (s = t) := by
  by_cases h : s = t
  · rw [eqs_true h, decide_eq_true h]
  · rw [eqs_false h, decide_eq_false h]
theorem below_drewN5 (w : World) : ∀ n, Below w.heap.size w (w.drewN n)
  | 0 => Below.refl _ _
  | n + 1 => (below_drewN5 w n).drew
theorem pre_iff (s p : ByteArray) (_ : p.size ≤ s.size) : ((s.extract 0 p.size).toList == p.toList) = decide (p.data.toList <+: s.data.toList) := by
  rw [eqs_dec]
  apply decide_eq_decide.2
  rw [List.prefix_iff_eq_take, size_list]
  constructor
  · intro e
    have : (_ : ByteArray).data.toList = _ := congrArg (fun b : ByteArray => b.data.toList) e
    rw [ex_list, Nat.sub_zero, List.drop_zero] at this
    exact this.symm
  · intro e
    apply bytes_ext
    rw [ex_list, Nat.sub_zero, List.drop_zero]
    exact e.symm
theorem pre_no (s p : ByteArray) (h : ¬ p.size ≤ s.size) : decide (p.data.toList <+: s.data.toList) = false := decide_eq_false fun e => h (by have := e.length_le; rwa [size_list, size_list] at this)
theorem pre_one (c : UInt8) (l : List UInt8) : decide ([c] <+: l) = decide (l.head? = some c) := by
  apply decide_eq_decide.2
  cases l with
  | nil => simp
  | cons d l => simp [List.cons_prefix_cons, eq_comm]

set_option maxRecDepth 100000 in
set_option maxHeartbeats 400000 in
theorem hasPre_any (s p : ByteArray) (w : World) : Calls Tryd.prog 67 #[.string s, .string p] w (fun e w' => e = .returned (.bool (decide (p.data.toList <+: s.data.toList))) ∧ w' = w) := by
  by_cases h : p.size ≤ s.size
  · rw [← pre_iff s p h]
    go_enter Tryd.func67, Tryd.ntmps67
    go_wp2
    go_ret
    exact ⟨rfl, rfl⟩
  · rw [pre_no s p h]
    go_enter Tryd.func67, Tryd.ntmps67
    go_wp2
    go_ret
    exact ⟨rfl, rfl⟩
set_option maxRecDepth 100000 in
theorem indexByte_any (s : ByteArray) (c : Int) (w : World) : Calls Tryd.prog 34 #[.string s, .int .u8 c] w (fun e w' => e = .returned (.int .i64 (Lib.indexByte s.data.toList c.toNat.toUInt8)) ∧ w' = w) := by
  go_enter Tryd.func34, Tryd.ntmps34
  go_wp2
  rw [run_callFunc_extern Tryd.func65 (by kernel_rfl) (by kernel_rfl) (by kernel_rfl) (e := Extern.BytealgIndexByte.indexByte) (by kernel_rfl), Lib.run_indexByteString]
  simp only [Result.andThen]
  rw [Oper.upon_value]
  go_wp2
  go_ret
  exact ⟨rfl, rfl⟩
theorem idx_none {c : UInt8} : ∀ {l : List UInt8}, c ∉ l → Lib.indexByte l c = -1
  | [], _ => rfl
  | b :: l, h => by
    rw [Lib.indexByte, if_neg (by simpa using not_head h), idx_none (fun e => h (List.mem_cons_of_mem _ e))]
    rfl
theorem idx_hit {c : UInt8} (b : List UInt8) : ∀ {a : List UInt8}, c ∉ a → Lib.indexByte (a ++ c :: b) c = a.length
  | [], _ => by rw [List.nil_append, Lib.indexByte, if_pos (by simp)]; rfl
  | d :: a, h => by
    rw [List.cons_append, Lib.indexByte, if_neg (by simpa using not_head h), idx_hit b (fun e => h (List.mem_cons_of_mem _ e)), if_neg (by rw [beq_iff_eq]; omega), List.length_cons]
    rfl
theorem idx_iff {c : UInt8} {l : List UInt8} : Lib.indexByte l c < 0 ↔ c ∉ l := by
  constructor
  · intro h hm
    obtain ⟨a, b, rfl, ha⟩ := List.eq_append_cons_of_mem hm
    rw [idx_hit b ha] at h
    omega
  · intro h; rw [idx_none h]; decide
set_option maxRecDepth 100000 in
theorem ix_any (s : ByteArray) (c : UInt8) (w : World) : Calls Tryd.prog 55 #[.string s, .int .u8 c.toNat] w (fun e w' => e = .returned (.int .i64 (Lib.indexByte s.data.toList c)) ∧ w' = w) := by
  have hc : ((c.toNat : Nat) : Int).toNat.toUInt8 = c := by simp
  go_enter Tryd.func55, Tryd.ntmps55
  go_wp2
  rw [run_callFunc_extern Tryd.func65 (by kernel_rfl) (by kernel_rfl) (by kernel_rfl) (e := Extern.BytealgIndexByte.indexByte) (by kernel_rfl), Lib.run_indexByteString, hc]
  simp only [Result.andThen]
  rw [Oper.upon_value]
  go_wp2
  go_ret
  exact ⟨rfl, rfl⟩
set_option maxRecDepth 100000 in
set_option maxHeartbeats 1000000 in
theorem index_any (s : ByteArray) (c : UInt8) (w : World) : Calls Tryd.prog 66 #[.string s, .string ⟨#[c]⟩] w (fun e w' => e = .returned (.int .i64 (Lib.indexByte s.data.toList c)) ∧ w' = w) := by
  obtain ⟨V, hV⟩ : ∃ V, Lib.indexByte s.data.toList c = V := ⟨_, rfl⟩
  have HX := hideL (fun W : World => ix_any s c W)
  rw [hV] at HX ⊢
  by_cases h : (⟨#[c]⟩ : ByteArray) = s
  · have h0 : V = 0 := by
      rw [← hV, ← h]
      exact idx_hit (c := c) [] (a := []) (by simp)
    have h1 : ([c] == s.toList) = true := by have := eqs_true h; rwa [ByteArray.toList_eq ⟨#[c]⟩] at this
    subst h0
    clear h hV HX
    go_enter Tryd.func66, Tryd.ntmps66
    go_wp2_with fail
    go_ret
    exact ⟨rfl, rfl⟩
  · have h1 : ([c] == s.toList) = false := by have := eqs_false h; rwa [ByteArray.toList_eq ⟨#[c]⟩] at this
    clear h hV
    go_enter Tryd.func66, Tryd.ntmps66
    go_wp2_with (go_at_call 55; refine (HX.out _).mono ?_; rintro e w2 ⟨rfl, rfl⟩)
    go_ret
    exact ⟨rfl, rfl⟩
theorem bo_pre {s : ByteArray} {a b : List UInt8} {c : UInt8} (h : s.data.toList = a ++ c :: b) : s.extract 0 a.length = bo a ∧ s.extract (a.length + 1) s.size = bo b ∧ a.length + 1 ≤ s.size := by
  have hl : s.size = a.length + (b.length + 1) := by rw [← size_list, h, List.length_append, List.length_cons]
  refine ⟨bytes_ext ?_, bytes_ext ?_, by omega⟩
  · rw [ex_list, h, List.drop_zero, Nat.sub_zero, bo_list, List.take_left' rfl]
  · rw [ex_list, h, bo_list, List.drop_append, List.drop_of_length_le (by omega), show a.length + 1 - a.length = 1 by omega, List.nil_append, List.drop_succ_cons, List.drop_zero, List.take_of_length_le (by omega)]
set_option maxRecDepth 100000 in
set_option maxHeartbeats 1000000 in
theorem scut_none (s : ByteArray) (c : UInt8) (h : c ∉ s.data.toList) (w : World) : Calls Tryd.prog 57 #[.string s, .string ⟨#[c]⟩] w (fun e w' => e = .returned (.tuple #[.string s, .string ⟨#[]⟩, .bool false]) ∧ ∃ n, w' = w.drewN n) := by
  have HX := hideL (fun W : World => index_any s c W)
  rw [idx_none h] at HX
  go_enter Tryd.func57, Tryd.ntmps57
  go_wp2_with (first
    | (go_at_call 66; refine (HX.out _).mono ?_; rintro e w2 ⟨rfl, rfl⟩)
    | go_region)
  all_goals go_ret3
  all_goals exact ⟨rfl, 0, rfl⟩
set_option maxRecDepth 100000 in
set_option maxHeartbeats 1000000 in
theorem scut_hit (s : ByteArray) (c : UInt8) (a b : List UInt8) (h : s.data.toList = a ++ c :: b) (ha : c ∉ a) (hs : s.size ≤ 1000000) (w : World) : Calls Tryd.prog 57 #[.string s, .string ⟨#[c]⟩] w (fun e w' => e = .returned (.tuple #[.string (bo a), .string (bo b), .bool true]) ∧ ∃ n, w' = w.drewN n) := by
  have HX := hideL (fun W : World => index_any s c W)
  rw [h, idx_hit b ha] at HX
  obtain ⟨e1, e2, e3⟩ := bo_pre h
  obtain ⟨n, hn⟩ : ∃ n, a.length = n := ⟨_, rfl⟩
  rw [hn] at HX e1 e2 e3
  rw [← e1, ← e2]
  clear hn e1 e2 h ha
  have w1 : IntKind.i64.wrap ((n : Int) + 1) = ((n + 1 : Nat) : Int) := by rw [IntKind.wrap_i64]; omega
  have w2 : ((n : Int) + 1).toNat = n + 1 := by omega
  go_enter Tryd.func57, Tryd.ntmps57
  go_wp2_with (first
    | (go_at_call 66; refine (HX.out _).mono ?_; rintro e w2 ⟨rfl, rfl⟩)
    | go_region)
  all_goals go_ret3
  all_goals exact ⟨rfl, 1, rfl⟩
set_option maxRecDepth 100000 in
theorem cut_none (s : ByteArray) (c : UInt8) (h : c ∉ s.data.toList) (w : World) : Calls Tryd.prog 38 #[.string s, .string ⟨#[c]⟩] w (fun e w' => e = .returned (.tuple #[.string s, .string ⟨#[]⟩, .bool false]) ∧ ∃ n, w' = w.drewN n) := by
  have HX := hideL (fun W : World => scut_none s c h W)
  clear h
  go_enter Tryd.func38, Tryd.ntmps38
  go_wp2_with (go_at_call 57; refine (HX.out _).mono ?_; rintro e w2 ⟨rfl, n, rfl⟩)
  go_ret3
  exact ⟨rfl, n, rfl⟩
set_option maxRecDepth 100000 in
theorem cut_hit (s : ByteArray) (c : UInt8) (a b : List UInt8) (h : s.data.toList = a ++ c :: b) (ha : c ∉ a) (hs : s.size ≤ 1000000) (w : World) : Calls Tryd.prog 38 #[.string s, .string ⟨#[c]⟩] w (fun e w' => e = .returned (.tuple #[.string (bo a), .string (bo b), .bool true]) ∧ ∃ n, w' = w.drewN n) := by
  have HX := hideL (fun W : World => scut_hit s c a b h ha hs W)
  clear h ha
  go_enter Tryd.func38, Tryd.ntmps38
  go_wp2_with (go_at_call 57; refine (HX.out _).mono ?_; rintro e w2 ⟨rfl, n, rfl⟩)
  go_ret3
  exact ⟨rfl, n, rfl⟩
end Go.Proofs.YtilefgmlnmpeoaaDoor
