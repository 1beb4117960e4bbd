/- The laws' blanks; letters made large. -/
import Derived.Test.YtilefgmlnmpeoaaDoorHdLaw
import Derived.Test.YtilefgmlnmpeoaaDoorHdSmall
namespace Go.Proofs.YtilefgmlnmpeoaaDoor
open Go.RowKit Go.Lib

/-- So many blanks and tabs. -/
def bkL (n : Nat) : List UInt8 := (List.range n).map fun i => if i % 2 = 0 then 32 else 9
theorem bkL_zero : bkL 0 = [] := rfl
theorem bkL_succ (n : Nat) : bkL (n + 1) = bkL n ++ [if n % 2 = 0 then 32 else 9] := by
  unfold bkL
  rw [List.range_succ, List.map_append]
  rfl
theorem bkL_len (n : Nat) : (bkL n).length = n := by simp [bkL]
theorem bkL_ws (n : Nat) : ∀ c ∈ bkL n, wsB c = true := by
  intro c hc
  unfold bkL at hc
  obtain ⟨i, _, rfl⟩ := List.mem_map.1 hc
  split <;> decide
theorem bo_app (a b : List UInt8) : bo a ++ bo b = bo (a ++ b) := by
  apply bytes_ext
  rw [bo_list]
  simp [bo]
theorem bits_odd : ∀ k : Nat, k < 20 → (bits .and .i64 (k : Int) 1 == 0) = decide (k % 2 = 0) := by decide +kernel
set_option maxRecDepth 100000 in
theorem blanks_any (n : Nat) (hn : n ≤ 20) (w : World) : Calls Tryd.prog 30 #[.int .i64 n] w (fun e w' => e = .returned (.string (bo (bkL n))) ∧ Below w.heap.size w w') := by
  go_enter Tryd.func30, Tryd.ntmps30
  go_wp2_with fail
  go_loopw [3, 4] (fun x i wr => ∃ k : Nat, k ≤ n ∧ i = .int .i64 k ∧ x = .string (bo (bkL k)) ∧ w = wr) (fun _ i _ => n - (RowKit.intOf i).toNat)
  case atStart => exact ⟨0, Nat.zero_le _, rfl, rfl, rfl⟩
  case round =>
    obtain ⟨k, hk, rfl, rfl, rfl⟩ := hrel
    by_cases hlt : k < n
    · have hlt' : (k : Int) < (n : Int) := by omega
      have hz : (bo (bkL k)).size = k := by rw [bo_size, bkL_len]
      have a1 : ¬ 9223372036854775807 < (bo (bkL k)).size + 1 := by omega
      have e1 : bo (bkL (k + 1)) = bo (bkL k) ++ bo [if k % 2 = 0 then 32 else 9] := by rw [bkL_succ, bo_app]
      have HE := hideL e1
      clear e1 hz
      generalize hX : bo (bkL k) = X at *
      have hbit := bits_odd k (by omega)
      by_cases h2 : k % 2 = 0
      · rw [decide_eq_true h2] at hbit
        rw [if_pos h2] at HE
        clear h2 hX
        go_wp2_with fail
        go_roundw
        case rel => exact ⟨k + 1, by omega, by go_num, by rw [HE.out]; rfl, trivial⟩
        case measure => simp [RowKit.intOf]; omega
      · rw [decide_eq_false h2] at hbit
        rw [if_neg h2] at HE
        clear h2 hX
        go_wp2_with fail
        go_roundw
        case rel => exact ⟨k + 1, by omega, by go_num, by rw [HE.out]; rfl, trivial⟩
        case measure => simp [RowKit.intOf]; omega
    · obtain rfl : k = n := by omega
      have hlt' : ¬ (k : Int) < (k : Int) := by omega
      go_wp2_with fail
      go_ret
      exact ⟨rfl, Below.refl _ _⟩
/-- The first k bytes made large. -/
def lgK (l : List UInt8) (k : Nat) : List UInt8 := (l.take k).map lgB ++ l.drop k
theorem lgK_zero (l : List UInt8) : lgK l 0 = l := rfl
theorem lgK_all (l : List UInt8) : lgK l l.length = l.map lgB := by simp [lgK]
theorem lgK_len (l : List UInt8) (k : Nat) : (lgK l k).length = l.length := by simp [lgK]; omega
theorem lgK_get {l : List UInt8} {k : Nat} (h : k < l.length) : (lgK l k).getD k 0 = l.getD k 0 := by
  unfold lgK
  have e : ((l.take k).map lgB).length = k := by simp; omega
  rw [List.getD, List.getD, List.getElem?_append_right (by omega), e, Nat.sub_self, List.getElem?_drop, Nat.add_zero]
theorem lgK_step {l : List UInt8} {k : Nat} (h : k < l.length) : lgK l (k + 1) = (lgK l k).set k (lgB (l.getD k 0)) := by
  unfold lgK
  have e : ((l.take k).map lgB).length = k := by simp; omega
  rw [List.set_append_right _ _ (by omega), e, Nat.sub_self, List.drop_eq_getElem_cons h, List.set_cons_zero, List.take_add_one, List.getElem?_eq_getElem h, List.map_append, List.append_assoc]
  simp only [List.getD, h, getElem?_pos]
  rfl
theorem lgK_same {l : List UInt8} {k : Nat} (h : k < l.length) (hc : lgB (l.getD k 0) = l.getD k 0) : lgK l (k + 1) = lgK l k := by
  rw [lgK_step h, hc, ← lgK_get h]
  have hl : k < (lgK l k).length := by rw [lgK_len]; exact h
  simp [List.getD, hl]
theorem lgB_low {c : UInt8} (h : 97 ≤ c.toNat ∧ c.toNat ≤ 122) : (lgB c).toNat = c.toNat - 32 := by
  unfold lgB
  rw [if_pos h, UInt8.toNat_sub]
  have : (32 : UInt8).toNat = 32 := rfl
  omega
theorem lgB_else {c : UInt8} (h : ¬ (97 ≤ c.toNat ∧ c.toNat ≤ 122)) : lgB c = c := by
  unfold lgB
  rw [if_neg h]
end Go.Proofs.YtilefgmlnmpeoaaDoor
