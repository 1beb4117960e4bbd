/- More plain words of layer 9: texts trimmed in either order, values gone through byte by byte, numbers as the library reads them. No program is named here. -/
import Derived.Test.YtilefgmlnmpeoaaDoorHdPl
import Derived.Lib.SlTrimSet
import Derived.Lib.AtoiAll
namespace Go.Proofs.YtilefgmlnmpeoaaDoor

theorem bytes_ext {a b : ByteArray} (h : a.data.toList = b.data.toList) : a = b := by
  obtain ⟨x⟩ := a
  obtain ⟨y⟩ := b
  rw [show x = y from Array.toList_inj.1 h]
def bo (l : List UInt8) : ByteArray := ⟨l.toArray⟩
theorem bo_list (l : List UInt8) : (bo l).data.toList = l := rfl
theorem bo_of (s : ByteArray) : bo s.data.toList = s := bytes_ext rfl
theorem bo_size (l : List UInt8) : (bo l).size = l.length := rfl
theorem bo_inj {a b : List UInt8} (h : bo a = bo b) : a = b := by
  have := congrArg (fun x : ByteArray => x.data.toList) h
  exact this
theorem not_head {x c : UInt8} {a : List UInt8} (h : x ∉ c :: a) : ¬ c = x := fun e => h (e ▸ List.mem_cons_self)

theorem ws_set : (fun c : UInt8 => ([32, 9] : List UInt8).contains c) = wsB := by
  funext c
  exact all_u8 (P := fun c => ([32, 9] : List UInt8).contains c = wsB c) (by decide +kernel) c
theorem head_drop (p : UInt8 → Bool) : ∀ l : List UInt8, (l.dropWhile p).head?.any p = false
  | [] => rfl
  | c :: r => by
    by_cases h : p c = true
    · rw [List.dropWhile_cons_of_pos h]; exact head_drop p r
    · rw [List.dropWhile_cons_of_neg h]
      simpa using h
theorem trim_bare (s : List UInt8) : bareP (trimP s) = true := by
  unfold bareP trimP
  rw [List.getLast?_reverse, head_drop]
  have hd := List.takeWhile_append_dropWhile (p := wsB) (l := (s.dropWhile wsB).reverse)
  have hs : s.dropWhile wsB = (((s.dropWhile wsB).reverse).dropWhile wsB).reverse ++ (((s.dropWhile wsB).reverse).takeWhile wsB).reverse := by
    rw [← List.reverse_append, hd, List.reverse_reverse]
  have h0 := head_drop wsB s
  generalize (((s.dropWhile wsB).reverse).dropWhile wsB).reverse = e at *
  cases e with
  | nil => rfl
  | cons c r =>
    rw [hs] at h0
    simpa using h0
theorem trim_parts (s : List UInt8) : ∃ a b, s = a ++ trimP s ++ b ∧ (∀ c ∈ a, wsB c = true) ∧ (∀ c ∈ b, wsB c = true) := by
  refine ⟨s.takeWhile wsB, (((s.dropWhile wsB).reverse).takeWhile wsB).reverse, ?_, fun c hc => ?_, fun c hc => ?_⟩
  · unfold trimP
    rw [List.append_assoc, ← List.reverse_append, List.takeWhile_append_dropWhile, List.reverse_reverse, List.takeWhile_append_dropWhile]
  · exact List.all_eq_true.1 (List.all_takeWhile (p := wsB) (l := s)) c hc
  · exact List.all_eq_true.1 (List.all_takeWhile (p := wsB) (l := (s.dropWhile wsB).reverse)) c (List.mem_reverse.1 hc)
theorem bare_reverse {v : List UInt8} (h : bareP v = true) : bareP v.reverse = true := by
  unfold bareP at h ⊢
  rw [List.head?_reverse, List.getLast?_reverse, Bool.and_comm]
  exact h
/-- The library trims the end first. -/
theorem trimS_eq (s : List UInt8) : Go.Lib.trimS s [32, 9] = trimP s := by
  obtain ⟨a, b, hs, ha, hb⟩ := trim_parts s
  have h1 : Go.Lib.trimS s [32, 9] = (trimP s.reverse).reverse := by
    unfold Go.Lib.trimS Go.Lib.trimLeftS Go.Lib.trimRightS trimP
    rw [ws_set, List.reverse_reverse]
  have h2 : s.reverse = b.reverse ++ (trimP s).reverse ++ a.reverse := by
    conv => lhs; rw [hs]
    rw [List.reverse_append, List.reverse_append, List.append_assoc]
  rw [h1, h2, trim_pad (fun c hc => hb c (List.mem_reverse.1 hc)) (fun c hc => ha c (List.mem_reverse.1 hc)) (bare_reverse (trim_bare s)), List.reverse_reverse]
theorem trim_id (s : List UInt8) : decide (trimP s = s) = bareP s := by
  by_cases h : trimP s = s
  · rw [decide_eq_true h, ← h, trim_bare]
  · rw [decide_eq_false h]
    cases hb : bareP s with
    | false => rfl
    | true =>
      have := trim_pad (a := []) (b := []) (fun c hc => by cases hc) (fun c hc => by cases hc) hb
      simp at this
      exact absurd this h

/-- A value gone through byte by byte (f: this is the first). -/
def vL : Bool → List UInt8 → Bool
  | _, [] => true
  | f, c :: r => if wsB c then !(f || r.isEmpty) && vL false r else viB c && vL false r
theorem vL_behind : ∀ s : List UInt8, vL false s = (s.all (fun c => wsB c || viB c) && !(s.getLast?.any wsB))
  | [] => rfl
  | [c] => by
    unfold vL
    cases hw : wsB c <;> simp [hw, vL]
  | c :: d :: r => by
    have ih := vL_behind (d :: r)
    unfold vL
    rw [ih, List.getLast?_cons_cons, List.all_cons (a := c)]
    generalize (d :: r).all _ = A
    cases wsB c <;> simp [Bool.and_assoc]
theorem vL_eq (s : List UInt8) : vL true s = (s.all (fun c => wsB c || viB c) && bareP s) := by
  unfold bareP
  cases s with
  | nil => rfl
  | cons c r =>
    unfold vL
    rw [vL_behind]
    cases r with
    | nil => cases hw : wsB c <;> simp [hw]
    | cons d q =>
      rw [List.getLast?_cons_cons, List.all_cons (a := c)]
      generalize (d :: q).all _ = A
      cases hw : wsB c <;> simp [hw, Bool.and_assoc]
theorem valP_eq (s : List UInt8) : valP s = (decide (s.length ≤ 512) && vL true s) := by
  rw [vL_eq]
  unfold valP
  rw [Bool.and_assoc]

theorem parse_digits : ∀ (l : List UInt8) (acc : Nat), acc < 18446744073709551616 → (∀ c ∈ l, digB c = true) → Go.Lib.parseUint10 acc l = if numN acc l < 18446744073709551616 then .ok (numN acc l) else .range
  | [], acc, h, _ => by
    rw [numN_nil, if_pos h]
    rfl
  | c :: r, acc, h, hd => by
    have hc : 48 ≤ c.toNat ∧ c.toNat ≤ 57 := by
      have := hd c (List.mem_cons_self ..)
      unfold digB at this
      exact of_decide_eq_true this
    have hr := fun x hx => hd x (List.mem_cons_of_mem _ hx)
    rw [numN_cons]
    unfold Go.Lib.parseUint10
    rw [if_pos hc]
    have hn := numN_le r (addN acc c)
    have ha := addN_eq acc c
    split
    · rw [if_neg (by omega)]
    split
    · rw [if_neg (by omega)]
    · rw [← ha]
      exact parse_digits r (addN acc c) (by omega) hr
theorem atoi_digits (l : List UInt8) (h0 : l ≠ []) (hd : ∀ c ∈ l, digB c = true) : Go.Lib.atoiAll l = if numN 0 l < 9223372036854775808 then .ok (numN 0 l : Int) else .range := by
  cases l with
  | nil => exact absurd rfl h0
  | cons c r =>
    have hc : 48 ≤ c.toNat ∧ c.toNat ≤ 57 := by
      have := hd c (List.mem_cons_self ..)
      unfold digB at this
      exact of_decide_eq_true this
    unfold Go.Lib.atoiAll
    simp only
    rw [if_neg (by omega)]
    unfold Go.Lib.parseMag
    rw [if_neg (by simp), parse_digits _ 0 (by omega) hd]
    generalize numN 0 (c :: r) = n
    have h45 : ¬ c.toNat = 45 := by omega
    simp only [h45, if_false, not_false_eq_true, true_and, false_and]
    by_cases h1 : n < 18446744073709551616
    · rw [if_pos h1]
      simp only
      by_cases h2 : n < 9223372036854775808
      · rw [if_neg (by omega), if_pos h2]
      · rw [if_pos (by omega), if_neg h2]
    · rw [if_neg h1, if_neg (by omega)]
end Go.Proofs.YtilefgmlnmpeoaaDoor
