/- The document's Host. -/
import Derived.Test.YtafmgoekgijfgaaGreatDoorYRqM1
import Derived.Test.YtafmgoekgijfgaaGreatDoorYRqM2
namespace Go.Proofs.YtafmgoekgijfgaaGreatDoor
open Go.RowKit Go.Lib

theorem tw_cut {a d : List UInt8} (ha : ∀ c ∈ a, c ≠ 58) : (a ++ 58 :: d).takeWhile (· != 58) = a ∧ (a ++ 58 :: d).dropWhile (· != 58) = 58 :: d := by
 induction a with
 | nil => simp
 | cons c a ih =>
   have hc := ha c (List.mem_cons_self ..)
   obtain ⟨h1, h2⟩ := ih fun x hx => ha x (List.mem_cons_of_mem _ hx)
   constructor
   · rw [List.cons_append, List.takeWhile_cons_of_pos (by simpa using hc), h1]
   · rw [List.cons_append, List.dropWhile_cons_of_pos (by simpa using hc), h2]
theorem tw_all {a : List UInt8} (ha : ∀ c ∈ a, c ≠ 58) : a.takeWhile (· != 58) = a ∧ a.dropWhile (· != 58) = [] := by
 induction a with
 | nil => simp
 | cons c a ih =>
   have hc := ha c (List.mem_cons_self ..)
   obtain ⟨h1, h2⟩ := ih fun x hx => ha x (List.mem_cons_of_mem _ hx)
   constructor
   · rw [List.takeWhile_cons_of_pos (by simpa using hc), h1]
   · rw [List.dropWhile_cons_of_pos (by simpa using hc), h2]
theorem host_long {L : List UInt8} (h : 64 < L.length) : hosP L = (false, false) := by unfold hosP; rw [if_pos (.inl h)]
theorem host_bad {L : List UInt8} {k : Nat} (hk : k < L.length) (ht : ∀ c ∈ L.take k, c ≠ 58 ∧ hoB c = true) (h1 : L[k] ≠ 58) (h2 : hoB L[k] = false) : hosP L = (false, false) := by
 have key : (L.takeWhile (· != 58)).all hoB = false := by
  have e : L = (L.take k ++ [L[k]]) ++ L.drop (k + 1) := by rw [← List.take_succ_eq_append_getElem hk, List.take_append_drop]
  have hp : (L.take k ++ [L[k]]).all (· != (58 : UInt8)) = true := by
    rw [List.all_eq_true]
    intro c hc
    rcases List.mem_append.1 hc with h | h
    · simpa using (ht c h).1
    · rw [List.mem_singleton.1 h]; simpa using h1
  cases hx : (L.takeWhile (· != 58)).all hoB with
  | false => rfl
  | true =>
    rw [List.all_eq_true] at hx
    have hm : L[k] ∈ L.takeWhile (· != 58) := by
      have e2 : L.takeWhile (· != 58) = (L.take k ++ [L[k]]) ++ (L.drop (k + 1)).takeWhile (· != 58) := by
        conv => lhs; rw [e]
        rw [List.takeWhile_append, if_pos (by rw [(tw_all fun c hc => by simpa using List.all_eq_true.1 hp c hc).1])]
      rw [e2]
      exact List.mem_append_left _ (List.mem_append_right _ (List.mem_singleton_self _))
    rw [hx _ hm] at h2
    cases h2
 unfold hosP
 rw [if_pos (.inr (.inr key))]
theorem host_nil {L : List UInt8} (h : L.takeWhile (· != 58) = []) : hosP L = (false, false) := by unfold hosP; rw [if_pos (.inr (.inl h))]
theorem host_all {L : List UInt8} (hl : L.length ≤ 64) (h0 : L ≠ []) (ht : ∀ c ∈ L, c ≠ 58 ∧ hoB c = true) : hosP L = (true, false) := by
 obtain ⟨h1, h2⟩ := tw_all fun c hc => (ht c hc).1
 have h3 : L.all hoB = true := List.all_eq_true.2 fun c hc => (ht c hc).2
 unfold hosP
 rw [h1, h2, if_neg]
 rintro (h | h | h)
 · omega
 · exact h0 h
 · rw [h3] at h; cases h
theorem host_port {a d : List UInt8} (hl : (a ++ 58 :: d).length ≤ 64) (h0 : a ≠ []) (ht : ∀ c ∈ a, c ≠ 58 ∧ hoB c = true) : hosP (a ++ 58 :: d) = (porP d, porP d) := by
 obtain ⟨h1, h2⟩ := tw_cut (d := d) fun c hc => (ht c hc).1
 have h3 : a.all hoB = true := List.all_eq_true.2 fun c hc => (ht c hc).2
 unfold hosP
 rw [h1, h2, if_neg]
 rintro (h | h | h)
 · omega
 · exact h0 h
 · rw [h3] at h; cases h
theorem port_len {d : List UInt8} (h : ¬ (1 ≤ d.length ∧ d.length ≤ 5)) : porP d = false := by
 unfold porP
 rw [decide_eq_false h]
 rfl
theorem port_zero {d : List UInt8} (h : d.head? = some 48) : porP d = false := by
 unfold porP
 rw [show decide (d.head? ≠ some 48) = false from decide_eq_false (fun e => e h), Bool.and_false]
 rfl
theorem port_bad {d : List UInt8} {c : UInt8} (hc : c ∈ d) (h : digB c = false) : porP d = false := by
 unfold porP
 have : d.all digB = false := by
   cases hx : d.all digB with
   | false => rfl
   | true => rw [List.all_eq_true.1 hx c hc] at h; cases h
 rw [this, Bool.and_false]
 rfl
theorem port_ok {d : List UInt8} (h1 : 1 ≤ d.length ∧ d.length ≤ 5) (h2 : d.head? ≠ some 48) (h3 : ∀ c ∈ d, digB c = true) : porP d = decide (numN 0 d ≤ 65535) := by
 unfold porP
 rw [decide_eq_true h1, decide_eq_true h2, List.all_eq_true.2 h3]
 rfl
end Go.Proofs.YtafmgoekgijfgaaGreatDoor
