/- Names put in their order one by one. No program is named here. -/
import Derived.Test.YtjbfaaoeoggkpaaNmPl
namespace Go.Proofs.Ytjbfaaoeoggkpaa

/-- A name put at its place; a name that is there is not put in again. -/
noncomputable def insN (x : Nm) : List Nm → List Nm
  | [] => [x]
  | y :: t => if cmpN y x < 0 then y :: insN x t else if y = x then y :: t else x :: y :: t
noncomputable def sortN (l : List Nm) : List Nm := l.foldl (fun o x => insN x o) []
theorem mem_insN {x y : Nm} : ∀ {l : List Nm}, y ∈ insN x l ↔ y = x ∨ y ∈ l
  | [] => by simp [insN]
  | z :: t => by
    rw [insN]
    split
    · rw [List.mem_cons, mem_insN, List.mem_cons]
      constructor
      · rintro (h | h | h)
        · exact .inr (.inl h)
        · exact .inl h
        · exact .inr (.inr h)
      · rintro (h | h | h)
        · exact .inr (.inl h)
        · exact .inl h
        · exact .inr (.inr h)
    · split
      · rename_i h
        subst h
        simp
      · simp [List.mem_cons]
theorem cmpN_lt {a b : Nm} (h : cmpN a b < 0) : cmpN a b = -1 := by
  rcases cmpN_vals a b with h2 | h2 | h2 <;> omega
theorem rises_insN {x : Nm} : ∀ {l : List Nm}, Rises l → Rises (insN x l)
  | [], _ => by simp [insN, Rises]
  | y :: t, h => by
    have h' := List.pairwise_cons.1 h
    rw [insN]
    split
    · rename_i hlt
      refine List.pairwise_cons.2 ⟨fun z hz => ?_, rises_insN h'.2⟩
      rcases mem_insN.1 hz with rfl | hz
      · exact cmpN_lt hlt
      · exact h'.1 z hz
    · split
      · exact h
      · rename_i h1 h2
        refine List.pairwise_cons.2 ⟨fun z hz => ?_, h⟩
        have h3 : cmpN x y = -1 := by
          have h4 := cmpN_neg x y
          rcases cmpN_vals x y with h5 | h5 | h5
          · exact h5
          · exact absurd (cmpN_zero h5).symm h2
          · omega
        rcases List.mem_cons.1 hz with rfl | hz
        · exact h3
        · exact cmpN_trans h3 (h'.1 z hz)
theorem foldl_insN : ∀ (l o : List Nm), Rises o → Rises (l.foldl (fun o x => insN x o) o) ∧ ∀ y, y ∈ l.foldl (fun o x => insN x o) o ↔ y ∈ o ∨ y ∈ l
  | [], o, h => ⟨h, fun y => by simp⟩
  | x :: l, o, h => by
    obtain ⟨h1, h2⟩ := foldl_insN l (insN x o) (rises_insN h)
    refine ⟨h1, fun y => ?_⟩
    rw [List.foldl_cons, h2, mem_insN, List.mem_cons]
    constructor
    · rintro ((h | h) | h)
      · exact .inr (.inl h)
      · exact .inl h
      · exact .inr (.inr h)
    · rintro (h | h | h)
      · exact .inl (.inr h)
      · exact .inl (.inl h)
      · exact .inr h
theorem rises_sortN (l : List Nm) : Rises (sortN l) := (foldl_insN l [] List.Pairwise.nil).1
theorem mem_sortN {l : List Nm} {y : Nm} : y ∈ sortN l ↔ y ∈ l := by
  rw [sortN, (foldl_insN l [] List.Pairwise.nil).2 y]
  simp
/-- What rises and has the same names is what was sorted. -/
theorem sortN_of {l m : List Nm} (h : Rises m) (h2 : ∀ y, y ∈ m ↔ y ∈ l) : m = sortN l := rises_one h (rises_sortN l) fun y => (h2 y).trans mem_sortN.symm
theorem sortN_take {l : List Nm} {k : Nat} (hk : k < l.length) : sortN (l.take (k + 1)) = insN (l.getD k default) (sortN (l.take k)) := by
  unfold sortN
  rw [List.take_add_one, List.foldl_append]
  simp [List.getD, hk]
theorem length_insN (x : Nm) : ∀ l : List Nm, (insN x l).length ≤ l.length + 1
  | [] => by simp [insN]
  | y :: t => by
    have := length_insN x t
    rw [insN]
    split
    · simp; omega
    · split <;> simp
theorem length_foldl (l : List Nm) : ∀ o : List Nm, (l.foldl (fun o x => insN x o) o).length ≤ o.length + l.length := by
  induction l with
  | nil => intro o; simp
  | cons x l ih =>
    intro o
    have h1 := ih (insN x o)
    have h2 := length_insN x o
    rw [List.foldl_cons, List.length_cons]
    omega
theorem length_sortN (l : List Nm) : (sortN l).length ≤ l.length := by
  have := length_foldl l []
  simpa [sortN] using this
/-- The place at which a name goes in. -/
theorem insN_at {x : Nm} : ∀ {l : List Nm} {k : Nat}, k ≤ l.length → (∀ i, i < k → cmpN (l.getD i default) x < 0) → (k < l.length → ¬ cmpN (l.getD k default) x < 0) →
    insN x l = if k < l.length ∧ l.getD k default = x then l else l.take k ++ x :: l.drop k
  | [], k, hk, _, _ => by
    obtain rfl : k = 0 := by simpa using hk
    simp [insN]
  | y :: t, 0, _, _, h2 => by
    have h3 := h2 (by simp)
    rw [insN, if_neg (by simpa using h3)]
    by_cases h : y = x
    · rw [if_pos h, if_pos ⟨by simp, by simpa using h⟩]
    · rw [if_neg h, if_neg (by simpa using h)]
      rfl
  | y :: t, k + 1, hk, h1, h2 => by
    have h3 := h1 0 (by omega)
    have ih := insN_at (x := x) (l := t) (k := k) (by simpa using hk) (fun i hi => by simpa using h1 (i + 1) (by omega)) (fun hlt => by simpa using h2 (by simpa using hlt))
    rw [insN, if_pos (by simpa using h3), ih]
    by_cases h : k < t.length ∧ t.getD k default = x
    · rw [if_pos h, if_pos (by simpa using h)]
    · rw [if_neg h, if_neg (by simpa using h)]
      rfl
end Go.Proofs.Ytjbfaaoeoggkpaa
