/- Plain words of layer 7: terms, what they match, what stands beside, their texts. No program is named here. -/
import Derived.WalkKit
import Derived.Below
namespace Go.Proofs.Ytffbmkocmjpmeaa

theorem bytes_ext {a b : ByteArray} (h : a.data.toList = b.data.toList) : a = b := by
  obtain ⟨x⟩ := a
  obtain ⟨y⟩ := b
  rw [show x = y from Array.toList_inj.1 h]
def bo (l : List UInt8) : ByteArray := ⟨l.toArray⟩
theorem bo_list (l : List UInt8) : (bo l).data.toList = l := rfl
theorem bo_of (s : ByteArray) : bo s.data.toList = s := bytes_ext rfl
theorem bo_size (l : List UInt8) : (bo l).size = l.length := rfl
theorem last_app {x l : List UInt8} (h : l ≠ []) : (x ++ l).getLast? = l.getLast? := by
  rw [List.getLast?_append]
  cases hl : l.getLast? with
  | none => exact absurd (List.getLast?_eq_none_iff.1 hl) h
  | some y => rfl
/-- A byte that a term may ask for. -/
def mtB (c : UInt8) : Bool := decide (33 ≤ c.toNat) && decide (c.toNat ≤ 126) && decide (c ≠ 42) && decide (c ≠ 44)
def mtS (l : List UInt8) : Bool := decide (1 ≤ l.length) && decide (l.length ≤ 64) && l.all mtB
/-- A term. -/
structure Tm where
  k : Int
  t : ByteArray
instance : Inhabited Tm := ⟨⟨0, ByteArray.empty⟩⟩
theorem Tm.same {a b : Tm} (h1 : a.k = b.k) (h2 : a.t.data.toList = b.t.data.toList) : a = b := by
  obtain ⟨x, y⟩ := a
  obtain ⟨z, t⟩ := b
  rw [show x = z from h1, show y = t from bytes_ext h2]
noncomputable instance : DecidableEq Tm := fun _ _ => Classical.propDecidable _
def mayK (k : Int) (l : List UInt8) : Bool := if k = 4 then l.isEmpty else (decide (1 ≤ k) && decide (k ≤ 3)) && mtS l
def mayM (a : Tm) : Bool := mayK a.k a.t.data.toList
def matK (k : Int) (l s : List UInt8) : Bool := if k = 1 then decide (s = l) else if k = 2 then decide (l <+: s) else if k = 3 then decide (l <:+ s) else !s.isEmpty
def matM (a : Tm) (s : List UInt8) : Bool := mayM a && matK a.k a.t.data.toList s
def anyM (s : List UInt8) (l : List Tm) : Bool := l.any fun a => matM a s
def letM (s : List UInt8) (l : List Tm) : Bool := l.isEmpty || anyM s l
def mayAllM (l : List Tm) : Bool := decide (l.length ≤ 6) && l.all mayM
/-- Whether a implies b, by kinds. -/
def impM (a b : Tm) : Bool := if mayM a = true then (if mayM b = true then (if a.k = 1 ∨ b.k = 4 then matM b a.t.data.toList || decide (b.k = 4) else decide (a.k = b.k) && matM b a.t.data.toList) else false) else true

def inM (a b : Tm) (beh : List UInt8) (z : Option (List UInt8)) : List (List UInt8) → Option (List UInt8)
  | [] => z
  | h :: r => if matM a (h ++ a.t.data.toList ++ beh) = true then (if matM b (h ++ a.t.data.toList ++ beh) = true then inM a b beh z r else some (h ++ a.t.data.toList ++ beh)) else z
def putM : List (List UInt8) := [[], [97], [98]]
def outM (a b : Tm) : List (List UInt8) → Option (List UInt8)
  | [] => none
  | beh :: r => inM a b beh (outM a b r) putM
/-- What is beside. -/
def besM (a b : Tm) : Option (List UInt8) := if mayM a = true then outM a b putM else none

theorem mtS_some {l : List UInt8} (h : mtS l = true) : 1 ≤ l.length ∧ l.length ≤ 64 ∧ ∀ c ∈ l, mtB c = true := by
  simp only [mtS, Bool.and_eq_true, decide_eq_true_eq] at h
  exact ⟨h.1.1, h.1.2, fun c hc => List.all_eq_true.1 h.2 c hc⟩
theorem mtB_some {c : UInt8} (h : mtB c = true) : 33 ≤ c.toNat ∧ c.toNat ≤ 126 ∧ c ≠ 42 ∧ c ≠ 44 := by
  simp only [mtB, Bool.and_eq_true, decide_eq_true_eq] at h
  exact ⟨h.1.1.1, h.1.1.2, h.1.2, h.2⟩
theorem mtS_ne {l : List UInt8} (h : mtS l = true) : l ≠ [] := by
  intro e
  have := (mtS_some h).1
  rw [e] at this
  simp at this
theorem mtS_star {l : List UInt8} (h : mtS l = true) : (42 : UInt8) ∉ l := fun hm => (mtB_some ((mtS_some h).2.2 42 hm)).2.2.1 rfl
theorem mayM_cases {a : Tm} (h : mayM a = true) : (a.k = 1 ∨ a.k = 2 ∨ a.k = 3) ∧ mtS a.t.data.toList = true ∨ a.k = 4 ∧ a.t.data.toList = [] := by
  unfold mayM mayK at h
  split at h
  · rename_i h4
    exact .inr ⟨h4, by simpa using h⟩
  · simp only [Bool.and_eq_true, decide_eq_true_eq] at h
    exact .inl ⟨by omega, h.2⟩
theorem mayM_bytes {a : Tm} (h : mayM a = true) : a.t.data.toList.length ≤ 64 ∧ ∀ c ∈ a.t.data.toList, 33 ≤ c.toNat ∧ c.toNat ≤ 126 := by
  rcases mayM_cases h with ⟨_, h⟩ | ⟨_, h⟩
  · obtain ⟨_, h2, h3⟩ := mtS_some h
    exact ⟨h2, fun c hc => ⟨(mtB_some (h3 c hc)).1, (mtB_some (h3 c hc)).2.1⟩⟩
  · rw [h]
    exact ⟨by simp, fun c hc => by simp at hc⟩
theorem matM_may {a : Tm} {s : List UInt8} (h : matM a s = true) : mayM a = true := by
  unfold matM at h
  rw [Bool.and_eq_true] at h
  exact h.1
theorem matM_no {a : Tm} (h : mayM a ≠ true) (s : List UInt8) : matM a s = false := by
  unfold matM
  rw [Bool.eq_false_iff.2 h, Bool.false_and]
theorem mat1 {a : Tm} {s : List UInt8} (h : mayM a = true) (hk : a.k = 1) : matM a s = true ↔ s = a.t.data.toList := by
  unfold matM matK
  rw [h, if_pos hk, Bool.true_and, decide_eq_true_eq]
theorem mat2 {a : Tm} {s : List UInt8} (h : mayM a = true) (hk : a.k = 2) : matM a s = true ↔ a.t.data.toList <+: s := by
  unfold matM matK
  rw [h, if_neg (by omega), if_pos hk, Bool.true_and, decide_eq_true_eq]
theorem mat3 {a : Tm} {s : List UInt8} (h : mayM a = true) (hk : a.k = 3) : matM a s = true ↔ a.t.data.toList <:+ s := by
  unfold matM matK
  rw [h, if_neg (by omega), if_neg (by omega), if_pos hk, Bool.true_and, decide_eq_true_eq]
theorem mat4 {a : Tm} {s : List UInt8} (h : mayM a = true) (hk : a.k = 4) : matM a s = true ↔ s ≠ [] := by
  unfold matM matK
  rw [h, if_neg (by omega), if_neg (by omega), if_neg (by omega), Bool.true_and]
  cases s <;> simp

/-- By kinds: what implies goes on to each text. -/
theorem impM_sound {a b : Tm} (h : impM a b = true) {s : List UInt8} (hs : matM a s = true) : matM b s = true := by
  have ha := matM_may hs
  unfold impM at h
  rw [if_pos ha] at h
  split at h
  · rename_i hb
    have hne : b.k = 4 → matM b s = true := fun h4 => by
      rw [mat4 hb h4]
      rintro rfl
      rcases mayM_cases ha with ⟨hk, ht⟩ | ⟨hk, _⟩
      · have hne := mtS_ne ht
        rcases hk with hk | hk | hk
        · exact hne ((mat1 ha hk).1 hs).symm
        · exact hne (List.prefix_nil.1 ((mat2 ha hk).1 hs))
        · exact hne (List.suffix_nil.1 ((mat3 ha hk).1 hs))
      · exact (mat4 ha hk).1 hs rfl
    split at h
    · rename_i hk
      rw [Bool.or_eq_true, decide_eq_true_eq] at h
      rcases h with h | h
      · rcases hk with hk | hk
        · rw [(mat1 ha hk).1 hs]
          exact h
        · exact hne hk
      · exact hne h
    · rename_i hk
      rw [Bool.and_eq_true, decide_eq_true_eq] at h
      obtain ⟨h1, h2⟩ := h
      rcases mayM_cases ha with ⟨hk2, _⟩ | ⟨hk2, _⟩
      · rcases hk2 with hk2 | hk2 | hk2
        · omega
        · rw [mat2 hb (by omega)] at h2 ⊢
          exact h2.trans ((mat2 ha hk2).1 hs)
        · rw [mat3 hb (by omega)] at h2 ⊢
          exact h2.trans ((mat3 ha hk2).1 hs)
      · omega
  · cases h
theorem inM_some {a b : Tm} {beh s : List UInt8} {z : Option (List UInt8)} : ∀ {r : List (List UInt8)}, inM a b beh z r = some s → (matM a s = true ∧ matM b s = false ∧ ∃ h ∈ r, s = h ++ a.t.data.toList ++ beh) ∨ z = some s
  | [], h => .inr h
  | x :: r, h => by
    unfold inM at h
    split at h
    · rename_i h1
      split at h
      · rcases inM_some h with ⟨h3, h4, y, hy, h5⟩ | h3
        · exact .inl ⟨h3, h4, y, by simp [hy], h5⟩
        · exact .inr h3
      · rename_i h2
        injection h with h
        rw [h] at h1 h2
        exact .inl ⟨h1, by simpa using h2, x, by simp, h.symm⟩
    · exact .inr h
theorem outM_some {a b : Tm} {s : List UInt8} : ∀ {r : List (List UInt8)}, outM a b r = some s → matM a s = true ∧ matM b s = false ∧ ∃ h ∈ putM, ∃ e ∈ r, s = h ++ a.t.data.toList ++ e
  | [], h => by cases h
  | x :: r, h => by
    rcases inM_some h with ⟨h1, h2, y, hy, h3⟩ | h1
    · exact ⟨h1, h2, y, hy, x, by simp, h3⟩
    · obtain ⟨h2, h3, y, hy, e, he, h4⟩ := outM_some h1
      exact ⟨h2, h3, y, hy, e, by simp [he], h4⟩
theorem putM_mem {x : List UInt8} (h : x ∈ putM) : x.length ≤ 1 ∧ ∀ c ∈ x, 33 ≤ c.toNat ∧ c.toNat ≤ 126 := by
  simp only [putM, List.mem_cons, List.not_mem_nil, or_false] at h
  rcases h with rfl | rfl | rfl
  · exact ⟨by simp, fun c hc => by simp at hc⟩
  · exact ⟨by simp, fun c hc => by rw [List.mem_singleton.1 hc]; decide⟩
  · exact ⟨by simp, fun c hc => by rw [List.mem_singleton.1 hc]; decide⟩
/-- What is beside is matched by a and not by b, is short and in sight. -/
theorem besM_some {a b : Tm} {s : List UInt8} (h : besM a b = some s) : matM a s = true ∧ matM b s = false ∧ s.length ≤ 66 ∧ ∀ c ∈ s, 33 ≤ c.toNat ∧ c.toNat ≤ 126 := by
  unfold besM at h
  split at h
  · rename_i ha
    obtain ⟨h1, h2, y, hy, e, he, rfl⟩ := outM_some h
    obtain ⟨l1, c1⟩ := putM_mem hy
    obtain ⟨l2, c2⟩ := putM_mem he
    obtain ⟨l3, c3⟩ := mayM_bytes ha
    refine ⟨h1, h2, by simp only [List.length_append]; omega, fun c hc => ?_⟩
    simp only [List.mem_append] at hc
    rcases hc with (hc | hc) | hc
    · exact c1 c hc
    · exact c3 c hc
    · exact c2 c hc
  · cases h
theorem inM_none {a b : Tm} {beh : List UInt8} {z : Option (List UInt8)} {x : List UInt8} {r : List (List UInt8)} (h : inM a b beh z (x :: r) = none) (hm : matM a (x ++ a.t.data.toList ++ beh) = true) : matM b (x ++ a.t.data.toList ++ beh) = true ∧ inM a b beh z r = none := by
  rw [inM, if_pos hm] at h
  split at h
  · rename_i h2
    exact ⟨h2, h⟩
  · cases h
theorem inM_last {a b : Tm} {beh : List UInt8} {z : Option (List UInt8)} : ∀ {r : List (List UInt8)}, inM a b beh z r = none → z = none
  | [], h => h
  | x :: r, h => by
    rw [inM] at h
    split at h
    · split at h
      · exact inM_last h
      · cases h
    · exact h
/-- Nothing beside: what was tried. -/
theorem besM_none {a b : Tm} (ha : mayM a = true) (h : besM a b = none) : ∀ e ∈ putM, (matM a (a.t.data.toList ++ e) = true → matM b (a.t.data.toList ++ e) = true) ∧
    (matM a (a.t.data.toList ++ e) = true → matM a (97 :: (a.t.data.toList ++ e)) = true → matM b (97 :: (a.t.data.toList ++ e)) = true ∧ (matM a (98 :: (a.t.data.toList ++ e)) = true → matM b (98 :: (a.t.data.toList ++ e)) = true)) := by
  unfold besM at h
  rw [if_pos ha] at h
  have hin : ∀ e ∈ putM, ∃ z, inM a b e z putM = none := by
    have h1 : inM a b [] (outM a b [[97], [98]]) putM = none := h
    have h2 : inM a b [97] (outM a b [[98]]) putM = none := inM_last h1
    have h3 : inM a b [98] (outM a b []) putM = none := inM_last h2
    intro e he
    simp only [putM, List.mem_cons, List.not_mem_nil, or_false] at he
    rcases he with rfl | rfl | rfl
    · exact ⟨_, h1⟩
    · exact ⟨_, h2⟩
    · exact ⟨_, h3⟩
  intro e he
  obtain ⟨z, hz⟩ := hin e he
  refine ⟨fun h1 => (inM_none hz h1).1, fun h1 h2 => ?_⟩
  have h3 := (inM_none hz h1).2
  have h4 := inM_none h3 h2
  exact ⟨h4.1, fun h5 => (inM_none h4.2 h5).1⟩
theorem besM_imp {a b : Tm} (h : besM a b = none) : impM a b = true := by
  unfold impM
  split
  · rename_i ha
    have hn := besM_none ha h
    have h0 := hn [] (by simp [putM])
    have h1 := hn [97] (by simp [putM])
    have h2 := hn [98] (by simp [putM])
    rw [List.append_nil] at h0
    rcases mayM_cases ha with ⟨hk, ht⟩ | ⟨hk, ht⟩
    · have hself : matM a a.t.data.toList = true := by
        rcases hk with hk | hk | hk
        · exact (mat1 ha hk).2 rfl
        · exact (mat2 ha hk).2 (List.prefix_refl _)
        · exact (mat3 ha hk).2 (List.suffix_refl _)
      have hb0 := h0.1 hself
      have hb := matM_may hb0
      rw [if_pos hb]
      split
      · rw [hb0, Bool.true_or]
      · rename_i hor
        rw [hb0, Bool.and_true, decide_eq_true_eq]
        rcases mayM_cases hb with ⟨hkb, htb⟩ | ⟨hkb, _⟩
        · have hne := mtS_ne htb
          rcases hk with hk | hk | hk
          · omega
          · have m1 := h1.1 ((mat2 ha hk).2 (List.prefix_append _ _))
            have m2 := h2.1 ((mat2 ha hk).2 (List.prefix_append _ _))
            rcases hkb with hkb | hkb | hkb
            · have e1 := (mat1 hb hkb).1 hb0
              have e2 := (mat1 hb hkb).1 m1
              rw [← e1] at e2
              have := congrArg List.length e2
              simp at this
            · omega
            · have e1 := (mat3 hb hkb).1 m1
              have e2 := (mat3 hb hkb).1 m2
              obtain ⟨x, hx⟩ := e1
              obtain ⟨y, hy⟩ := e2
              have g1 := congrArg List.getLast? hx
              have g2 := congrArg List.getLast? hy
              rw [last_app hne] at g1 g2
              rw [g1] at g2
              simp at g2
          · have m1 := (h0.2 hself ((mat3 ha hk).2 (List.suffix_cons _ _))).1
            have m2 := (h0.2 hself ((mat3 ha hk).2 (List.suffix_cons _ _))).2 ((mat3 ha hk).2 (List.suffix_cons _ _))
            rcases hkb with hkb | hkb | hkb
            · have e1 := (mat1 hb hkb).1 hb0
              have e2 := (mat1 hb hkb).1 m1
              rw [← e1] at e2
              have := congrArg List.length e2
              simp at this
            · have e1 := (mat2 hb hkb).1 m1
              have e2 := (mat2 hb hkb).1 m2
              obtain ⟨x, hx⟩ := e1
              obtain ⟨y, hy⟩ := e2
              cases hl : b.t.data.toList with
              | nil => exact absurd hl hne
              | cons c r =>
                rw [hl] at hx hy
                injection hx with hx _
                injection hy with hy _
                rw [hx] at hy
                cases hy
            · omega
        · omega
    · rw [ht, List.nil_append] at h1 h2
      have hs1 : matM a [97] = true := (mat4 ha hk).2 (by simp)
      have hs2 : matM a [98] = true := (mat4 ha hk).2 (by simp)
      have m1 := h1.1 hs1
      have m2 := h2.1 hs2
      have hb := matM_may m1
      rw [if_pos hb]
      rcases mayM_cases hb with ⟨hkb, htb⟩ | ⟨hkb, _⟩
      · exfalso
        have hne := mtS_ne htb
        rcases hkb with hkb | hkb | hkb
        · have e1 := (mat1 hb hkb).1 m1
          have e2 := (mat1 hb hkb).1 m2
          rw [← e1] at e2
          cases e2
        · obtain ⟨x, hx⟩ := (mat2 hb hkb).1 m1
          obtain ⟨y, hy⟩ := (mat2 hb hkb).1 m2
          cases hl : b.t.data.toList with
          | nil => exact absurd hl hne
          | cons c r =>
            rw [hl] at hx hy
            injection hx with hx _
            injection hy with hy _
            rw [hx] at hy
            cases hy
        · obtain ⟨x, hx⟩ := (mat3 hb hkb).1 m1
          obtain ⟨y, hy⟩ := (mat3 hb hkb).1 m2
          have g1 := congrArg List.getLast? hx
          have g2 := congrArg List.getLast? hy
          rw [last_app hne] at g1 g2
          rw [g1] at g2
          simp at g2
      · rw [if_pos (.inr hkb), hkb]
        simp
  · rfl
theorem imp_iff (a b : Tm) : impM a b = true ↔ ∀ s, matM a s = true → matM b s = true := by
  constructor
  · exact fun h s hs => impM_sound h hs
  · intro h
    cases hb : besM a b with
    | none => exact besM_imp hb
    | some s =>
      obtain ⟨h1, h2, _⟩ := besM_some hb
      rw [h s h1] at h2
      cases h2
/-- Implies: nothing is beside. -/
theorem imp_bes (a b : Tm) : impM a b = !(besM a b).isSome := by
  cases hb : besM a b with
  | none => rw [besM_imp hb]; rfl
  | some s =>
    obtain ⟨h1, h2, _⟩ := besM_some hb
    cases hi : impM a b with
    | false => rfl
    | true =>
      rw [impM_sound hi h1] at h2
      cases h2
theorem imp_self (a : Tm) : impM a a = true := (imp_iff a a).2 fun _ h => h
theorem imp_trans {a b c : Tm} (h1 : impM a b = true) (h2 : impM b c = true) : impM a c = true := (imp_iff a c).2 fun _ h => impM_sound h2 (impM_sound h1 h)
theorem imp_anti {a b : Tm} (ha : mayM a = true) (hb : mayM b = true) (h1 : impM a b = true) (h2 : impM b a = true) : a = b := by
  unfold impM at h1 h2
  rw [if_pos ha, if_pos hb] at h1
  rw [if_pos hb, if_pos ha] at h2
  have hmat : ∀ {x y : Tm}, mayM x = true → mayM y = true → y.k ≠ 4 → (if x.k = 1 ∨ y.k = 4 then matM y x.t.data.toList || decide (y.k = 4) else decide (x.k = y.k) && matM y x.t.data.toList) = true → matM y x.t.data.toList = true ∧ (x.k = 1 ∨ x.k = y.k) := by
    intro x y _ _ hy h
    split at h
    · rename_i hor
      rw [decide_eq_false hy, Bool.or_false] at h
      exact ⟨h, .inl (by omega)⟩
    · rw [Bool.and_eq_true, decide_eq_true_eq] at h
      exact ⟨h.2, .inr h.1⟩
  by_cases hka : a.k = 4
  · by_cases hkb : b.k = 4
    · refine Tm.same (by omega) ?_
      rcases mayM_cases ha with ⟨h, _⟩ | ⟨_, h⟩
      · omega
      · rcases mayM_cases hb with ⟨h3, _⟩ | ⟨_, h3⟩
        · omega
        · rw [h, h3]
    · obtain ⟨h3, h4⟩ := hmat ha hb hkb h1
      omega
  · by_cases hkb : b.k = 4
    · obtain ⟨h3, h4⟩ := hmat hb ha hka h2
      omega
    · obtain ⟨h3, h4⟩ := hmat ha hb hkb h1
      obtain ⟨h5, h6⟩ := hmat hb ha hka h2
      refine Tm.same (by omega) ?_
      have hkk : a.k = b.k := by omega
      rcases mayM_cases ha with ⟨h, _⟩ | ⟨h, _⟩
      · rcases h with h | h | h
        · exact (mat1 hb (by omega)).1 h3
        · have e1 := (mat2 hb (by omega)).1 h3
          have e2 := (mat2 ha h).1 h5
          exact e2.eq_of_length_le e1.length_le
        · have e1 := (mat3 hb (by omega)).1 h3
          have e2 := (mat3 ha h).1 h5
          exact e2.eq_of_length_le e1.length_le
      · omega

/-- A term's text. -/
def prK (k : Int) (l : List UInt8) : List UInt8 := if k = 1 then l else if k = 2 then l ++ [42] else if k = 3 then 42 :: l else [42]
def prM (a : Tm) : ByteArray := bo (prK a.k a.t.data.toList)
theorem pr_one {a b : Tm} (ha : mayM a = true) (hb : mayM b = true) (h : prM a = prM b) : a = b := by
  replace h : prK a.k a.t.data.toList = prK b.k b.t.data.toList := congrArg (fun s : ByteArray => s.data.toList) h
  have key : ∀ {a : Tm}, mayM a = true → (a.k = 1 ∧ (42 : UInt8) ∉ prK a.k a.t.data.toList ∧ prK a.k a.t.data.toList = a.t.data.toList) ∨
      (a.k = 2 ∧ (prK a.k a.t.data.toList).head? ≠ some 42 ∧ prK a.k a.t.data.toList = a.t.data.toList ++ [42]) ∨
      (a.k = 3 ∧ (prK a.k a.t.data.toList).getLast? ≠ some 42 ∧ prK a.k a.t.data.toList = 42 :: a.t.data.toList) ∨
      (a.k = 4 ∧ prK a.k a.t.data.toList = [42] ∧ a.t.data.toList = []) := by
    intro a ha
    unfold prK
    rcases mayM_cases ha with ⟨hk, ht⟩ | ⟨hk, ht⟩
    · have hs := mtS_star ht
      have hne := mtS_ne ht
      rcases hk with hk | hk | hk
      · rw [if_pos hk]
        exact .inl ⟨hk, hs, rfl⟩
      · rw [if_neg (by omega), if_pos hk]
        refine .inr (.inl ⟨hk, fun e => ?_, rfl⟩)
        cases hl : a.t.data.toList with
        | nil => exact hne hl
        | cons c r =>
          rw [hl] at e hs
          injection e with e
          exact hs (by rw [e]; simp)
      · rw [if_neg (by omega), if_neg (by omega), if_pos hk]
        refine .inr (.inr (.inl ⟨hk, fun e => ?_, rfl⟩))
        rw [show (42 : UInt8) :: a.t.data.toList = [42] ++ a.t.data.toList from rfl, last_app hne] at e
        exact hs (List.mem_of_getLast? e)
    · rw [if_neg (by omega), if_neg (by omega), if_neg (by omega)]
      exact .inr (.inr (.inr ⟨hk, rfl, ht⟩))
  rcases key ha with ⟨ka, pa, qa⟩ | ⟨ka, pa, qa⟩ | ⟨ka, pa, qa⟩ | ⟨ka, pa, qa⟩ <;> rcases key hb with ⟨kb, pb, qb⟩ | ⟨kb, pb, qb⟩ | ⟨kb, pb, qb⟩ | ⟨kb, pb, qb⟩
  · exact Tm.same (by omega) (by rw [← qa, ← qb, h])
  · rw [h, qb] at pa; simp at pa
  · rw [h, qb] at pa; simp at pa
  · rw [h, pb] at pa; simp at pa
  · rw [← h, qa] at pb; simp at pb
  · exact Tm.same (by omega) (by rw [qa, qb] at h; exact List.append_cancel_right h)
  · rw [h, qb] at pa; simp at pa
  · rw [h, pb] at pa; simp at pa
  · rw [← h, qa] at pb; simp at pb
  · rw [← h, qa] at pb; simp at pb
  · exact Tm.same (by omega) (by rw [qa, qb] at h; injection h)
  · rw [h, pb] at pa; simp at pa
  · rw [← h, pa] at pb; simp at pb
  · rw [← h, pa] at pb; simp at pb
  · rw [← h, pa] at pb; simp at pb
  · exact Tm.same (by omega) (by rw [qa, qb])
theorem prK_len {a : Tm} (h : mayM a = true) : (prM a).size ≤ 65 := by
  have hl := (mayM_bytes h).1
  show (prK a.k a.t.data.toList).length ≤ 65
  unfold prK
  split
  · omega
  · split
    · simp only [List.length_append, List.length_cons, List.length_nil]; omega
    · split
      · simp only [List.length_cons]; omega
      · simp

/-- What a text is cut to, for the kind. -/
def cutP (p s : List UInt8) : List UInt8 := if p <+: s then s.drop p.length else s
def cutE (p s : List UInt8) : List UInt8 := if p <:+ s then s.take (s.length - p.length) else s
def ahd (k : Nat) : List UInt8 := if k = 3 ∨ k = 4 then [42] else []
def bhd (k : Nat) : List UInt8 := if k = 2 then [42] else []
def tryM (k : Nat) (s : List UInt8) : Tm := ⟨(k : Int), bo (cutE (bhd k) (cutP (ahd k) s))⟩
def hitM (k : Nat) (s : List UInt8) : Bool := mayM (tryM k s) && decide ((prM (tryM k s)).data.toList = s)
def parM (s : List UInt8) : Option Tm := if hitM 1 s then some (tryM 1 s) else if hitM 2 s then some (tryM 2 s) else if hitM 3 s then some (tryM 3 s) else if hitM 4 s then some (tryM 4 s) else none
theorem hit_some {k : Nat} {s : List UInt8} (h : hitM k s = true) : mayM (tryM k s) = true ∧ prM (tryM k s) = bo s := by
  unfold hitM at h
  rw [Bool.and_eq_true, decide_eq_true_eq] at h
  exact ⟨h.1, bytes_ext h.2⟩
theorem parM_some {s : List UInt8} {a : Tm} (h : parM s = some a) : mayM a = true ∧ prM a = bo s := by
  unfold parM at h
  split at h
  · rename_i hh
    injection h with h
    rw [← h]
    exact hit_some hh
  · split at h
    · rename_i hh
      injection h with h
      rw [← h]
      exact hit_some hh
    · split at h
      · rename_i hh
        injection h with h
        rw [← h]
        exact hit_some hh
      · split at h
        · rename_i hh
          injection h with h
          rw [← h]
          exact hit_some hh
        · cases h
theorem cutP_nil (s : List UInt8) : cutP [] s = s := by
  unfold cutP
  rw [if_pos (List.nil_prefix)]
  rfl
theorem cutE_nil (s : List UInt8) : cutE [] s = s := by
  unfold cutE
  rw [if_pos (List.nil_suffix)]
  simp
theorem try1 (s : List UInt8) : tryM 1 s = ⟨1, bo s⟩ := by
  show (⟨1, bo (cutE [] (cutP [] s))⟩ : Tm) = _
  rw [cutP_nil, cutE_nil]
theorem try2 (s : List UInt8) : tryM 2 s = ⟨2, bo (cutE [42] s)⟩ := by
  show (⟨2, bo (cutE [42] (cutP [] s))⟩ : Tm) = _
  rw [cutP_nil]
theorem try3 (s : List UInt8) : tryM 3 s = ⟨3, bo (cutP [42] s)⟩ := by
  show (⟨3, bo (cutE [] (cutP [42] s))⟩ : Tm) = _
  rw [cutE_nil]
theorem try4 (s : List UInt8) : tryM 4 s = ⟨4, bo (cutP [42] s)⟩ := by
  show (⟨4, bo (cutE [] (cutP [42] s))⟩ : Tm) = _
  rw [cutE_nil]
/-- A text that is some term's is parsed. -/
theorem try_of {a : Tm} (ha : mayM a = true) : ∃ k : Nat, (k = 1 ∨ k = 2 ∨ k = 3 ∨ k = 4) ∧ tryM k (prM a).data.toList = a := by
  unfold prM prK
  rcases mayM_cases ha with ⟨hk, ht⟩ | ⟨hk, ht⟩
  · rcases hk with hk | hk | hk
    · refine ⟨1, by omega, ?_⟩
      rw [if_pos hk, bo_list, try1]
      exact Tm.same hk.symm rfl
    · refine ⟨2, by omega, ?_⟩
      rw [if_neg (by omega), if_pos hk, bo_list, try2]
      refine Tm.same hk.symm ?_
      rw [bo_list]
      unfold cutE
      rw [if_pos (List.suffix_append _ _)]
      simp
    · refine ⟨3, by omega, ?_⟩
      rw [if_neg (by omega), if_neg (by omega), if_pos hk, bo_list, try3]
      refine Tm.same hk.symm ?_
      rw [bo_list]
      unfold cutP
      rw [if_pos ⟨a.t.data.toList, rfl⟩]
      rfl
  · refine ⟨4, by omega, ?_⟩
    rw [if_neg (by omega), if_neg (by omega), if_neg (by omega), bo_list, try4]
    refine Tm.same hk.symm ?_
    rw [bo_list, ht]
    unfold cutP
    rw [if_pos (List.prefix_refl _)]
    rfl
theorem parM_of {s : List UInt8} {a : Tm} (ha : mayM a = true) (hp : prM a = bo s) : parM s = some a := by
  have hs : (prM a).data.toList = s := by rw [hp]; rfl
  obtain ⟨k, hk, ht⟩ := try_of ha
  rw [hs] at ht
  have hhit : hitM k s = true := by
    unfold hitM
    rw [ht, ha, hs]
    simp
  have hsm : (parM s).isSome = true := by
    unfold parM
    rcases hk with rfl | rfl | rfl | rfl <;> (repeat' split) <;> first | rfl | (exfalso; simp_all)
  cases hx : parM s with
  | none => rw [hx] at hsm; cases hsm
  | some b =>
    obtain ⟨h1, h2⟩ := parM_some hx
    rw [pr_one ha h1 (hp.trans h2.symm)]
theorem parM_none {s : List UInt8} (h : parM s = none) {a : Tm} (ha : mayM a = true) : prM a ≠ bo s := fun hp => by
  rw [parM_of ha hp] at h
  cases h
end Go.Proofs.Ytffbmkocmjpmeaa
