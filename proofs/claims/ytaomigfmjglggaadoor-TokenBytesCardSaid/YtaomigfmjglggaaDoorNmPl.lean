/- Plain words of layer 5: labels, names' texts, how two names stand, rows of names. No program is named here. -/
import Derived.WalkKit
import Derived.Below
namespace Go.Proofs.YtaomigfmjglggaaDoor

/-- A byte of a label. -/
def labB (c : UInt8) : Bool := decide (c = 45) || (decide (48 ≤ c.toNat) && decide (c.toNat ≤ 57)) || (decide (97 ≤ c.toNat) && decide (c.toNat ≤ 122))
def labelS (l : List UInt8) : Bool := decide (1 ≤ l.length) && decide (l.length ≤ 20) && decide (l.head? ≠ some 45) && decide (l.getLast? ≠ some 45) && l.all labB
def preS : List UInt8 := [115, 112, 105, 102, 102, 101, 58, 47, 47, 109, 101, 115, 104, 47, 110, 115, 47]
def midS : List UInt8 := [47, 115, 97, 47]
def ntextS (ns sa : List UInt8) : List UInt8 := preS ++ (ns ++ (midS ++ sa))
theorem preS_length : preS.length = 17 := rfl
theorem midS_length : midS.length = 4 := rfl
theorem labelS_len {l : List UInt8} (h : labelS l = true) : 1 ≤ l.length ∧ l.length ≤ 20 := by
  simp only [labelS, Bool.and_eq_true, decide_eq_true_eq] at h
  exact ⟨h.1.1.1.1, h.1.1.1.2⟩
theorem labelS_not {l : List UInt8} (h : labelS l = true) : (47 : UInt8) ∉ l := by
  simp only [labelS, Bool.and_eq_true] at h
  intro hm
  have := List.all_eq_true.1 h.2 47 hm
  revert this
  decide
/-- Two texts, cut at the first byte that neither front has. -/
theorem front_one {c : UInt8} : ∀ {p q r t : List UInt8}, c ∉ p → c ∉ q → p ++ c :: r = q ++ c :: t → p = q ∧ r = t
  | [], [], r, t, _, _, h => ⟨rfl, by injection h⟩
  | [], y :: q, r, t, _, hq, h => by
    injection h with h1 _
    exact absurd (by simp [h1]) hq
  | x :: p, [], r, t, hp, _, h => by
    injection h with h1 _
    exact absurd (by simp [← h1]) hp
  | x :: p, y :: q, r, t, hp, hq, h => by
    injection h with h1 h2
    obtain ⟨h3, h4⟩ := front_one (p := p) (q := q) (fun m => hp (by simp [m])) (fun m => hq (by simp [m])) h2
    exact ⟨by rw [h1, h3], h4⟩
theorem text_one {a b c d : List UInt8} (ha : labelS a = true) (hc : labelS c = true) (h : ntextS a b = ntextS c d) : a = c ∧ b = d := by
  unfold ntextS at h
  have h1 := List.append_cancel_left h
  have h2 : a ++ 47 :: ([115, 97, 47] ++ b) = c ++ 47 :: ([115, 97, 47] ++ d) := h1
  obtain ⟨h3, h4⟩ := front_one (labelS_not ha) (labelS_not hc) h2
  exact ⟨h3, List.append_cancel_left h4⟩
theorem text_length (a b : List UInt8) : (ntextS a b).length = 21 + a.length + b.length := by
  unfold ntextS
  rw [List.length_append, List.length_append, List.length_append, preS_length, midS_length]
  omega
/-- The name whose text l is. -/
def isText (l ns sa : List UInt8) : Prop := labelS ns = true ∧ labelS sa = true ∧ ntextS ns sa = l
open Classical in
noncomputable def parseS (l : List UInt8) : Option (List UInt8 × List UInt8) := if h : ∃ p : List UInt8 × List UInt8, isText l p.1 p.2 then some (Classical.choose h) else none
theorem parseS_some {l ns sa : List UInt8} : parseS l = some (ns, sa) ↔ isText l ns sa := by
  unfold parseS
  constructor
  · intro h
    split at h
    · rename_i hx
      have h2 := Classical.choose_spec hx
      injection h with h
      rw [h] at h2
      exact h2
    · cases h
  · intro h
    have hx : ∃ p : List UInt8 × List UInt8, isText l p.1 p.2 := ⟨(ns, sa), h⟩
    rw [dif_pos hx]
    have h2 := Classical.choose_spec hx
    generalize Classical.choose hx = p at h2 ⊢
    obtain ⟨h3, h4, h5⟩ := h2
    have h6 := text_one h3 h.1 (h5.trans h.2.2.symm)
    obtain ⟨a, b⟩ := p
    rw [show a = ns from h6.1, show b = sa from h6.2]
theorem parseS_none {l : List UInt8} (h : ∀ ns sa, ¬ isText l ns sa) : parseS l = none := by
  cases hp : parseS l with
  | none => rfl
  | some p => exact absurd (parseS_some.1 (by rw [hp])) (h p.1 p.2)
theorem parseS_of {l : List UInt8} (h : parseS l = none) : ∀ ns sa, ¬ isText l ns sa := fun ns sa hx => by
  rw [parseS_some.2 hx] at h
  cases h

/-- How two texts stand. -/
def cmpL : List UInt8 → List UInt8 → Int
  | [], [] => 0
  | [], _ :: _ => -1
  | _ :: _, [] => 1
  | x :: a, y :: b => if x.toNat < y.toNat then -1 else if y.toNat < x.toNat then 1 else cmpL a b
theorem cmpL_self : ∀ a, cmpL a a = 0
  | [] => rfl
  | x :: a => by rw [cmpL, if_neg (by omega), if_neg (by omega)]; exact cmpL_self a
theorem cmpL_vals : ∀ a b, cmpL a b = -1 ∨ cmpL a b = 0 ∨ cmpL a b = 1
  | [], [] => .inr (.inl rfl)
  | [], _ :: _ => .inl rfl
  | _ :: _, [] => .inr (.inr rfl)
  | x :: a, y :: b => by
    rw [cmpL]
    split
    · exact .inl rfl
    · split
      · exact .inr (.inr rfl)
      · exact cmpL_vals a b
theorem cmpL_zero : ∀ {a b}, cmpL a b = 0 → a = b
  | [], [], _ => rfl
  | [], _ :: _, h => by cases h
  | _ :: _, [], h => by cases h
  | x :: a, y :: b, h => by
    rw [cmpL] at h
    split at h
    · cases h
    · split at h
      · cases h
      · rw [cmpL_zero h, UInt8.toNat_inj.1 (show x.toNat = y.toNat by omega)]
theorem cmpL_neg : ∀ a b, cmpL b a = - cmpL a b
  | [], [] => rfl
  | [], _ :: _ => rfl
  | _ :: _, [] => rfl
  | x :: a, y :: b => by
    have ih := cmpL_neg a b
    rw [cmpL, cmpL]
    rcases Nat.lt_trichotomy x.toNat y.toNat with h | h | h
    · rw [if_neg (by omega), if_pos h, if_pos h]; rfl
    · rw [if_neg (by omega), if_neg (by omega), if_neg (by omega), if_neg (by omega), ih]
    · rw [if_pos h, if_neg (by omega), if_pos h]
theorem cmpL_trans : ∀ {a b c}, cmpL a b = -1 → cmpL b c = -1 → cmpL a c = -1
  | [], [], _, h, _ => by cases h
  | [], _ :: _, [], _, h => by cases h
  | [], _ :: _, _ :: _, _, _ => rfl
  | _ :: _, [], _, h, _ => by cases h
  | _ :: _, _ :: _, [], _, h => by cases h
  | x :: a, y :: b, z :: c, h1, h2 => by
    rw [cmpL] at h1 h2 ⊢
    split at h1
    · rename_i hxy
      split at h2
      · rw [if_pos (by omega)]
      · split at h2
        · cases h2
        · rw [if_pos (by omega)]
    · split at h1
      · cases h1
      · rename_i hxy hyx
        split at h2
        · rw [if_pos (by omega)]
        · split at h2
          · cases h2
          · rw [if_neg (by omega), if_neg (by omega)]
            exact cmpL_trans h1 h2

/-- A name. -/
structure Nm where
  ns : ByteArray
  sa : ByteArray
instance : Inhabited Nm := ⟨⟨ByteArray.empty, ByteArray.empty⟩⟩
theorem bytes_ext {a b : ByteArray} (h : a.data.toList = b.data.toList) : a = b := by
  obtain ⟨x⟩ := a
  obtain ⟨y⟩ := b
  rw [show x = y from Array.toList_inj.1 h]
theorem Nm.same {a b : Nm} (h1 : a.ns.data.toList = b.ns.data.toList) (h2 : a.sa.data.toList = b.sa.data.toList) : a = b := by
  obtain ⟨x, y⟩ := a
  obtain ⟨z, t⟩ := b
  rw [show x = z from bytes_ext h1, show y = t from bytes_ext h2]
noncomputable instance : DecidableEq Nm := fun _ _ => Classical.propDecidable _
def cmpN (a b : Nm) : Int := if cmpL a.ns.data.toList b.ns.data.toList = 0 then cmpL a.sa.data.toList b.sa.data.toList else cmpL a.ns.data.toList b.ns.data.toList
theorem cmpN_self (a : Nm) : cmpN a a = 0 := by unfold cmpN; rw [if_pos (cmpL_self _), cmpL_self]
theorem cmpN_vals (a b : Nm) : cmpN a b = -1 ∨ cmpN a b = 0 ∨ cmpN a b = 1 := by
  unfold cmpN
  split <;> exact cmpL_vals _ _
theorem cmpN_zero {a b : Nm} (h : cmpN a b = 0) : a = b := by
  unfold cmpN at h
  split at h
  · rename_i h1
    exact Nm.same (cmpL_zero h1) (cmpL_zero h)
  · rename_i h1
    exact absurd h h1
theorem cmpN_neg (a b : Nm) : cmpN b a = - cmpN a b := by
  unfold cmpN
  rw [cmpL_neg a.ns.data.toList, cmpL_neg a.sa.data.toList]
  by_cases h : cmpL a.ns.data.toList b.ns.data.toList = 0
  · rw [if_pos (by omega), if_pos h]
  · rw [if_neg (by omega), if_neg h]
theorem cmpN_trans {a b c : Nm} (h1 : cmpN a b = -1) (h2 : cmpN b c = -1) : cmpN a c = -1 := by
  unfold cmpN at h1 h2 ⊢
  by_cases h3 : cmpL a.ns.data.toList b.ns.data.toList = 0
  · rw [if_pos h3] at h1
    have e := cmpL_zero h3
    by_cases h4 : cmpL b.ns.data.toList c.ns.data.toList = 0
    · rw [if_pos h4] at h2
      rw [e, if_pos h4]
      exact cmpL_trans h1 h2
    · rw [if_neg h4] at h2
      rw [e, if_neg h4]
      exact h2
  · rw [if_neg h3] at h1
    by_cases h4 : cmpL b.ns.data.toList c.ns.data.toList = 0
    · have e := cmpL_zero h4
      rw [← e, if_neg h3]
      exact h1
    · rw [if_neg h4] at h2
      have := cmpL_trans h1 h2
      rw [if_neg (by omega)]
      exact this
/-- A row that rises. -/
def Rises (l : List Nm) : Prop := l.Pairwise fun a b => cmpN a b = -1
/-- Of the same names there is one row that rises. -/
theorem rises_one : ∀ {l m : List Nm}, Rises l → Rises m → (∀ x, x ∈ l ↔ x ∈ m) → l = m
  | [], [], _, _, _ => rfl
  | [], y :: m, _, _, h => absurd ((h y).2 (by simp)) (by simp)
  | x :: l, [], _, _, h => absurd ((h x).1 (by simp)) (by simp)
  | x :: l, y :: m, hl, hm, h => by
    have hl' := List.pairwise_cons.1 hl
    have hm' := List.pairwise_cons.1 hm
    have hxy : x = y := by
      rcases List.mem_cons.1 ((h x).1 (by simp)) with e | h1
      · exact e
      · rcases List.mem_cons.1 ((h y).2 (by simp)) with e | h2
        · exact e.symm
        · have a1 := hm'.1 x h1
          have a2 := hl'.1 y h2
          have := cmpN_neg x y
          omega
    subst hxy
    rw [rises_one hl'.2 hm'.2 fun z => ⟨fun hz => ?_, fun hz => ?_⟩]
    · rcases List.mem_cons.1 ((h z).1 (by simp [hz])) with e | h1
      · have := hl'.1 z hz
        rw [e, cmpN_self] at this
        cases this
      · exact h1
    · rcases List.mem_cons.1 ((h z).2 (by simp [hz])) with e | h1
      · have := hm'.1 z hz
        rw [e, cmpN_self] at this
        cases this
      · exact h1
end Go.Proofs.YtaomigfmjglggaaDoor
