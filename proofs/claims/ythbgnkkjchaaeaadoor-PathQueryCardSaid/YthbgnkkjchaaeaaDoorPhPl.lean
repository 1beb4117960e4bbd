/- Plain words of layer 8: targets, roads, segments. No program is named here. -/
import Derived.WalkKit
import Derived.Below
import Derived.Lib.Join
namespace Go.Proofs.YthbgnkkjchaaeaaDoor

theorem bytes_ext {a b : ByteArray} (h : a.data.toList = b.data.toList) : a = b := by
  obtain ⟨x⟩ := a
  obtain ⟨y⟩ := b
  rw [show x = y from Array.toList_inj.1 h]
def bo (l : List UInt8) : ByteArray := ⟨l.toArray⟩
theorem bo_list (l : List UInt8) : (bo l).data.toList = l := rfl
theorem bo_of (s : ByteArray) : bo s.data.toList = s := bytes_ext rfl
theorem bo_size (l : List UInt8) : (bo l).size = l.length := rfl

/-- A digit's number. -/
def hexV (c : UInt8) : Option Nat := if 48 ≤ c.toNat ∧ c.toNat ≤ 57 then some (c.toNat - 48) else if 65 ≤ c.toNat ∧ c.toNat ≤ 70 then some (c.toNat - 55) else if 97 ≤ c.toNat ∧ c.toNat ≤ 102 then some (c.toNat - 87) else none
/-- A byte that is never said by a %. -/
def plB (c : UInt8) : Bool := decide (48 ≤ c.toNat ∧ c.toNat ≤ 57 ∨ 65 ≤ c.toNat ∧ c.toNat ≤ 90 ∨ 97 ≤ c.toNat ∧ c.toNat ≤ 122 ∨ c.toNat = 45 ∨ c.toNat = 46 ∨ c.toNat = 95 ∨ c.toNat = 126)
def nevL : List UInt8 := [34, 35, 60, 62, 92, 94, 96, 123, 124, 125]
/-- A byte that may stand in a target. -/
def stB (c : UInt8) : Bool := decide (33 ≤ c.toNat ∧ c.toNat ≤ 126 ∧ c ∉ nevL)
def badR (c : UInt8) : Bool := decide (c.toNat < 32 ∨ c.toNat = 127 ∨ c.toNat = 47 ∨ c.toNat = 92)
def nobad (_ : UInt8) : Bool := false
def upB (c : UInt8) : UInt8 := if 97 ≤ c.toNat ∧ c.toNat ≤ 122 then c - 32 else c
def twoV (a b : UInt8) : Option UInt8 := match hexV a, hexV b with
  | some x, some y => some (UInt8.ofNat (x * 16 + y))
  | _, _ => none
def putB (v a b : UInt8) : List UInt8 := if plB v = true then [v] else [37, upB a, upB b]
/-- Step 1, as far as it goes, and whether to the end. -/
def spP (bad : UInt8 → Bool) : List UInt8 → List UInt8 × Bool
  | [] => ([], true)
  | c :: r =>
    if c = 37 then
      match r with
      | a :: b :: r' => match twoV a b with
        | some v => if bad v = true then ([], false) else (putB v a b ++ (spP bad r').1, (spP bad r').2)
        | none => ([], false)
      | _ => ([], false)
    else if stB c = true then (c :: (spP bad r).1, (spP bad r).2) else ([], false)

theorem tok_ind {P : List UInt8 → Prop} (h0 : P []) (h1 : ∀ c r, c ≠ 37 → P r → P (c :: r)) (h3 : ∀ a b r, P r → P (37 :: a :: b :: r)) (hx : P [37]) (hy : ∀ a, P [37, a]) : ∀ l, P l
  | [] => h0
  | [c] => if hc : c = 37 then hc ▸ hx else h1 c [] hc h0
  | [c, a] => if hc : c = 37 then hc ▸ hy a else h1 c [a] hc (tok_ind h0 h1 h3 hx hy [a])
  | c :: a :: b :: r => if hc : c = 37 then hc ▸ h3 a b r (tok_ind h0 h1 h3 hx hy r) else h1 c _ hc (tok_ind h0 h1 h3 hx hy (a :: b :: r))

variable {bad : UInt8 → Bool}
theorem spP_nil : spP bad [] = ([], true) := by rw [spP]
theorem spP_one {c : UInt8} (h : c ≠ 37) (hs : stB c = true) (r : List UInt8) : spP bad (c :: r) = (c :: (spP bad r).1, (spP bad r).2) := by
  rw [spP.eq_def]
  simp only [if_neg h, if_pos hs]
theorem spP_no {c : UInt8} (h : c ≠ 37) (hs : stB c = false) (r : List UInt8) : spP bad (c :: r) = ([], false) := by
  rw [spP.eq_def]
  simp only [if_neg h, hs]
  rfl
theorem spP_two {a b v : UInt8} (h : twoV a b = some v) (hb : bad v = false) (r : List UInt8) : spP bad (37 :: a :: b :: r) = (putB v a b ++ (spP bad r).1, (spP bad r).2) := by
  rw [spP.eq_def]
  simp only [h, hb]
  rfl
theorem spP_bad {a b v : UInt8} (h : twoV a b = some v) (hb : bad v = true) (r : List UInt8) : spP bad (37 :: a :: b :: r) = ([], false) := by
  rw [spP.eq_def]
  simp only [h, hb]
  rfl
theorem spP_odd {a b : UInt8} (h : twoV a b = none) (r : List UInt8) : spP bad (37 :: a :: b :: r) = ([], false) := by
  rw [spP.eq_def]
  simp only [h]
  rfl
theorem spP_s1 : spP bad [37] = ([], false) := by rw [spP.eq_def]; rfl
theorem spP_s2 (a : UInt8) : spP bad [37, a] = ([], false) := by rw [spP.eq_def]; rfl
theorem spP_short {l : List UInt8} (h : l.length < 2) : spP bad (37 :: l) = ([], false) := by
  match l, h with
  | [], _ => exact spP_s1
  | [a], _ => exact spP_s2 a
theorem putB_length (v a b : UInt8) : (putB v a b).length ≤ 3 := by unfold putB; split <;> simp
theorem spP_length (l : List UInt8) : (spP bad l).1.length ≤ l.length := by
  refine tok_ind (P := fun l => (spP bad l).1.length ≤ l.length) (by rw [spP_nil]; simp) (fun c r hc h => ?_) (fun a b r h => ?_) (by rw [spP_s1]; simp) (fun a => by rw [spP_s2]; simp) l
  · cases hs : stB c
    · rw [spP_no hc hs]; simp
    · rw [spP_one hc hs]; simpa using h
  · cases ht : twoV a b with
    | none => rw [spP_odd ht]; simp
    | some v =>
      cases hb : bad v
      · rw [spP_two ht hb]
        have := putB_length v a b
        simp only [List.length_append, List.length_cons]
        omega
      · rw [spP_bad ht hb]; simp
/-- One behind the other. -/
def comb (p q : List UInt8 × Bool) : List UInt8 × Bool := if p.2 = true then (p.1 ++ q.1, q.2) else (p.1, false)
theorem comb_nil (q : List UInt8 × Bool) : comb ([], true) q = q := rfl
theorem comb_no (x : List UInt8) (q : List UInt8 × Bool) : comb (x, false) q = (x, false) := rfl
theorem comb_pre (x : List UInt8) (p q : List UInt8 × Bool) : comb (x ++ p.1, p.2) q = (x ++ (comb p q).1, (comb p q).2) := by
  unfold comb
  cases p.2 <;> simp
theorem comb_cons (c : UInt8) (p q : List UInt8 × Bool) : comb (c :: p.1, p.2) q = (c :: (comb p q).1, (comb p q).2) := comb_pre [c] p q
theorem comb_two {p q : List UInt8 × Bool} (h : (comb p q).2 = true) : p.2 = true ∧ q.2 = true ∧ (comb p q).1 = p.1 ++ q.1 := by
  unfold comb at *
  cases hp : p.2
  · rw [hp] at h; simp at h
  · rw [hp] at h; simpa using h
theorem comb_ok {p q : List UInt8 × Bool} (h : p.2 = true) : comb p q = (p.1 ++ q.1, q.2) := by unfold comb; rw [if_pos h]
theorem twoV_l {c : UInt8} (h : hexV c = none) (b : UInt8) : twoV c b = none := by unfold twoV; rw [h]
theorem twoV_r {c : UInt8} (h : hexV c = none) (a : UInt8) : twoV a c = none := by unfold twoV; rw [h]; cases hexV a <;> rfl
/-- A cut ahead of a byte that is neither a digit nor a %. -/
theorem spP_sep {c : UInt8} (hc : hexV c = none) (b a : List UInt8) : spP bad (a ++ c :: b) = comb (spP bad a) (spP bad (c :: b)) := by
  refine tok_ind (P := fun a => spP bad (a ++ c :: b) = comb (spP bad a) (spP bad (c :: b))) ?_ (fun d r hd h => ?_) (fun x y r h => ?_) ?_ (fun x => ?_) a
  · rw [spP_nil, comb_nil]; rfl
  · rw [List.cons_append]
    cases hs : stB d
    · rw [spP_no hd hs, spP_no hd hs, comb_no]
    · rw [spP_one hd hs, spP_one hd hs, comb_cons, h]
  · rw [List.cons_append, List.cons_append, List.cons_append]
    cases ht : twoV x y with
    | none => rw [spP_odd ht, spP_odd ht, comb_no]
    | some v =>
      cases hb : bad v
      · rw [spP_two ht hb, spP_two ht hb, comb_pre, h]
      · rw [spP_bad ht hb, spP_bad ht hb, comb_no]
  · rw [spP_s1, comb_no, List.cons_append, List.nil_append]
    cases b with
    | nil => rw [spP_s2]
    | cons d b => rw [spP_odd (twoV_l hc d)]
  · rw [spP_s2, comb_no, List.cons_append, List.cons_append, List.nil_append, spP_odd (twoV_r hc x)]
/-- A cut that no % stands close ahead of. -/
theorem spP_cut (b a : List UInt8) (h1 : ∀ u, a ≠ u ++ [37]) (h2 : ∀ u x, a ≠ u ++ [37, x]) : spP bad (a ++ b) = comb (spP bad a) (spP bad b) := by
  revert h1 h2
  refine tok_ind (P := fun a => (∀ u, a ≠ u ++ [37]) → (∀ u x, a ≠ u ++ [37, x]) → spP bad (a ++ b) = comb (spP bad a) (spP bad b)) ?_ (fun d r hd h => ?_) (fun x y r h => ?_) ?_ (fun x => ?_) a
  · intro _ _; rw [spP_nil, comb_nil]; rfl
  · intro h1 h2
    have h := h (fun u e => h1 (d :: u) (by rw [e]; rfl)) (fun u x e => h2 (d :: u) x (by rw [e]; rfl))
    rw [List.cons_append]
    cases hs : stB d
    · rw [spP_no hd hs, spP_no hd hs, comb_no]
    · rw [spP_one hd hs, spP_one hd hs, comb_cons, h]
  · intro h1 h2
    have h := h (fun u e => h1 (37 :: x :: y :: u) (by rw [e]; rfl)) (fun u z e => h2 (37 :: x :: y :: u) z (by rw [e]; rfl))
    rw [List.cons_append, List.cons_append, List.cons_append]
    cases ht : twoV x y with
    | none => rw [spP_odd ht, spP_odd ht, comb_no]
    | some v =>
      cases hb : bad v
      · rw [spP_two ht hb, spP_two ht hb, comb_pre, h]
      · rw [spP_bad ht hb, spP_bad ht hb, comb_no]
  · intro h1 _
    exact absurd rfl (h1 [])
  · intro _ h2
    exact absurd rfl (h2 [] x)

/-- The document's words for a target, byte by byte. -/
def hex2 : List UInt8 → Bool
  | a :: b :: _ => (hexV a).isSome && (hexV b).isSome
  | _ => false
def mayT : List UInt8 → Bool
  | [] => true
  | c :: r => stB c && (decide (c ≠ 37) || hex2 r) && mayT r
def mayB (l : List UInt8) : Bool := decide (1 ≤ l.length) && decide (l.length ≤ 512) && decide (l.head? = some 47) && mayT l
theorem hex_st {c : UInt8} (h : (hexV c).isSome = true) : stB c = true ∧ c ≠ 37 := by
  have hc : 48 ≤ c.toNat ∧ c.toNat ≤ 57 ∨ 65 ≤ c.toNat ∧ c.toNat ≤ 70 ∨ 97 ≤ c.toNat ∧ c.toNat ≤ 102 := by
    unfold hexV at h
    split at h
    · exact .inl ‹_›
    split at h
    · exact .inr (.inl ‹_›)
    split at h
    · exact .inr (.inr ‹_›)
    · simp at h
  constructor
  · unfold stB
    refine decide_eq_true ⟨by omega, by omega, fun hm => ?_⟩
    simp only [nevL, List.mem_cons, List.not_mem_nil, or_false] at hm
    rcases hm with rfl | rfl | rfl | rfl | rfl | rfl | rfl | rfl | rfl | rfl <;> revert hc <;> decide
  · rintro rfl
    revert hc
    decide
theorem twoV_some {a b v : UInt8} (h : twoV a b = some v) : (hexV a).isSome = true ∧ (hexV b).isSome = true := by
  unfold twoV at h
  split at h
  · rename_i h1 h2; rw [h1, h2]; exact ⟨rfl, rfl⟩
  · cases h
theorem twoV_of {a b : UInt8} (ha : (hexV a).isSome = true) (hb : (hexV b).isSome = true) : ∃ v, twoV a b = some v := by
  obtain ⟨x, hx⟩ := Option.isSome_iff_exists.1 ha
  obtain ⟨y, hy⟩ := Option.isSome_iff_exists.1 hb
  unfold twoV
  rw [hx, hy]
  exact ⟨_, rfl⟩
theorem st37 : stB 37 = true := by decide
theorem mayT_of_sp (l : List UInt8) : (spP bad l).2 = true → mayT l = true := by
  refine tok_ind (P := fun l => (spP bad l).2 = true → mayT l = true) (fun _ => rfl) (fun c r hc h => ?_) (fun a b r h => ?_) (by rw [spP_s1]; simp) (fun a => by rw [spP_s2]; simp) l
  · cases hs : stB c
    · rw [spP_no hc hs]; simp
    · rw [spP_one hc hs]
      intro h2
      rw [mayT, hs, h h2, decide_eq_true hc]; rfl
  · cases ht : twoV a b with
    | none => rw [spP_odd ht]; simp
    | some v =>
      cases hb : bad v
      · rw [spP_two ht hb]
        intro h2
        obtain ⟨ha, hb⟩ := twoV_some ht
        rw [mayT, mayT, mayT, st37, (hex_st ha).1, (hex_st hb).1, h h2, decide_eq_true (hex_st ha).2, decide_eq_true (hex_st hb).2, hex2, ha, hb]
        rfl
      · rw [spP_bad ht hb]; simp
theorem mayT_pct {r : List UInt8} (h : mayT (37 :: r) = true) : ∃ a b r', r = a :: b :: r' ∧ (∃ v, twoV a b = some v) ∧ mayT r' = true := by
  rw [mayT] at h
  simp only [Bool.and_eq_true, Bool.or_eq_true, decide_eq_true_eq] at h
  obtain ⟨⟨_, h1⟩, h2⟩ := h
  have h1 : hex2 r = true := by rcases h1 with h1 | h1; exact absurd rfl h1; exact h1
  match r, h1 with
  | a :: b :: r', h1 =>
    rw [hex2, Bool.and_eq_true] at h1
    rw [mayT, mayT] at h2
    simp only [Bool.and_eq_true] at h2
    exact ⟨a, b, r', rfl, twoV_of h1.1 h1.2, h2.2.2⟩
theorem mayT_one {c : UInt8} {r : List UInt8} (h : mayT (c :: r) = true) : stB c = true ∧ mayT r = true := by
  rw [mayT] at h
  simp only [Bool.and_eq_true] at h
  exact ⟨h.1.1, h.2⟩
theorem sp_of_mayT (l : List UInt8) : mayT l = true → (spP nobad l).2 = true := by
  refine tok_ind (P := fun l => mayT l = true → (spP nobad l).2 = true) (fun _ => by rw [spP_nil]) (fun c r hc h hm => ?_) (fun a b r h hm => ?_) (fun hm => ?_) (fun a hm => ?_) l
  · obtain ⟨h1, h2⟩ := mayT_one hm
    rw [spP_one hc h1]
    exact h h2
  · obtain ⟨x, y, r', e, ⟨v, hv⟩, hr⟩ := mayT_pct hm
    injection e with e1 e
    injection e with e2 e
    subst e1 e2 e
    rw [spP_two hv rfl]
    exact h hr
  · obtain ⟨x, y, r', e, _⟩ := mayT_pct hm
    cases e
  · obtain ⟨x, y, r', e, _⟩ := mayT_pct hm
    cases e
theorem hex2_app {c : UInt8} (hc : hexV c = none) (r b : List UInt8) : hex2 (r ++ c :: b) = hex2 r := by
  match r with
  | [] => cases b <;> simp [hex2, hc]
  | [x] => simp [hex2, hc]
  | x :: y :: r => rfl
theorem mayT_app {c : UInt8} (hc : hexV c = none) (hs : stB c = true) (h37 : c ≠ 37) (b : List UInt8) : ∀ a, mayT (a ++ c :: b) = (mayT a && mayT b)
  | [] => by rw [List.nil_append, mayT, mayT, hs, decide_eq_true h37]; rfl
  | x :: a => by rw [List.cons_append, mayT, mayT, hex2_app hc, mayT_app hc hs h37 b a, Bool.and_assoc (_ && _)]

theorem not_head {x c : UInt8} {a : List UInt8} (h : x ∉ c :: a) : ¬ c = x := fun e => h (e ▸ List.mem_cons_self)
/-- The first ?, what stands ahead of it and behind it. -/
def askP : List UInt8 → List UInt8 × List UInt8
  | [] => ([], [])
  | c :: r => if c = 63 then ([], r) else (c :: (askP r).1, (askP r).2)
theorem askP_hit (q : List UInt8) : ∀ a : List UInt8, (63 : UInt8) ∉ a → askP (a ++ 63 :: q) = (a, q)
  | [], _ => by rw [List.nil_append, askP, if_pos rfl]
  | c :: a, h => by
    rw [List.cons_append, askP, if_neg (not_head h), askP_hit q a (fun e => h (List.mem_cons_of_mem _ e))]
theorem askP_none : ∀ a : List UInt8, (63 : UInt8) ∉ a → askP a = (a, [])
  | [], _ => rfl
  | c :: a, h => by
    rw [askP, if_neg (not_head h), askP_none a (fun e => h (List.mem_cons_of_mem _ e))]
theorem askP_app (b : List UInt8) : ∀ a : List UInt8, (63 : UInt8) ∉ a → askP (a ++ b) = (a ++ (askP b).1, (askP b).2)
  | [], _ => rfl
  | c :: a, h => by
    rw [List.cons_append, askP, if_neg (not_head h), askP_app b a (fun e => h (List.mem_cons_of_mem _ e))]
    rfl
theorem ask_split (l : List UInt8) : ((63 : UInt8) ∈ l ∧ l = (askP l).1 ++ 63 :: (askP l).2 ∧ (63 : UInt8) ∉ (askP l).1) ∨ ((63 : UInt8) ∉ l ∧ askP l = (l, [])) := by
  by_cases h : (63 : UInt8) ∈ l
  · refine .inl ⟨h, ?_⟩
    induction l with
    | nil => cases h
    | cons c r ih =>
      rw [askP]
      by_cases hc : c = 63
      · rw [if_pos hc, hc]; exact ⟨rfl, by simp⟩
      · rw [if_neg hc]
        have hr : (63 : UInt8) ∈ r := by rcases List.mem_cons.1 h with h | h; exact absurd h.symm hc; exact h
        obtain ⟨h1, h2⟩ := ih hr
        refine ⟨by rw [List.cons_append, ← h1], fun hm => ?_⟩
        rcases List.mem_cons.1 hm with hm | hm
        · exact hc hm.symm
        · exact h2 hm
  · exact .inr ⟨h, askP_none l h⟩
theorem askP_length (l : List UInt8) : (askP l).1.length + (askP l).2.length ≤ l.length := by
  rcases ask_split l with ⟨_, h, _⟩ | ⟨_, h⟩
  · have := congrArg List.length h
    rw [List.length_append, List.length_cons] at this
    omega
  · rw [h]; simp

/-- What stands between the slashes. -/
def splP : List UInt8 → List (List UInt8)
  | [] => [[]]
  | c :: r => if c = 47 then [] :: splP r else match splP r with
    | h :: t => (c :: h) :: t
    | [] => [[c]]
theorem splP_ne (l : List UInt8) : splP l ≠ [] := by
  cases l with
  | nil => simp [splP]
  | cons c r => rw [splP]; split; simp; split <;> simp
theorem splP_cons {c : UInt8} (h : c ≠ 47) (r : List UInt8) : ∃ x t, splP r = x :: t ∧ splP (c :: r) = (c :: x) :: t := by
  cases hr : splP r with
  | nil => exact absurd hr (splP_ne r)
  | cons x t => exact ⟨x, t, rfl, by rw [splP, if_neg h, hr]⟩
theorem splP_slash (r : List UInt8) : splP (47 :: r) = [] :: splP r := by rw [splP, if_pos rfl]
theorem splP_none : ∀ a : List UInt8, (47 : UInt8) ∉ a → splP a = [a]
  | [], _ => rfl
  | c :: a, h => by
    obtain ⟨x, t, h1, h2⟩ := splP_cons (c := c) (not_head h) a
    rw [splP_none a (fun e => h (List.mem_cons_of_mem _ e))] at h1
    injection h1 with h1 h3
    subst h1 h3
    exact h2
theorem splP_app (b : List UInt8) : ∀ a, splP (a ++ 47 :: b) = splP a ++ splP b
  | [] => by rw [List.nil_append, splP_slash]; rfl
  | c :: a => by
    by_cases hc : c = 47
    · subst hc
      rw [List.cons_append, splP_slash, splP_slash, splP_app b a]; rfl
    · obtain ⟨x, t, h1, h2⟩ := splP_cons hc (a ++ 47 :: b)
      obtain ⟨y, u, h3, h4⟩ := splP_cons hc a
      rw [List.cons_append, h2, h4]
      rw [splP_app b a, h3] at h1
      injection h1 with h1 h5
      subst h1 h5
      rfl
theorem splP_hit {a : List UInt8} (h : (47 : UInt8) ∉ a) (b : List UInt8) : splP (a ++ 47 :: b) = a :: splP b := by rw [splP_app, splP_none a h]; rfl
theorem splP_length (l : List UInt8) : (splP l).length ≤ l.length + 1 := by
  induction l with
  | nil => simp [splP]
  | cons c r ih =>
    by_cases hc : c = 47
    · subst hc; rw [splP_slash]; simpa using ih
    · obtain ⟨x, t, h1, h2⟩ := splP_cons hc r
      rw [h1] at ih
      rw [h2]
      simp only [List.length_cons] at *
      omega
theorem splP_part {l x : List UInt8} (h : x ∈ splP l) : x.length ≤ l.length := by
  induction l generalizing x with
  | nil => simp [splP] at h; subst h; simp
  | cons c r ih =>
    by_cases hc : c = 47
    · subst hc
      rw [splP_slash] at h
      rcases List.mem_cons.1 h with rfl | h
      · simp
      · have := ih h; simp only [List.length_cons]; omega
    · obtain ⟨y, t, h1, h2⟩ := splP_cons hc r
      rw [h2] at h
      rcases List.mem_cons.1 h with rfl | h
      · have := ih (x := y) (by rw [h1]; simp); simp only [List.length_cons]; omega
      · have := ih (x := x) (by rw [h1]; simp [h]); simp only [List.length_cons]; omega

/-- Step 2. -/
def lefP (acc : List (List UInt8)) : List (List UInt8) → Option (List (List UInt8))
  | [] => some acc
  | s :: r => if s = [] ∨ s = [46] then lefP acc r else if s = [46, 46] then (if acc = [] then none else lefP acc.dropLast r) else lefP (acc ++ [s]) r
def isDir (s : List UInt8) : Bool := decide (s = [] ∨ s = [46] ∨ s = [46, 46])
def dirP (l : List (List UInt8)) : Bool := match l.getLast? with
  | some s => isDir s
  | none => false
theorem lefP_app : ∀ (a b acc : List (List UInt8)), lefP acc (a ++ b) = (lefP acc a).bind fun x => lefP x b
  | [], b, acc => rfl
  | s :: a, b, acc => by
    rw [List.cons_append, lefP, lefP]
    split
    · exact lefP_app a b acc
    · split
      · split
        · rfl
        · exact lefP_app a b _
      · exact lefP_app a b _
theorem lefP_skip {s : List UInt8} (h : s = [] ∨ s = [46]) (acc r : List (List UInt8)) : lefP acc (s :: r) = lefP acc r := by rw [lefP, if_pos h]
theorem lefP_up (acc r : List (List UInt8)) (h : acc ≠ []) : lefP acc ([46, 46] :: r) = lefP acc.dropLast r := by rw [lefP, if_neg (by decide), if_pos rfl, if_neg h]
theorem lefP_out (r : List (List UInt8)) : lefP [] ([46, 46] :: r) = none := by rw [lefP, if_neg (by decide), if_pos rfl, if_pos rfl]
theorem lefP_put {s : List UInt8} (h : s ≠ []) (h1 : s ≠ [46]) (h2 : s ≠ [46, 46]) (acc r : List (List UInt8)) : lefP acc (s :: r) = lefP (acc ++ [s]) r := by rw [lefP, if_neg (by rintro (h' | h'); exact h h'; exact h1 h'), if_neg h2]
theorem dirP_app {a b : List (List UInt8)} (h : b ≠ []) : dirP (a ++ b) = dirP b := by
  unfold dirP
  rw [List.getLast?_append]
  cases hb : b.getLast? with
  | none => exact absurd (List.getLast?_eq_none_iff.1 hb) h
  | some y => rfl
/-- Step 3. -/
def joiP (dir : Bool) (l : List (List UInt8)) : List UInt8 := (l.flatMap fun s => 47 :: s) ++ if l = [] ∨ dir = true then [47] else []
/-- A target's path and query. -/
def norP (l : List UInt8) : Option (List UInt8 × List UInt8) :=
  if l.length ≤ 512 ∧ l.head? = some 47 ∧ (spP badR (askP l).1).2 = true ∧ (spP nobad (askP l).2).2 = true then
    (lefP [] (splP (spP badR (askP l).1).1)).map fun k => (joiP (dirP (splP (spP badR (askP l).1).1)) k, (spP nobad (askP l).2).1)
  else none
def canP (l : List UInt8) : Bool := match norP l with
  | some (p, _) => decide (p = l)
  | none => false
end Go.Proofs.YthbgnkkjchaaeaaDoor
