/- Plain words of layer 9: names, values, lines, rows of headers, how a body ends. No program is named here. -/
import Derived.WalkKit
import Derived.Below
namespace Go.Proofs.YtilefgmlnmpeoaaDoor

theorem all_u8 {P : UInt8 → Prop} (h : ∀ n : Fin 256, P (UInt8.ofNat n.val)) (c : UInt8) : P c := by
  have := h ⟨c.toNat, c.toNat_lt⟩
  rwa [show UInt8.ofNat c.toNat = c from by simp] at this
def tokL : List UInt8 := [33, 35, 36, 37, 38, 39, 42, 43, 45, 46, 94, 95, 96, 124, 126]
/-- A byte of a token (small letters). -/
def tokB (c : UInt8) : Bool := decide (97 ≤ c.toNat ∧ c.toNat ≤ 122 ∨ 48 ≤ c.toNat ∧ c.toNat ≤ 57 ∨ c ∈ tokL)
/-- A blank, a tab. -/
def wsB (c : UInt8) : Bool := decide (c.toNat = 32 ∨ c.toNat = 9)
/-- A byte that is seen. -/
def viB (c : UInt8) : Bool := decide (33 ≤ c.toNat ∧ c.toNat ≤ 126)
def smB (c : UInt8) : UInt8 := if 65 ≤ c.toNat ∧ c.toNat ≤ 90 then c + 32 else c
def lgB (c : UInt8) : UInt8 := if 97 ≤ c.toNat ∧ c.toNat ≤ 122 then c - 32 else c
theorem tok_facts : ∀ c : UInt8, tokB c = true → smB c = c ∧ smB (lgB c) = c ∧ c ≠ 58 ∧ lgB c ≠ 58 ∧ wsB c = false := by
  refine all_u8 ?_
  decide +kernel
def nameP (s : List UInt8) : Bool := decide (1 ≤ s.length ∧ s.length ≤ 64) && s.all tokB
/-- Neither begins nor ends with a blank. -/
def bareP (s : List UInt8) : Bool := !(s.head?.any wsB) && !(s.getLast?.any wsB)
def valP (s : List UInt8) : Bool := decide (s.length ≤ 512) && s.all (fun c => wsB c || viB c) && bareP s
theorem nameP_len {n : List UInt8} (h : nameP n = true) : 1 ≤ n.length ∧ n.length ≤ 64 := by
  unfold nameP at h
  simp only [Bool.and_eq_true, decide_eq_true_eq] at h
  exact h.1
theorem nameP_tok {n : List UInt8} (h : nameP n = true) : ∀ c ∈ n, tokB c = true := by
  unfold nameP at h
  simp only [Bool.and_eq_true, List.all_eq_true] at h
  exact h.2
theorem valP_len {v : List UInt8} (h : valP v = true) : v.length ≤ 512 := by
  unfold valP at h
  simp only [Bool.and_eq_true, decide_eq_true_eq] at h
  exact h.1.1
theorem valP_bare {v : List UInt8} (h : valP v = true) : bareP v = true := by
  unfold valP at h
  simp only [Bool.and_eq_true] at h
  exact h.2
theorem small_name {n : List UInt8} (h : nameP n = true) : n.map smB = n := by
  conv => rhs; rw [← List.map_id n]
  exact List.map_congr_left fun c hc => (tok_facts c (nameP_tok h c hc)).1
theorem small_large {n : List UInt8} (h : nameP n = true) : (n.map lgB).map smB = n := by
  rw [List.map_map]
  conv => rhs; rw [← List.map_id n]
  exact List.map_congr_left fun c hc => (tok_facts c (nameP_tok h c hc)).2.1
theorem name_colon {n : List UInt8} (h : nameP n = true) : ∀ c ∈ n, (c != 58) = true := fun c hc => by
  have := (tok_facts c (nameP_tok h c hc)).2.2.1
  simpa using this
theorem large_colon {n : List UInt8} (h : nameP n = true) : ∀ c ∈ n.map lgB, (c != 58) = true := fun c hc => by
  obtain ⟨d, hd, rfl⟩ := List.mem_map.1 hc
  have := (tok_facts d (nameP_tok h d hd)).2.2.2.1
  simpa using this

theorem drop_all {p : UInt8 → Bool} : ∀ {l : List UInt8}, (∀ c ∈ l, p c = true) → l.dropWhile p = []
  | [], _ => rfl
  | c :: r, h => by
    rw [List.dropWhile_cons_of_pos (h c (List.mem_cons_self ..))]
    exact drop_all fun x hx => h x (List.mem_cons_of_mem _ hx)
/-- Without blanks around it. -/
def trimP (s : List UInt8) : List UInt8 := (((s.dropWhile wsB).reverse).dropWhile wsB).reverse
theorem trim_pad {a v b : List UInt8} (ha : ∀ c ∈ a, wsB c = true) (hb : ∀ c ∈ b, wsB c = true) (hv : bareP v = true) : trimP (a ++ v ++ b) = v := by
  unfold trimP
  rw [List.append_assoc, List.dropWhile_append_of_pos ha]
  unfold bareP at hv
  simp only [Bool.and_eq_true, Bool.not_eq_true'] at hv
  obtain ⟨h1, h2⟩ := hv
  cases v with
  | nil =>
    rw [List.nil_append, drop_all hb]
    rfl
  | cons c r =>
    have hc : wsB c = false := by simpa using h1
    rw [List.cons_append, List.dropWhile_cons_of_neg (by rw [hc]; exact Bool.false_ne_true), ← List.cons_append, List.reverse_append, List.dropWhile_append_of_pos (fun x hx => hb x (List.mem_reverse.1 hx))]
    have hl : ((c :: r).reverse).dropWhile wsB = (c :: r).reverse := by
      cases hr : (c :: r).reverse with
      | nil => rfl
      | cons d q =>
        have hd : (c :: r).getLast? = some d := by rw [List.getLast?_eq_head?_reverse, hr]; rfl
        rw [hd] at h2
        have hd' : wsB d = false := by simpa using h2
        rw [List.dropWhile_cons_of_neg (by rw [hd']; exact Bool.false_ne_true)]
    rw [hl, List.reverse_reverse]
theorem trim_len (s : List UInt8) : (trimP s).length ≤ s.length := by
  unfold trimP
  rw [List.length_reverse]
  refine Nat.le_trans (List.dropWhile_sublist _).length_le ?_
  rw [List.length_reverse]
  exact (List.dropWhile_sublist _).length_le

/-- A line as a header: the error's number, the name, the value. -/
def readP (s : List UInt8) : Nat × List UInt8 × List UInt8 :=
  if 578 < s.length then (6, [], []) else
  match s.dropWhile (· != 58) with
  | [] => (2, [], [])
  | _ :: r => if (nameP ((s.takeWhile (· != 58)).map smB) && valP (trimP r)) = true then (0, (s.takeWhile (· != 58)).map smB, trimP r) else (2, [], [])
theorem read_wide {m n a v b : List UInt8} (hm : ∀ c ∈ m, (c != 58) = true) (hmn : m.map smB = n) (hn : nameP n = true) (hv : valP v = true) (ha : ∀ c ∈ a, wsB c = true) (hb : ∀ c ∈ b, wsB c = true)
    (hl : (m ++ 58 :: (a ++ v ++ b)).length ≤ 578) : readP (m ++ 58 :: (a ++ v ++ b)) = (0, n, v) := by
  unfold readP
  rw [if_neg (by omega), List.dropWhile_append_of_pos hm, List.dropWhile_cons_of_neg (by decide)]
  simp only
  rw [List.takeWhile_append_of_pos hm, List.takeWhile_cons_of_neg (by decide), List.append_nil, hmn, trim_pad ha hb (valP_bare hv), hn, hv]
  rfl
theorem read_line {n v : List UInt8} (hn : nameP n = true) (hv : valP v = true) : readP (n ++ 58 :: 32 :: v) = (0, n, v) := by
  have h := read_wide (m := n) (a := [32]) (b := []) (name_colon hn) (small_name hn) hn hv (by intro c hc; simp at hc; subst hc; rfl) (by intro c hc; cases hc) (by
    have := nameP_len hn; have := valP_len hv
    simp; omega)
  simpa using h
theorem readP_ok {s n v : List UInt8} (h : readP s = (0, n, v)) : nameP n = true ∧ valP v = true := by
  unfold readP at h
  split at h
  · cases h
  split at h
  · cases h
  split at h
  · rename_i hg
    injection h with _ h
    injection h with h1 h2
    subst h1 h2
    simpa using hg
  · cases h
theorem readP_no {s n v : List UInt8} {e : Nat} (h : readP s = (e, n, v)) (he : e ≠ 0) : n = [] ∧ v = [] := by
  unfold readP at h
  split at h
  · injection h with _ h; injection h with h1 h2; exact ⟨h1.symm, h2.symm⟩
  split at h
  · injection h with _ h; injection h with h1 h2; exact ⟨h1.symm, h2.symm⟩
  split at h
  · injection h with h0; exact absurd h0.symm he
  · injection h with _ h; injection h with h1 h2; exact ⟨h1.symm, h2.symm⟩

/-- A header. -/
structure Hd where
  n : ByteArray
  v : ByteArray
  deriving DecidableEq
def goodP (h : Hd) : Bool := nameP h.n.data.toList && valP h.v.data.toList
def mayH (l : List Hd) : Bool := l.all goodP && decide (l.length ≤ 24)
/-- The values of a name. -/
def allP (x : ByteArray) (l : List Hd) : List ByteArray := (l.filter fun h => decide (h.n = x)).map (·.v)
def delP (x : ByteArray) (l : List Hd) : List Hd := l.filter fun h => !decide (h.n = x)
theorem allP_nil (x : ByteArray) : allP x [] = [] := rfl
theorem allP_append (x : ByteArray) (a b : List Hd) : allP x (a ++ b) = allP x a ++ allP x b := by
  unfold allP
  rw [List.filter_append, List.map_append]
theorem allP_one {x : ByteArray} {h : Hd} (e : h.n = x) : allP x [h] = [h.v] := by simp [allP, e]
theorem allP_other {x : ByteArray} {h : Hd} (e : h.n ≠ x) : allP x [h] = [] := by simp [allP, e]
theorem allP_len (x : ByteArray) (l : List Hd) : (allP x l).length ≤ l.length := by
  unfold allP
  rw [List.length_map]
  exact List.length_filter_le _ _
theorem allP_del (x : ByteArray) (l : List Hd) : allP x (delP x l) = [] := by
  unfold allP delP
  rw [List.filter_filter, List.map_eq_nil_iff, List.filter_eq_nil_iff]
  intro a _
  simp
theorem allP_del_other {x y : ByteArray} (e : x ≠ y) (l : List Hd) : allP y (delP x l) = allP y l := by
  unfold allP delP
  rw [List.filter_filter]
  congr 1
  refine List.filter_congr fun a _ => ?_
  by_cases h : a.n = y
  · simp [h]
    exact fun h' => e h'.symm
  · simp [h]
theorem delP_len (x : ByteArray) (l : List Hd) : (delP x l).length + (allP x l).length = l.length := by
  unfold allP delP
  rw [List.length_map]
  induction l with
  | nil => rfl
  | cons h r ih => by_cases e : h.n = x <;> simp [e] <;> omega
/-- Turned round, a row has as many of a name; and, where it has one at most, the same. -/
theorem allP_turn_len (x : ByteArray) (l : List Hd) (k : Nat) : (allP x (l.drop k ++ l.take k)).length = (allP x l).length := by
  conv => rhs; rw [← List.take_append_drop k l]
  rw [allP_append, allP_append, List.length_append, List.length_append, Nat.add_comm]
theorem allP_turn (x : ByteArray) (l : List Hd) (k : Nat) (h : (allP x l).length ≤ 1) : allP x (l.drop k ++ l.take k) = allP x l := by
  conv => rhs; rw [← List.take_append_drop k l]
  rw [← List.take_append_drop k l] at h
  rw [allP_append, List.length_append] at h
  rw [allP_append, allP_append]
  match ha : allP x (l.take k), hb : allP x (l.drop k) with
  | [], q => simp
  | p, [] => simp
  | _ :: _, _ :: _ => rw [ha, hb] at h; simp only [List.length_cons] at h; omega

/-- How a body ends. -/
structure Bd where
  chunked : Nat
  has : Nat
  len : Nat
  deriving DecidableEq
def bd0 : Bd := ⟨0, 0, 0⟩
def digB (c : UInt8) : Bool := decide (48 ≤ c.toNat ∧ c.toNat ≤ 57)
@[irreducible] def addN (n : Nat) (c : UInt8) : Nat := n * 10 + (c.toNat - 48)
theorem addN_eq (n : Nat) (c : UInt8) : addN n c = n * 10 + (c.toNat - 48) := by unfold addN; rfl
def numN (n : Nat) : List UInt8 → Nat
  | [] => n
  | c :: r => numN (addN n c) r
/-- The number as a loop has it that goes no further once it is too great. -/
@[irreducible] def stepN (n : Nat) (c : UInt8) : Nat := if n ≤ 1024 then n * 10 + (c.toNat - 48) else n
def satN (n : Nat) : List UInt8 → Nat
  | [] => n
  | c :: r => satN (stepN n c) r
theorem numN_nil (n : Nat) : numN n [] = n := rfl
theorem numN_cons (n : Nat) (c : UInt8) (r : List UInt8) : numN n (c :: r) = numN (addN n c) r := rfl
theorem satN_nil (n : Nat) : satN n [] = n := rfl
theorem satN_cons (n : Nat) (c : UInt8) (r : List UInt8) : satN n (c :: r) = satN (stepN n c) r := rfl
theorem stepN_le {n : Nat} (h : n ≤ 1024) (c : UInt8) : stepN n c = addN n c := by rw [addN_eq]; unfold stepN; rw [if_pos h]
theorem stepN_gt {n : Nat} (h : 1024 < n) (c : UInt8) : stepN n c = n := by unfold stepN; rw [if_neg (by omega)]
theorem numN_le (l : List UInt8) : ∀ n, n ≤ numN n l := by
  induction l with
  | nil => intro n; rw [numN_nil]; exact Nat.le_refl n
  | cons c r ih => intro n; rw [numN_cons]; exact Nat.le_trans (by rw [addN_eq]; omega) (ih _)
theorem satN_big (l : List UInt8) : ∀ n, 1024 < n → satN n l = n := by
  induction l with
  | nil => intro n _; rw [satN_nil]
  | cons c r ih => intro n h; rw [satN_cons, stepN_gt h, ih _ h]
theorem satN_lt (l : List UInt8) (hd : ∀ c ∈ l, digB c = true) : ∀ n, n < 10250 → satN n l < 10250 := by
  induction l with
  | nil => intro n h; rwa [satN_nil]
  | cons c r ih =>
    intro n h
    have hc : c.toNat ≤ 57 := by
      have := hd c (List.mem_cons_self ..)
      unfold digB at this
      exact (of_decide_eq_true this).2
    rw [satN_cons]
    refine ih (fun x hx => hd x (List.mem_cons_of_mem _ hx)) _ ?_
    rcases Nat.lt_or_ge 1024 n with h1 | h1
    · rw [stepN_gt h1]; exact h
    · rw [stepN_le h1, addN_eq]; omega
theorem sat_num (l : List UInt8) : ∀ n, (numN n l ≤ 1024 → satN n l = numN n l) ∧ (1024 < numN n l → 1024 < satN n l) := by
  induction l with
  | nil => intro n; rw [satN_nil, numN_nil]; exact ⟨fun _ => rfl, fun h => h⟩
  | cons c r ih =>
    intro n
    rw [satN_cons, numN_cons]
    by_cases hn : n ≤ 1024
    · rw [stepN_le hn]; exact ih _
    · rw [stepN_gt (by omega)]
      have := numN_le r (addN n c)
      have := addN_eq n c
      exact ⟨fun h => by omega, fun _ => by rw [satN_big r n (by omega)]; omega⟩
def cl : List UInt8 := [99, 111, 110, 116, 101, 110, 116, 45, 108, 101, 110, 103, 116, 104]
def te : List UInt8 := [116, 114, 97, 110, 115, 102, 101, 114, 45, 101, 110, 99, 111, 100, 105, 110, 103]
def chk : List UInt8 := [99, 104, 117, 110, 107, 101, 100]
def lenP (s : List UInt8) : Nat × Bd :=
  if s = [] ∨ (1 < s.length ∧ s.head? = some 48) ∨ s.all digB = false then (2, bd0)
  else if 1024 < numN 0 s then (6, bd0) else (0, ⟨0, 1, numN 0 s⟩)
/-- By the lengths, by the encodings. -/
def frmP (a b : List ByteArray) : Nat × Bd :=
  if 1 < a.length + b.length then (2, bd0) else
  match b with
  | x :: _ => if x.data.toList.map smB = chk then (0, ⟨1, 0, 0⟩) else (2, bd0)
  | [] => match a with
    | s :: _ => lenP s.data.toList
    | [] => (0, bd0)
def clA : ByteArray := ⟨cl.toArray⟩
def teA : ByteArray := ⟨te.toArray⟩
theorem cl_te : clA ≠ teA := by decide
def framP (l : List Hd) : Nat × Bd := frmP (allP clA l) (allP teA l)
theorem frm_turn (l : List Hd) (k : Nat) : framP (l.drop k ++ l.take k) = framP l := by
  unfold framP
  by_cases h : 1 < (allP clA l).length + (allP teA l).length
  · unfold frmP
    rw [allP_turn_len, allP_turn_len, if_pos h, if_pos h]
  · rw [allP_turn clA l k (by omega), allP_turn teA l k (by omega)]
theorem frm_other (l : List Hd) (o : Hd) (h1 : o.n ≠ clA) (h2 : o.n ≠ teA) : framP (l ++ [o]) = framP l := by
  unfold framP
  rw [allP_append, allP_append, allP_other h1, allP_other h2, List.append_nil, List.append_nil]
theorem frm_has {l : List Hd} {e : Nat} {x : Bd} (h : framP l = (e, x)) (hx : x ≠ bd0) : (allP clA l).length + (allP teA l).length = 1 := by
  unfold framP frmP at h
  split at h
  · injection h with _ h; exact absurd h.symm hx
  rename_i hle
  split at h
  · rename_i hb; rw [hb] at hle ⊢; simp at hle ⊢; omega
  · rename_i hb
    split at h
    · rename_i ha; rw [ha, hb] at hle ⊢; simp at hle ⊢; omega
    · injection h with _ h; exact absurd h.symm hx
theorem frm_more {l : List Hd} {e : Nat} {x : Bd} (h : framP l = (e, x)) (hx : x ≠ bd0) (o : Hd) (ho : o.n = clA ∨ o.n = teA) : framP (l ++ [o]) = (2, bd0) := by
  have h1 := frm_has h hx
  unfold framP frmP
  rw [allP_append, allP_append]
  rw [if_pos]
  rcases ho with ho | ho
  · rw [allP_one ho]; simp; omega
  · rw [allP_one ho]; simp; omega
end Go.Proofs.YtilefgmlnmpeoaaDoor
