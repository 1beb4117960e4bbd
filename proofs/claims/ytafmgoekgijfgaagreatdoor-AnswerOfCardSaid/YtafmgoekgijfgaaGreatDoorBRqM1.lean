/- Plain words of layer 9: names, values, lines, rows of headers, how a body ends. No program is named here. More plain words of layer 9: texts trimmed in either order, values gone through byte by byte, numbers as the library reads them. No program is named here. Plain words of layer 8: targets, roads, segments. No program is named here. Plain words of layer 10: lines, messages, rows of messages, and a reading that takes bytes one by one. No program is named here. Plain words of layer 10: a reading that takes bytes one by one reads what stands in them. No program is named here. Plain words of layer 10: what follows of one message: no beginning of it is one; what stands behind it changes nothing; without one of its line ends' bytes, or with one more, it is none. No program is named here. Plain words of layer 10: a message's bytes, and that they are read as it. No program is named here. Plain words of layer 10: hosts, requests, there and back. No program is named here. Plain words of layer 10: lines and messages at a place of bytes. No program is named here. Plain words of layer 10: numbers as the library reads them, against a chunk's size, and a port. No program is named here. Plain words of layer 10: what a reading has is never great. No program is named here. What the laws of the requests come to, in plain words. No program is named here. -/
import Derived.WalkKit
import Derived.Below
import Derived.Lib.SlTrimSet
import Derived.Lib.AtoiAll
import Derived.Lib.Join
import Derived.Lib.ParseIntB
namespace Go.Proofs.YtafmgoekgijfgaaGreatDoor

theorem all_u8 {P : UInt8 → Prop} (h : ∀ n : Fin 256, P (UInt8.ofNat n.val)) (c : UInt8) : P c := by
 have := h ⟨c.toNat, c.toNat_lt⟩
 rwa [show UInt8.ofNat c.toNat = c from by simp] at this
def tokL : List UInt8 := [33, 35, 36, 37, 38, 39, 42, 43, 45, 46, 94, 95, 96, 124, 126]
/-- A byte of a token (small letters). -/
def tokB (c : UInt8) : Bool := decide (97 ≤ c.toNat ∧ c.toNat ≤ 122 ∨ 48 ≤ c.toNat ∧ c.toNat ≤ 57 ∨ c ∈ tokL)
/-- A blank, a tab. -/
def wsB (c : UInt8) : Bool := decide (c.toNat = 32 ∨ c.toNat = 9)
/-- A byte that is seen. -/
def viB (c : UInt8) : Bool := decide (33 ≤ c.toNat ∧ c.toNat ≤ 126)
def smB (c : UInt8) : UInt8 := if 65 ≤ c.toNat ∧ c.toNat ≤ 90 then c + 32 else c
def nameP (s : List UInt8) : Bool := decide (1 ≤ s.length ∧ s.length ≤ 64) && s.all tokB
/-- Neither begins nor ends with a blank. -/
def bareP (s : List UInt8) : Bool := !(s.head?.any wsB) && !(s.getLast?.any wsB)
def valP (s : List UInt8) : Bool := decide (s.length ≤ 512) && s.all (fun c => wsB c || viB c) && bareP s
theorem nameP_len {n : List UInt8} (h : nameP n = true) : 1 ≤ n.length ∧ n.length ≤ 64 := by
 unfold nameP at h
 simp only [Bool.and_eq_true, decide_eq_true_eq] at h
 exact h.1
theorem nameP_tok {n : List UInt8} (h : nameP n = true) : ∀ c ∈ n, tokB c = true := by
 unfold nameP at h
 simp only [Bool.and_eq_true, List.all_eq_true] at h
 exact h.2
theorem valP_len {v : List UInt8} (h : valP v = true) : v.length ≤ 512 := by
 unfold valP at h
 simp only [Bool.and_eq_true, decide_eq_true_eq] at h
 exact h.1.1
theorem drop_all {p : UInt8 → Bool} : ∀ {l : List UInt8}, (∀ c ∈ l, p c = true) → l.dropWhile p = []
 | [], _ => rfl
 | c :: r, h => by
   rw [List.dropWhile_cons_of_pos (h c (List.mem_cons_self ..))]
   exact drop_all fun x hx => h x (List.mem_cons_of_mem _ hx)
/-- Without blanks around it. -/
def trimP (s : List UInt8) : List UInt8 := (((s.dropWhile wsB).reverse).dropWhile wsB).reverse
theorem trim_pad {a v b : List UInt8} (ha : ∀ c ∈ a, wsB c = true) (hb : ∀ c ∈ b, wsB c = true) (hv : bareP v = true) : trimP (a ++ v ++ b) = v := by
 unfold trimP
 rw [List.append_assoc, List.dropWhile_append_of_pos ha]
 unfold bareP at hv
 simp only [Bool.and_eq_true, Bool.not_eq_true'] at hv
 obtain ⟨h1, h2⟩ := hv
 cases v with
 | nil =>
   rw [List.nil_append, drop_all hb]
   rfl
 | cons c r =>
   have hc : wsB c = false := by simpa using h1
   rw [List.cons_append, List.dropWhile_cons_of_neg (by rw [hc]; exact Bool.false_ne_true), ← List.cons_append, List.reverse_append, List.dropWhile_append_of_pos (fun x hx => hb x (List.mem_reverse.1 hx))]
   have hl : ((c :: r).reverse).dropWhile wsB = (c :: r).reverse := by
     cases hr : (c :: r).reverse with
     | nil => rfl
     | cons d q =>
       have hd : (c :: r).getLast? = some d := by rw [List.getLast?_eq_head?_reverse, hr]; rfl
       rw [hd] at h2
       have hd' : wsB d = false := by simpa using h2
       rw [List.dropWhile_cons_of_neg (by rw [hd']; exact Bool.false_ne_true)]
   rw [hl, List.reverse_reverse]
theorem trim_len (s : List UInt8) : (trimP s).length ≤ s.length := by
 unfold trimP
 rw [List.length_reverse]
 refine Nat.le_trans (List.dropWhile_sublist _).length_le ?_
 rw [List.length_reverse]
 exact (List.dropWhile_sublist _).length_le

/-- A line as a header: the error's number, the name, the value. -/
def readP (s : List UInt8) : Nat × List UInt8 × List UInt8 :=
 if 578 < s.length then (6, [], []) else
 match s.dropWhile (· != 58) with
 | [] => (2, [], [])
 | _ :: r => if (nameP ((s.takeWhile (· != 58)).map smB) && valP (trimP r)) = true then (0, (s.takeWhile (· != 58)).map smB, trimP r) else (2, [], [])
theorem readP_ok {s n v : List UInt8} (h : readP s = (0, n, v)) : nameP n = true ∧ valP v = true := by
 unfold readP at h
 split at h
 · cases h
 split at h
 · cases h
 split at h
 · rename_i hg
   injection h with _ h
   injection h with h1 h2
   subst h1 h2
   simpa using hg
 · cases h
/-- A header. -/
structure Hd where
 n : ByteArray
 v : ByteArray
 deriving DecidableEq
def goodP (h : Hd) : Bool := nameP h.n.data.toList && valP h.v.data.toList
def mayH (l : List Hd) : Bool := l.all goodP && decide (l.length ≤ 24)
/-- The values of a name. -/
def allP (x : ByteArray) (l : List Hd) : List ByteArray := (l.filter fun h => decide (h.n = x)).map (·.v)
theorem allP_append (x : ByteArray) (a b : List Hd) : allP x (a ++ b) = allP x a ++ allP x b := by
 unfold allP
 rw [List.filter_append, List.map_append]
theorem allP_one {x : ByteArray} {h : Hd} (e : h.n = x) : allP x [h] = [h.v] := by simp [allP, e]
theorem allP_other {x : ByteArray} {h : Hd} (e : h.n ≠ x) : allP x [h] = [] := by simp [allP, e]
theorem allP_len (x : ByteArray) (l : List Hd) : (allP x l).length ≤ l.length := by
 unfold allP
 rw [List.length_map]
 exact List.length_filter_le _ _
/-- How a body ends. -/
structure Bd where
 chunked : Nat
 has : Nat
 len : Nat
 deriving DecidableEq
def bd0 : Bd := ⟨0, 0, 0⟩
def digB (c : UInt8) : Bool := decide (48 ≤ c.toNat ∧ c.toNat ≤ 57)
@[irreducible] def addN (n : Nat) (c : UInt8) : Nat := n * 10 + (c.toNat - 48)
theorem addN_eq (n : Nat) (c : UInt8) : addN n c = n * 10 + (c.toNat - 48) := by unfold addN; rfl
def numN (n : Nat) : List UInt8 → Nat
 | [] => n
 | c :: r => numN (addN n c) r
/-- The number as a loop has it that goes no further once it is too great. -/
@[irreducible] def stepN (n : Nat) (c : UInt8) : Nat := if n ≤ 1024 then n * 10 + (c.toNat - 48) else n
def satN (n : Nat) : List UInt8 → Nat
 | [] => n
 | c :: r => satN (stepN n c) r
theorem numN_nil (n : Nat) : numN n [] = n := rfl
theorem numN_cons (n : Nat) (c : UInt8) (r : List UInt8) : numN n (c :: r) = numN (addN n c) r := rfl
theorem satN_nil (n : Nat) : satN n [] = n := rfl
theorem satN_cons (n : Nat) (c : UInt8) (r : List UInt8) : satN n (c :: r) = satN (stepN n c) r := rfl
theorem stepN_le {n : Nat} (h : n ≤ 1024) (c : UInt8) : stepN n c = addN n c := by rw [addN_eq]; unfold stepN; rw [if_pos h]
theorem stepN_gt {n : Nat} (h : 1024 < n) (c : UInt8) : stepN n c = n := by unfold stepN; rw [if_neg (by omega)]
theorem numN_le (l : List UInt8) : ∀ n, n ≤ numN n l := by
 induction l with
 | nil => intro n; rw [numN_nil]; exact Nat.le_refl n
 | cons c r ih => intro n; rw [numN_cons]; exact Nat.le_trans (by rw [addN_eq]; omega) (ih _)
theorem satN_big (l : List UInt8) : ∀ n, 1024 < n → satN n l = n := by
 induction l with
 | nil => intro n _; rw [satN_nil]
 | cons c r ih => intro n h; rw [satN_cons, stepN_gt h, ih _ h]
theorem sat_num (l : List UInt8) : ∀ n, (numN n l ≤ 1024 → satN n l = numN n l) ∧ (1024 < numN n l → 1024 < satN n l) := by
 induction l with
 | nil => intro n; rw [satN_nil, numN_nil]; exact ⟨fun _ => rfl, fun h => h⟩
 | cons c r ih =>
   intro n
   rw [satN_cons, numN_cons]
   by_cases hn : n ≤ 1024
   · rw [stepN_le hn]; exact ih _
   · rw [stepN_gt (by omega)]
     have := numN_le r (addN n c)
     have := addN_eq n c
     exact ⟨fun h => by omega, fun _ => by rw [satN_big r n (by omega)]; omega⟩
def cl : List UInt8 := [99, 111, 110, 116, 101, 110, 116, 45, 108, 101, 110, 103, 116, 104]
def te : List UInt8 := [116, 114, 97, 110, 115, 102, 101, 114, 45, 101, 110, 99, 111, 100, 105, 110, 103]
def chk : List UInt8 := [99, 104, 117, 110, 107, 101, 100]
def lenP (s : List UInt8) : Nat × Bd :=
 if s = [] ∨ (1 < s.length ∧ s.head? = some 48) ∨ s.all digB = false then (2, bd0)
 else if 1024 < numN 0 s then (6, bd0) else (0, ⟨0, 1, numN 0 s⟩)
/-- By the lengths, by the encodings. -/
def frmP (a b : List ByteArray) : Nat × Bd :=
 if 1 < a.length + b.length then (2, bd0) else
 match b with
 | x :: _ => if x.data.toList.map smB = chk then (0, ⟨1, 0, 0⟩) else (2, bd0)
 | [] => match a with
   | s :: _ => lenP s.data.toList
   | [] => (0, bd0)
def clA : ByteArray := ⟨cl.toArray⟩
def teA : ByteArray := ⟨te.toArray⟩
def framP (l : List Hd) : Nat × Bd := frmP (allP clA l) (allP teA l)
end Go.Proofs.YtafmgoekgijfgaaGreatDoor
namespace Go.Proofs.YtafmgoekgijfgaaGreatDoor

theorem bytes_ext {a b : ByteArray} (h : a.data.toList = b.data.toList) : a = b := by
 obtain ⟨x⟩ := a
 obtain ⟨y⟩ := b
 rw [show x = y from Array.toList_inj.1 h]
def bo (l : List UInt8) : ByteArray := ⟨l.toArray⟩
theorem bo_list (l : List UInt8) : (bo l).data.toList = l := rfl
theorem bo_of (s : ByteArray) : bo s.data.toList = s := bytes_ext rfl
theorem bo_size (l : List UInt8) : (bo l).size = l.length := rfl
theorem bo_inj {a b : List UInt8} (h : bo a = bo b) : a = b := by
 have := congrArg (fun x : ByteArray => x.data.toList) h
 exact this
theorem not_head {x c : UInt8} {a : List UInt8} (h : x ∉ c :: a) : ¬ c = x := fun e => h (e ▸ List.mem_cons_self)

theorem ws_set : (fun c : UInt8 => ([32, 9] : List UInt8).contains c) = wsB := by
 funext c
 exact all_u8 (P := fun c => ([32, 9] : List UInt8).contains c = wsB c) (by decide +kernel) c
theorem head_drop (p : UInt8 → Bool) : ∀ l : List UInt8, (l.dropWhile p).head?.any p = false
 | [] => rfl
 | c :: r => by
   by_cases h : p c = true
   · rw [List.dropWhile_cons_of_pos h]; exact head_drop p r
   · rw [List.dropWhile_cons_of_neg h]
     simpa using h
theorem trim_bare (s : List UInt8) : bareP (trimP s) = true := by
 unfold bareP trimP
 rw [List.getLast?_reverse, head_drop]
 have hd := List.takeWhile_append_dropWhile (p := wsB) (l := (s.dropWhile wsB).reverse)
 have hs : s.dropWhile wsB = (((s.dropWhile wsB).reverse).dropWhile wsB).reverse ++ (((s.dropWhile wsB).reverse).takeWhile wsB).reverse := by
   rw [← List.reverse_append, hd, List.reverse_reverse]
 have h0 := head_drop wsB s
 generalize (((s.dropWhile wsB).reverse).dropWhile wsB).reverse = e at *
 cases e with
 | nil => rfl
 | cons c r =>
   rw [hs] at h0
   simpa using h0
theorem trim_parts (s : List UInt8) : ∃ a b, s = a ++ trimP s ++ b ∧ (∀ c ∈ a, wsB c = true) ∧ (∀ c ∈ b, wsB c = true) := by
 refine ⟨s.takeWhile wsB, (((s.dropWhile wsB).reverse).takeWhile wsB).reverse, ?_, fun c hc => ?_, fun c hc => ?_⟩
 · unfold trimP
   rw [List.append_assoc, ← List.reverse_append, List.takeWhile_append_dropWhile, List.reverse_reverse, List.takeWhile_append_dropWhile]
 · exact List.all_eq_true.1 (List.all_takeWhile (p := wsB) (l := s)) c hc
 · exact List.all_eq_true.1 (List.all_takeWhile (p := wsB) (l := (s.dropWhile wsB).reverse)) c (List.mem_reverse.1 hc)
theorem bare_reverse {v : List UInt8} (h : bareP v = true) : bareP v.reverse = true := by
 unfold bareP at h ⊢
 rw [List.head?_reverse, List.getLast?_reverse, Bool.and_comm]
 exact h
/-- The library trims the end first. -/
theorem trimS_eq (s : List UInt8) : Go.Lib.trimS s [32, 9] = trimP s := by
 obtain ⟨a, b, hs, ha, hb⟩ := trim_parts s
 have h1 : Go.Lib.trimS s [32, 9] = (trimP s.reverse).reverse := by
   unfold Go.Lib.trimS Go.Lib.trimLeftS Go.Lib.trimRightS trimP
   rw [ws_set, List.reverse_reverse]
 have h2 : s.reverse = b.reverse ++ (trimP s).reverse ++ a.reverse := by
   conv => lhs; rw [hs]
   rw [List.reverse_append, List.reverse_append, List.append_assoc]
 rw [h1, h2, trim_pad (fun c hc => hb c (List.mem_reverse.1 hc)) (fun c hc => ha c (List.mem_reverse.1 hc)) (bare_reverse (trim_bare s)), List.reverse_reverse]
theorem trim_id (s : List UInt8) : decide (trimP s = s) = bareP s := by
 by_cases h : trimP s = s
 · rw [decide_eq_true h, ← h, trim_bare]
 · rw [decide_eq_false h]
   cases hb : bareP s with
   | false => rfl
   | true =>
     have := trim_pad (a := []) (b := []) (fun c hc => by cases hc) (fun c hc => by cases hc) hb
     simp at this
     exact absurd this h

/-- A value gone through byte by byte (f: this is the first). -/
def vL : Bool → List UInt8 → Bool
 | _, [] => true
 | f, c :: r => if wsB c then !(f || r.isEmpty) && vL false r else viB c && vL false r
theorem vL_behind : ∀ s : List UInt8, vL false s = (s.all (fun c => wsB c || viB c) && !(s.getLast?.any wsB))
 | [] => rfl
 | [c] => by
   unfold vL
   cases hw : wsB c <;> simp [hw, vL]
 | c :: d :: r => by
   have ih := vL_behind (d :: r)
   unfold vL
   rw [ih, List.getLast?_cons_cons, List.all_cons (a := c)]
   generalize (d :: r).all _ = A
   cases wsB c <;> simp [Bool.and_assoc]
theorem vL_eq (s : List UInt8) : vL true s = (s.all (fun c => wsB c || viB c) && bareP s) := by
 unfold bareP
 cases s with
 | nil => rfl
 | cons c r =>
   unfold vL
   rw [vL_behind]
   cases r with
   | nil => cases hw : wsB c <;> simp [hw]
   | cons d q =>
     rw [List.getLast?_cons_cons, List.all_cons (a := c)]
     generalize (d :: q).all _ = A
     cases hw : wsB c <;> simp [hw, Bool.and_assoc]
theorem valP_eq (s : List UInt8) : valP s = (decide (s.length ≤ 512) && vL true s) := by
 rw [vL_eq]
 unfold valP
 rw [Bool.and_assoc]

theorem parse_digits : ∀ (l : List UInt8) (acc : Nat), acc < 18446744073709551616 → (∀ c ∈ l, digB c = true) → Go.Lib.parseUint10 acc l = if numN acc l < 18446744073709551616 then .ok (numN acc l) else .range
 | [], acc, h, _ => by
   rw [numN_nil, if_pos h]
   rfl
 | c :: r, acc, h, hd => by
   have hc : 48 ≤ c.toNat ∧ c.toNat ≤ 57 := by
     have := hd c (List.mem_cons_self ..)
     unfold digB at this
     exact of_decide_eq_true this
   have hr := fun x hx => hd x (List.mem_cons_of_mem _ hx)
   rw [numN_cons]
   unfold Go.Lib.parseUint10
   rw [if_pos hc]
   have hn := numN_le r (addN acc c)
   have ha := addN_eq acc c
   split
   · rw [if_neg (by omega)]
   split
   · rw [if_neg (by omega)]
   · rw [← ha]
     exact parse_digits r (addN acc c) (by omega) hr
theorem atoi_digits (l : List UInt8) (h0 : l ≠ []) (hd : ∀ c ∈ l, digB c = true) : Go.Lib.atoiAll l = if numN 0 l < 9223372036854775808 then .ok (numN 0 l : Int) else .range := by
 cases l with
 | nil => exact absurd rfl h0
 | cons c r =>
   have hc : 48 ≤ c.toNat ∧ c.toNat ≤ 57 := by
     have := hd c (List.mem_cons_self ..)
     unfold digB at this
     exact of_decide_eq_true this
   unfold Go.Lib.atoiAll
   simp only
   rw [if_neg (by omega)]
   unfold Go.Lib.parseMag
   rw [if_neg (by simp), parse_digits _ 0 (by omega) hd]
   generalize numN 0 (c :: r) = n
   have h45 : ¬ c.toNat = 45 := by omega
   simp only [h45, if_false, not_false_eq_true, true_and, false_and]
   by_cases h1 : n < 18446744073709551616
   · rw [if_pos h1]
     simp only
     by_cases h2 : n < 9223372036854775808
     · rw [if_neg (by omega), if_pos h2]
     · rw [if_pos (by omega), if_neg h2]
   · rw [if_neg h1, if_neg (by omega)]
end Go.Proofs.YtafmgoekgijfgaaGreatDoor
namespace Go.Proofs.YtafmgoekgijfgaaGreatDoor

/-- A digit's number. -/
def hexV (c : UInt8) : Option Nat := if 48 ≤ c.toNat ∧ c.toNat ≤ 57 then some (c.toNat - 48) else if 65 ≤ c.toNat ∧ c.toNat ≤ 70 then some (c.toNat - 55) else if 97 ≤ c.toNat ∧ c.toNat ≤ 102 then some (c.toNat - 87) else none
variable {bad : UInt8 → Bool}
/-- Step 2. -/
def lefP (acc : List (List UInt8)) : List (List UInt8) → Option (List (List UInt8))
 | [] => some acc
 | s :: r => if s = [] ∨ s = [46] then lefP acc r else if s = [46, 46] then (if acc = [] then none else lefP acc.dropLast r) else lefP (acc ++ [s]) r
def isDir (s : List UInt8) : Bool := decide (s = [] ∨ s = [46] ∨ s = [46, 46])
def dirP (l : List (List UInt8)) : Bool := match l.getLast? with
 | some s => isDir s
 | none => false
end Go.Proofs.YtafmgoekgijfgaaGreatDoor
namespace Go.Proofs.YtafmgoekgijfgaaGreatDoor

/-- A line at the front of bytes: not whole yet, a fault, or the line and what stands behind it. -/
inductive LR
 | more
 | bad (e : Nat)
 | line (s r : List UInt8)
def LR.pre (a : List UInt8) : LR → LR
 | .more => .more
 | .bad e => .bad e
 | .line s r => .line (a ++ s) r
/-- With n bytes of it read. -/
def rdlP : Nat → List UInt8 → LR
 | _, [] => .more
 | n, c :: r =>
   if c = 10 then .bad 2
   else if c = 13 then
     match r with
     | [] => .more
     | d :: r' => if d = 10 then .line [] r' else .bad 2
   else if 578 ≤ n then .bad 6
   else (rdlP (n + 1) r).pre [c]
theorem pre_pre (a b : List UInt8) (x : LR) : (x.pre b).pre a = x.pre (a ++ b) := by cases x <;> simp [LR.pre]
theorem pre_nil (x : LR) : x.pre [] = x := by cases x <;> rfl
/-- A byte that ends no line. -/
def inl (c : UInt8) : Prop := c ≠ 10 ∧ c ≠ 13
theorem rdlP_nil (n : Nat) : rdlP n [] = .more := by rw [rdlP]
theorem rdlP_lf (n : Nat) (r : List UInt8) : rdlP n (10 :: r) = .bad 2 := by rw [rdlP.eq_def]; rfl
theorem rdlP_cr (n : Nat) : rdlP n [13] = .more := by rw [rdlP.eq_def]; rfl
theorem rdlP_end (n : Nat) (r : List UInt8) : rdlP n (13 :: 10 :: r) = .line [] r := by rw [rdlP.eq_def]; rfl
theorem rdlP_odd (n : Nat) {d : UInt8} (h : d ≠ 10) (r : List UInt8) : rdlP n (13 :: d :: r) = .bad 2 := by
 rw [rdlP.eq_def]
 simp [h]
theorem rdlP_long {n : Nat} {c : UInt8} (h : inl c) (hn : 578 ≤ n) (r : List UInt8) : rdlP n (c :: r) = .bad 6 := by
 rw [rdlP.eq_def]
 simp only
 rw [if_neg h.1, if_neg h.2, if_pos hn]
theorem rdlP_one {n : Nat} {c : UInt8} (h : inl c) (hn : n < 578) (r : List UInt8) : rdlP n (c :: r) = (rdlP (n + 1) r).pre [c] := by
 rw [rdlP.eq_def]
 simp only
 rw [if_neg h.1, if_neg h.2, if_neg (by omega)]
theorem rdlP_app : ∀ (a : List UInt8) (n : Nat) (r : List UInt8), (∀ c ∈ a, inl c) → n + a.length ≤ 578 → rdlP n (a ++ r) = (rdlP (n + a.length) r).pre a
 | [], n, r, _, _ => by rw [pre_nil]; rfl
 | c :: a, n, r, h, hn => by
   rw [List.length_cons] at hn
   rw [List.cons_append, rdlP_one (h c (List.mem_cons_self ..)) (by omega), rdlP_app a (n + 1) r (fun x hx => h x (List.mem_cons_of_mem _ hx)) (by omega), pre_pre, List.length_cons]
   rw [show n + 1 + a.length = n + (a.length + 1) from by omega]
   rfl
/-- A line that is read: what it is made of. -/
theorem rdlP_line : ∀ (b : List UInt8) (n : Nat) {s r : List UInt8}, rdlP n b = .line s r → b = s ++ 13 :: 10 :: r ∧ (∀ c ∈ s, inl c) ∧ (n ≤ 578 → n + s.length ≤ 578)
 | [], n, s, r, h => by rw [rdlP_nil] at h; cases h
 | c :: b, n, s, r, h => by
   by_cases h10 : c = 10
   · subst h10; rw [rdlP_lf] at h; cases h
   by_cases h13 : c = 13
   · subst h13
     cases b with
     | nil => rw [rdlP_cr] at h; cases h
     | cons d b =>
       by_cases hd : d = 10
       · subst hd
         rw [rdlP_end] at h
         injection h with h1 h2
         subst h1 h2
         exact ⟨rfl, fun c hc => (by cases hc), fun h => h⟩
       · rw [rdlP_odd n hd] at h; cases h
   by_cases hn : 578 ≤ n
   · rw [rdlP_long ⟨h10, h13⟩ hn] at h; cases h
   rw [rdlP_one ⟨h10, h13⟩ (by omega)] at h
   cases hb : rdlP (n + 1) b with
   | more => rw [hb] at h; cases h
   | bad e => rw [hb] at h; cases h
   | line t q =>
     rw [hb] at h
     injection h with h1 h2
     subst h1 h2
     obtain ⟨e1, e2, e3⟩ := rdlP_line b (n + 1) hb
     refine ⟨by rw [e1]; simp, fun x hx => ?_, fun _ => by have := e3 (by omega); simp; omega⟩
     simp at hx
     rcases hx with rfl | hx
     · exact ⟨h10, h13⟩
     · exact e2 x hx
theorem rdlP_len {b s r : List UInt8} {n : Nat} (h : rdlP n b = .line s r) : r.length + 2 ≤ b.length := by
 rw [(rdlP_line b n h).1]
 simp
/-- More bytes behind: what is told stays. -/
def LR.add (q : List UInt8) : LR → LR
 | .more => .more
 | .bad e => .bad e
 | .line s r => .line s (r ++ q)
/-- A chunk's size. -/
def sizeN (n : Nat) : List UInt8 → Option Nat
 | [] => some n
 | c :: r => match hexV c with
   | some d => sizeN (n * 16 + d) r
   | none => none
def sizeP (s : List UInt8) : Option Nat := if s = [] ∨ 4 < s.length ∨ (1 < s.length ∧ s.head? = some 48) then none else sizeN 0 s
/-- A message. -/
structure Rw where
 start : List UInt8
 heads : List Hd
 body : List UInt8
/-- A message at the front of bytes. -/
inductive MR
 | more
 | bad (e : Nat)
 | msg (x : Rw) (r : List UInt8)
/-- The rest of a body by chunks. -/
def chuP (s : List UInt8) (h : List Hd) (body b : List UInt8) : MR :=
 match _hl : rdlP 0 b with
 | .more => .more
 | .bad e => .bad e
 | .line t r => match sizeP t with
   | none => .bad 2
   | some n => if 0 < n ∧ 1024 < body.length + n then .bad 6 else if r.length < n then .more else
     match _hq : rdlP 0 (r.drop n) with
     | .more => .more
     | .bad e => .bad e
     | .line u q => if u ≠ [] then .bad 2 else if n = 0 then .msg ⟨s, h, body⟩ q else chuP s h (body ++ r.take n) q
 termination_by b.length
 decreasing_by
   have h1 := rdlP_len _hl
   have h2 := rdlP_len _hq
   rw [List.length_drop] at h2
   omega
def bodP (s : List UInt8) (h : List Hd) (b : List UInt8) : MR :=
 match framP h with
 | (0, f) => if f.chunked = 1 then chuP s h [] b else if b.length < f.len then .more else .msg ⟨s, h, b.take f.len⟩ (b.drop f.len)
 | (e, _) => .bad e
/-- The rest of the headers. -/
def heaP (s : List UInt8) (h : List Hd) (b : List UInt8) : MR :=
 match _hl : rdlP 0 b with
 | .more => .more
 | .bad e => .bad e
 | .line t r => if t = [] then bodP s h r else
   match readP t with
   | (0, n, v) => if h.length = 24 then .bad 3 else heaP s (h ++ [⟨bo n, bo v⟩]) r
   | (e, _, _) => .bad e
 termination_by b.length
 decreasing_by
   have h1 := rdlP_len _hl
   omega
def mesP (b : List UInt8) : MR := match rdlP 0 b with
 | .more => .more
 | .bad e => .bad e
 | .line t r => heaP t [] r
theorem chuP_eq (s : List UInt8) (h : List Hd) (body b : List UInt8) : chuP s h body b = (match rdlP 0 b with
 | .more => .more
 | .bad e => .bad e
 | .line t r => match sizeP t with
   | none => .bad 2
   | some n => if 0 < n ∧ 1024 < body.length + n then .bad 6 else if r.length < n then .more else
     match rdlP 0 (r.drop n) with
     | .more => .more
     | .bad e => .bad e
     | .line u q => if u ≠ [] then .bad 2 else if n = 0 then .msg ⟨s, h, body⟩ q else chuP s h (body ++ r.take n) q) := by
 rw [chuP]
 split <;> rename_i hl <;> simp only [hl]
 split
 · rfl
 split
 · rfl
 split
 · rfl
 split <;> rename_i hq <;> simp only [hq]
/-- A line that must be empty, behind a chunk, or behind the last one (z). -/
def tilP (z : Bool) (s : List UInt8) (h : List Hd) (body b : List UInt8) : MR :=
 match rdlP 0 b with
 | .more => .more
 | .bad e => .bad e
 | .line u q => if u ≠ [] then .bad 2 else if z = true then .msg ⟨s, h, body⟩ q else chuP s h body q
/-- A chunk's bytes, and what stands behind them. -/
def bytP (s : List UInt8) (h : List Hd) (body : List UInt8) (n : Nat) (r : List UInt8) : MR :=
 if r.length < n then .more else tilP false s h (body ++ r.take n) (r.drop n)
theorem chuP_eq' (s : List UInt8) (h : List Hd) (body b : List UInt8) : chuP s h body b = (match rdlP 0 b with
 | .more => .more
 | .bad e => .bad e
 | .line t r => match sizeP t with
   | none => .bad 2
   | some n => if 0 < n ∧ 1024 < body.length + n then .bad 6 else if n = 0 then tilP true s h body r else bytP s h body n r) := by
 rw [chuP_eq]
 cases rdlP 0 b with
 | more => rfl
 | bad e => rfl
 | line t r =>
   simp only
   cases sizeP t with
   | none => rfl
   | some n =>
     simp only
     by_cases hn : n = 0
     · subst hn
       simp [tilP]
     · rw [if_neg hn]
       unfold bytP tilP
       simp only [if_neg hn]
       simp
theorem heaP_eq (s : List UInt8) (h : List Hd) (b : List UInt8) : heaP s h b = (match rdlP 0 b with
 | .more => .more
 | .bad e => .bad e
 | .line t r => if t = [] then bodP s h r else
   match readP t with
   | (0, n, v) => if h.length = 24 then .bad 3 else heaP s (h ++ [⟨bo n, bo v⟩]) r
   | (e, _, _) => .bad e) := by
 rw [heaP]
 split <;> rename_i hl <;> simp only [hl]
theorem heaP_len : ∀ (k : Nat) (b : List UInt8), b.length ≤ k → ∀ (s : List UInt8) (h : List Hd) (x : Rw) (r : List UInt8), heaP s h b = .msg x r → r.length + 2 ≤ b.length := by
 have hc : ∀ (k : Nat) (b : List UInt8), b.length ≤ k → ∀ (s : List UInt8) (h : List Hd) (body : List UInt8) (x : Rw) (r : List UInt8), chuP s h body b = .msg x r → r.length + 2 ≤ b.length := by
   intro k
   induction k with
   | zero =>
     intro b hb s h body x r e
     have : b = [] := List.eq_nil_of_length_eq_zero (by omega)
     subst this
     rw [chuP_eq, rdlP_nil] at e
     cases e
   | succ k ih =>
     intro b hb s h body x r e
     rw [chuP_eq] at e
     split at e
     · cases e
     · cases e
     rename_i t q hl
     have l1 := rdlP_len hl
     split at e
     · cases e
     split at e
     · cases e
     split at e
     · cases e
     split at e
     · cases e
     · cases e
     rename_i u q' hl2
     have l2 := rdlP_len hl2
     rw [List.length_drop] at l2
     split at e
     · cases e
     split at e
     · injection e with _ e2
       rw [← e2]
       omega
     · have := ih q' (by omega) _ _ _ _ _ e
       omega
 intro k
 induction k with
 | zero =>
   intro b hb s h x r e
   have : b = [] := List.eq_nil_of_length_eq_zero (by omega)
   subst this
   rw [heaP_eq, rdlP_nil] at e
   cases e
 | succ k ih =>
   intro b hb s h x r e
   rw [heaP_eq] at e
   split at e
   · cases e
   · cases e
   rename_i t q hl
   have l1 := rdlP_len hl
   split at e
   · unfold bodP at e
     split at e
     · split at e
       · have := hc _ q (Nat.le_refl _) _ _ _ _ _ e
         omega
       split at e
       · cases e
       · injection e with _ e2
         rw [← e2, List.length_drop]
         omega
     · cases e
   split at e
   · split at e
     · cases e
     · have := ih q (by omega) _ _ _ _ e
       omega
   · cases e
theorem mesP_len {b : List UInt8} {x : Rw} {r : List UInt8} (e : mesP b = .msg x r) : r.length + 2 ≤ b.length := by
 unfold mesP at e
 split at e
 · cases e
 · cases e
 rename_i t q hl
 have l1 := rdlP_len hl
 have := heaP_len _ q (Nat.le_refl _) _ _ _ _ e
 omega
/-- All messages at the front of bytes, whether nothing is left, the fault. -/
def rowP (b : List UInt8) : List Rw × Bool × Nat :=
 if b = [] then ([], true, 0) else
 match _hm : mesP b with
 | .more => ([], false, 0)
 | .bad e => ([], false, e)
 | .msg x r => (x :: (rowP r).1, (rowP r).2)
 termination_by b.length
 decreasing_by
   all_goals
     have := mesP_len _hm
     omega
def finP : MR → List Rw × Bool × Nat
 | .more => ([], false, 0)
 | .bad e => ([], false, e)
 | .msg x r => (x :: (rowP r).1, (rowP r).2)
theorem rowP_nil : rowP [] = ([], true, 0) := by rw [rowP, if_pos rfl]
theorem rowP_fin {b : List UInt8} (h : b ≠ []) : rowP b = finP (mesP b) := by
 rw [rowP, if_neg h]
 split <;> rename_i hm <;> rw [hm] <;> rfl
end Go.Proofs.YtafmgoekgijfgaaGreatDoor
namespace Go.Proofs.YtafmgoekgijfgaaGreatDoor

/-- A reading. -/
structure Ps where
 phase : Nat
 line : List UInt8
 start : List UInt8
 heads : List Hd
 body : List UInt8
 left : Nat
 err : Nat
def new0 : Ps := ⟨0, [], [], [], [], 0, 0⟩
/-- A line takes a byte: it goes on, a fault, it is whole. -/
inductive TL
 | more (l : List UInt8)
 | bad (e : Nat)
 | line (s : List UInt8)
def takL (l : List UInt8) (c : UInt8) : TL :=
 if l.getLast? = some 13 then (if c = 10 then .line l.dropLast else .bad 2)
 else if c = 10 then .bad 2
 else if c = 13 then .more (l ++ [c])
 else if 578 ≤ l.length then .bad 6
 else .more (l ++ [c])
def Ps.bad (_ : Ps) (e : Nat) : Ps := ⟨0, [], [], [], [], 0, e⟩
/-- Behind the headers. -/
def Ps.hdone (s : Ps) : Ps × List Rw := match framP s.heads with
 | (0, f) => if f.chunked = 1 then ({ s with phase := 3, line := [] }, []) else if f.len = 0 then (new0, [⟨s.start, s.heads, []⟩]) else ({ s with phase := 2, line := [], left := f.len }, [])
 | (e, _) => (s.bad e, [])
/-- A whole line, by the phase. -/
def Ps.whole (s : Ps) (t : List UInt8) : Ps × List Rw :=
 if s.phase = 0 then ({ s with phase := 1, line := [], start := t }, [])
 else if s.phase = 1 then
   if t = [] then s.hdone else
   match readP t with
   | (0, n, v) => if s.heads.length = 24 then (s.bad 3, []) else ({ s with line := [], heads := s.heads ++ [⟨bo n, bo v⟩] }, [])
   | (e, _, _) => (s.bad e, [])
 else if s.phase = 3 then
   match sizeP t with
   | none => (s.bad 2, [])
   | some n => if 0 < n ∧ 1024 < s.body.length + n then (s.bad 6, []) else if n = 0 then ({ s with phase := 6, line := [] }, []) else ({ s with phase := 4, line := [], left := n }, [])
 else if t ≠ [] then (s.bad 2, [])
 else if s.phase = 5 then ({ s with phase := 3, line := [] }, [])
 else (new0, [⟨s.start, s.heads, s.body⟩])
/-- A byte of a body, or of a chunk. -/
def Ps.byte (s : Ps) (c : UInt8) : Ps × List Rw :=
 if 1 < s.left then ({ s with body := s.body ++ [c], left := s.left - 1 }, [])
 else if s.phase = 2 then (new0, [⟨s.start, s.heads, s.body ++ [c]⟩])
 else ({ s with body := s.body ++ [c], left := 0, phase := 5 }, [])
def stepP (s : Ps) (c : UInt8) : Ps × List Rw :=
 if s.err ≠ 0 then (s, [])
 else if s.phase = 2 ∨ s.phase = 4 then s.byte c
 else match takL s.line c with
   | .more l => ({ s with line := l }, [])
   | .bad e => (s.bad e, [])
   | .line t => s.whole t
def runP (s : Ps) : List UInt8 → Ps × List Rw
 | [] => (s, [])
 | c :: r => ((runP (stepP s c).1 r).1, (stepP s c).2 ++ (runP (stepP s c).1 r).2)
theorem runP_cons (s : Ps) (c : UInt8) (r : List UInt8) : runP s (c :: r) = ((runP (stepP s c).1 r).1, (stepP s c).2 ++ (runP (stepP s c).1 r).2) := rfl
theorem stepP_err {s : Ps} (h : s.err ≠ 0) (c : UInt8) : stepP s c = (s, []) := by unfold stepP; rw [if_pos h]
/-- Behind a fault nothing is read. -/
theorem runP_err {s : Ps} (h : s.err ≠ 0) : ∀ b, runP s b = (s, [])
 | [] => rfl
 | c :: b => by rw [runP_cons, stepP_err h, runP_err h b]; rfl

/-- What has come of a line. -/
def partL (l : List UInt8) : Prop := ∃ a, (∀ c ∈ a, inl c) ∧ a.length ≤ 578 ∧ (l = a ∨ l = a ++ [13])
theorem part_nil : partL [] := ⟨[], fun c hc => (by cases hc), by simp, .inl rfl⟩
theorem last_inl {a : List UInt8} (h : ∀ c ∈ a, inl c) : a.getLast? ≠ some 13 := fun e => (h 13 (List.mem_of_getLast? e)).2 rfl
theorem part_more {l : List UInt8} (h : partL l) : rdlP 0 l = .more := by
 obtain ⟨a, h1, h2, rfl | rfl⟩ := h
 · have := rdlP_app l 0 [] h1 (by omega)
   rw [List.append_nil, rdlP_nil] at this
   rw [this]; rfl
 · rw [rdlP_app a 0 [13] h1 (by omega), rdlP_cr]; rfl
theorem take_line {l : List UInt8} (h : partL l) (c : UInt8) (b : List UInt8) :
   (∃ l', takL l c = .more l' ∧ l' = l ++ [c] ∧ partL l') ∨ (∃ e, takL l c = .bad e ∧ e ≠ 0 ∧ rdlP 0 (l ++ c :: b) = .bad e) ∨ (∃ t, takL l c = .line t ∧ rdlP 0 (l ++ c :: b) = .line t b) := by
 obtain ⟨a, h1, h2, rfl | rfl⟩ := h
 · have hl := last_inl h1
   unfold takL
   rw [if_neg hl, rdlP_app l 0 _ h1 (by omega)]
   by_cases h10 : c = 10
   · subst h10
     rw [if_pos rfl, rdlP_lf]
     exact .inr (.inl ⟨2, rfl, by decide, rfl⟩)
   rw [if_neg h10]
   by_cases h13 : c = 13
   · subst h13
     rw [if_pos rfl]
     exact .inl ⟨_, rfl, rfl, l, h1, h2, .inr rfl⟩
   rw [if_neg h13]
   by_cases hn : 578 ≤ l.length
   · rw [if_pos hn, rdlP_long ⟨h10, h13⟩ (by omega)]
     exact .inr (.inl ⟨6, rfl, by decide, rfl⟩)
   · rw [if_neg hn]
     refine .inl ⟨_, rfl, rfl, l ++ [c], fun x hx => ?_, by simp; omega, .inl rfl⟩
     simp at hx
     rcases hx with hx | rfl
     · exact h1 x hx
     · exact ⟨h10, h13⟩
 · unfold takL
   rw [if_pos (by simp)]
   rw [show a ++ [13] ++ c :: b = a ++ 13 :: c :: b from by simp, rdlP_app a 0 _ h1 (by omega)]
   by_cases h10 : c = 10
   · subst h10
     rw [if_pos rfl, rdlP_end]
     exact .inr (.inr ⟨_, rfl, by simp [LR.pre]⟩)
   · rw [if_neg h10, rdlP_odd _ h10]
     exact .inr (.inl ⟨2, rfl, by decide, rfl⟩)

/-- What a reading reads of what comes. -/
def conP (s : Ps) (b : List UInt8) : List Rw × Bool × Nat :=
 if s.err ≠ 0 then ([], false, s.err)
 else if s.phase = 0 then (if s.line = [] then rowP b else finP (mesP (s.line ++ b)))
 else if s.phase = 1 then finP (heaP s.start s.heads (s.line ++ b))
 else if s.phase = 2 then finP (if b.length < s.left then .more else .msg ⟨s.start, s.heads, s.body ++ b.take s.left⟩ (b.drop s.left))
 else if s.phase = 3 then finP (chuP s.start s.heads s.body (s.line ++ b))
 else if s.phase = 4 then finP (bytP s.start s.heads s.body s.left b)
 else if s.phase = 5 then finP (tilP false s.start s.heads s.body (s.line ++ b))
 else finP (tilP true s.start s.heads s.body (s.line ++ b))
/-- A reading as it comes to be. -/
def liveP (s : Ps) : Prop := s.err = 0 → partL s.line ∧ (s.phase = 2 ∨ s.phase = 4 → 0 < s.left ∧ s.line = []) ∧ s.phase ≤ 6 ∧ (s.phase = 0 → s.start = [] ∧ s.heads = [] ∧ s.body = []) ∧ (s.phase = 1 ∨ s.phase = 0 → s.body = []) 
def idleP (s : Ps) : Bool := decide (s.err = 0 ∧ s.phase = 0 ∧ s.line = [])
theorem live_new : liveP new0 := fun _ => ⟨part_nil, fun h => (by rcases h with h | h <;> cases h), by decide, fun _ => ⟨rfl, rfl, rfl⟩, fun _ => rfl⟩
theorem con_new (b : List UInt8) : conP new0 b = rowP b := by
 unfold conP new0
 simp
theorem con_bad {s : Ps} {e : Nat} (he : e ≠ 0) (b : List UInt8) : conP (s.bad e) b = ([], false, e) := by
 unfold conP Ps.bad
 rw [if_pos he]
theorem live_bad {s : Ps} {e : Nat} (he : e ≠ 0) : liveP (s.bad e) := fun h => absurd h he
theorem mes_nil {l : List UInt8} (h : partL l) : mesP l = .more := by unfold mesP; rw [part_more h]
theorem con_nil {s : Ps} (h : liveP s) : conP s [] = ([], idleP s, s.err) := by
 unfold conP idleP
 by_cases he : s.err = 0
 · obtain ⟨h1, h2, h3, h4⟩ := h he
   rw [if_neg (fun h => h he), he, List.append_nil]
   by_cases p0 : s.phase = 0
   · rw [if_pos p0, p0]
     by_cases hl : s.line = []
     · rw [if_pos hl, rowP_nil, hl]; rfl
     · rw [if_neg hl, mes_nil h1]; simp [hl, finP]
   rw [if_neg p0]
   have hi : decide ((0 : Nat) = 0 ∧ s.phase = 0 ∧ s.line = []) = false := by simp [p0]
   rw [hi]
   by_cases p1 : s.phase = 1
   · rw [if_pos p1, heaP_eq, part_more h1]; rfl
   rw [if_neg p1]
   by_cases p2 : s.phase = 2
   · rw [if_pos p2, if_pos (by have := h2 (.inl p2); simp; omega)]; rfl
   rw [if_neg p2]
   by_cases p3 : s.phase = 3
   · rw [if_pos p3, chuP_eq, part_more h1]; rfl
   rw [if_neg p3]
   by_cases p4 : s.phase = 4
   · rw [if_pos p4]
     unfold bytP
     rw [if_pos (by have := h2 (.inr p4); simp; omega)]; rfl
   rw [if_neg p4]
   unfold tilP
   rw [part_more h1]
   split <;> rfl
 · rw [if_pos he]; simp [he]
theorem con_live {s : Ps} (he : s.err = 0) (b : List UInt8) : conP s b =
   (if s.phase = 0 then (if s.line = [] then rowP b else finP (mesP (s.line ++ b)))
   else if s.phase = 1 then finP (heaP s.start s.heads (s.line ++ b))
   else if s.phase = 2 then finP (if b.length < s.left then .more else .msg ⟨s.start, s.heads, s.body ++ b.take s.left⟩ (b.drop s.left))
   else if s.phase = 3 then finP (chuP s.start s.heads s.body (s.line ++ b))
   else if s.phase = 4 then finP (bytP s.start s.heads s.body s.left b)
   else if s.phase = 5 then finP (tilP false s.start s.heads s.body (s.line ++ b))
   else finP (tilP true s.start s.heads s.body (s.line ++ b))) := by
 unfold conP
 rw [if_neg (fun h => h he)]
theorem con0 {s : Ps} (he : s.err = 0) (p : s.phase = 0) (b : List UInt8) : conP s b = if s.line = [] then rowP b else finP (mesP (s.line ++ b)) := by rw [con_live he, if_pos p]
theorem con0' {s : Ps} (he : s.err = 0) (p : s.phase = 0) {b : List UInt8} (hb : s.line ++ b ≠ []) : conP s b = finP (mesP (s.line ++ b)) := by
 rw [con0 he p]
 by_cases hl : s.line = []
 · rw [if_pos hl, hl, List.nil_append]
   rw [hl, List.nil_append] at hb
   exact rowP_fin hb
 · rw [if_neg hl]
theorem con1 {s : Ps} (he : s.err = 0) (p : s.phase = 1) (b : List UInt8) : conP s b = finP (heaP s.start s.heads (s.line ++ b)) := by rw [con_live he, p]; rfl
theorem con2 {s : Ps} (he : s.err = 0) (p : s.phase = 2) (b : List UInt8) : conP s b = finP (if b.length < s.left then .more else .msg ⟨s.start, s.heads, s.body ++ b.take s.left⟩ (b.drop s.left)) := by rw [con_live he, p]; rfl
theorem con3 {s : Ps} (he : s.err = 0) (p : s.phase = 3) (b : List UInt8) : conP s b = finP (chuP s.start s.heads s.body (s.line ++ b)) := by rw [con_live he, p]; rfl
theorem con4 {s : Ps} (he : s.err = 0) (p : s.phase = 4) (b : List UInt8) : conP s b = finP (bytP s.start s.heads s.body s.left b) := by rw [con_live he, p]; rfl
theorem con5 {s : Ps} (he : s.err = 0) (p : s.phase = 5) (b : List UInt8) : conP s b = finP (tilP false s.start s.heads s.body (s.line ++ b)) := by rw [con_live he, p]; rfl
theorem con6 {s : Ps} (he : s.err = 0) (p : s.phase = 6) (b : List UInt8) : conP s b = finP (tilP true s.start s.heads s.body (s.line ++ b)) := by rw [con_live he, p]; rfl
/-- What a step must be. -/
def goesP (_ : Ps) (x : Ps × List Rw) (v : List UInt8 → List Rw × Bool × Nat) (b : List UInt8) : Prop := liveP x.1 ∧ v b = (x.2 ++ (conP x.1 b).1, (conP x.1 b).2)
theorem goes_bad {s : Ps} {e : Nat} (he : e ≠ 0) {v : List UInt8 → List Rw × Bool × Nat} {b : List UInt8} (h : v b = ([], false, e)) : goesP s (s.bad e, []) v b :=
 ⟨live_bad (s := s) he, by rw [con_bad he, h]; rfl⟩
theorem goes_on {s x : Ps} {v : List UInt8 → List Rw × Bool × Nat} {b : List UInt8} (hx : liveP x) (h : v b = conP x b) : goesP s (x, []) v b :=
 ⟨hx, by rw [h]; rfl⟩
theorem goes_out {s : Ps} {m : Rw} {v : List UInt8 → List Rw × Bool × Nat} {b : List UInt8} (h : v b = finP (.msg m b)) : goesP s (new0, [m]) v b :=
 ⟨live_new, by rw [con_new, h]; rfl⟩
theorem hdone_step {s : Ps} (he : s.err = 0) (hb : s.body = []) (b : List UInt8) : goesP s s.hdone (fun b => finP (bodP s.start s.heads b)) b := by
 unfold Ps.hdone bodP
 cases hf : framP s.heads with
 | mk e f =>
   cases e with
   | succ e => exact goes_bad (Nat.succ_ne_zero e) (by simp only; rfl)
   | zero =>
     simp only
     by_cases hc : f.chunked = 1
     · rw [if_pos hc]
       refine goes_on (fun _ => ⟨part_nil, fun h => (by rcases h with h | h <;> cases h), by simp, fun h => (by cases h), fun h => (by rcases h with h | h <;> cases h)⟩) ?_
       refine Eq.trans ?_ (con3 (by exact he) (by rfl) b).symm
       simp only [if_pos hc, hb]
       rfl
     rw [if_neg hc]
     by_cases hl : f.len = 0
     · rw [if_pos hl]
       refine goes_out ?_
       simp only [if_neg hc, hl]
       simp
     rw [if_neg hl]
     refine goes_on (fun _ => ⟨part_nil, fun _ => ⟨by simp; omega, rfl⟩, by simp, fun h => (by cases h), fun h => (by rcases h with h | h <;> cases h)⟩) ?_
     refine Eq.trans ?_ (con2 (by exact he) (by rfl) b).symm
     simp only [if_neg hc, hb]
     rfl
theorem whole_step {s : Ps} (h : liveP s) (he : s.err = 0) (h2 : s.phase ≠ 2) (h4 : s.phase ≠ 4) {c : UInt8} {t b : List UInt8} (hl : rdlP 0 (s.line ++ c :: b) = .line t b) : goesP s (s.whole t) (fun b => conP s (c :: b)) b := by
 obtain ⟨i1, i2, i3, i4, i5⟩ := h he
 unfold Ps.whole
 by_cases p0 : s.phase = 0
 · rw [if_pos p0]
   obtain ⟨j1, j2, j3⟩ := i4 p0
   refine goes_on (fun _ => ⟨part_nil, fun h => (by rcases h with h | h <;> cases h), by simp, fun h => (by cases h), fun _ => j3⟩) ?_
   refine Eq.trans ?_ (con1 (by exact he) (by rfl) b).symm
   simp only
   rw [con0' he p0 (by simp)]
   unfold mesP
   rw [hl, j2]
   rfl
 rw [if_neg p0]
 by_cases p1 : s.phase = 1
 · rw [if_pos p1]
   have hv : (fun b => conP s (c :: b)) b = finP (heaP s.start s.heads (s.line ++ c :: b)) := con1 he p1 _
   rw [heaP_eq, hl] at hv
   simp only at hv
   by_cases ht : t = []
   · rw [if_pos ht]
     rw [if_pos ht] at hv
     obtain ⟨g1, g2⟩ := hdone_step he (i5 (.inl p1)) b
     exact ⟨g1, hv.trans g2⟩
   rw [if_neg ht]
   rw [if_neg ht] at hv
   rcases hr : readP t with ⟨e, n, v⟩
   rw [hr] at hv
   cases e with
   | succ e => exact goes_bad (Nat.succ_ne_zero e) hv
   | zero =>
     simp only at hv ⊢
     by_cases hk : s.heads.length = 24
     · rw [if_pos hk]
       rw [if_pos hk] at hv
       exact goes_bad (by decide) hv
     rw [if_neg hk]
     rw [if_neg hk] at hv
     refine goes_on (fun _ => ⟨part_nil, fun h => (by rcases h with h | h; exact absurd h h2; exact absurd h h4), i3, fun h => absurd h p0, fun _ => i5 (.inl p1)⟩) ?_
     refine Eq.trans ?_ (con1 (by exact he) (by exact p1) b).symm
     exact hv
 rw [if_neg p1]
 by_cases p3 : s.phase = 3
 · rw [if_pos p3]
   have hv : (fun b => conP s (c :: b)) b = finP (chuP s.start s.heads s.body (s.line ++ c :: b)) := con3 he p3 _
   rw [chuP_eq', hl] at hv
   simp only at hv
   cases hz : sizeP t with
   | none =>
     rw [hz] at hv
     exact goes_bad (by decide) hv
   | some n =>
     rw [hz] at hv
     simp only at hv ⊢
     by_cases hx : 0 < n ∧ 1024 < s.body.length + n
     · rw [if_pos hx]
       rw [if_pos hx] at hv
       exact goes_bad (by decide) hv
     rw [if_neg hx]
     rw [if_neg hx] at hv
     by_cases hn : n = 0
     · rw [if_pos hn]
       rw [if_pos hn] at hv
       refine goes_on (fun _ => ⟨part_nil, fun h => (by rcases h with h | h <;> cases h), by simp, fun h => (by cases h), fun h => (by rcases h with h | h <;> cases h)⟩) ?_
       refine Eq.trans ?_ (con6 (by exact he) (by rfl) b).symm
       exact hv
     · rw [if_neg hn]
       rw [if_neg hn] at hv
       refine goes_on (fun _ => ⟨part_nil, fun _ => ⟨by simp; omega, rfl⟩, by simp, fun h => (by cases h), fun h => (by rcases h with h | h <;> cases h)⟩) ?_
       refine Eq.trans ?_ (con4 (by exact he) (by rfl) b).symm
       exact hv
 rw [if_neg p3]
 by_cases p5 : s.phase = 5
 · have hv : (fun b => conP s (c :: b)) b = finP (tilP false s.start s.heads s.body (s.line ++ c :: b)) := con5 he p5 _
   unfold tilP at hv
   rw [hl] at hv
   simp only at hv
   by_cases ht : t = []
   · rw [if_neg (fun h => h ht), if_pos p5]
     rw [if_neg (fun h => h ht), if_neg Bool.false_ne_true] at hv
     refine goes_on (fun _ => ⟨part_nil, fun h => (by rcases h with h | h <;> cases h), by simp, fun h => (by cases h), fun h => (by rcases h with h | h <;> cases h)⟩) ?_
     refine Eq.trans ?_ (con3 (by exact he) (by rfl) b).symm
     exact hv
   · rw [if_pos ht]
     rw [if_pos ht] at hv
     exact goes_bad (by decide) hv
 · have p6 : s.phase = 6 := by omega
   have hv : (fun b => conP s (c :: b)) b = finP (tilP true s.start s.heads s.body (s.line ++ c :: b)) := con6 he p6 _
   unfold tilP at hv
   rw [hl] at hv
   simp only at hv
   by_cases ht : t = []
   · rw [if_neg (fun h => h ht), if_neg p5]
     rw [if_neg (fun h => h ht)] at hv
     simp only [if_true] at hv
     exact goes_out hv
   · rw [if_pos ht]
     rw [if_pos ht] at hv
     exact goes_bad (by decide) hv
theorem byte_step {s : Ps} (h : liveP s) (he : s.err = 0) (hp : s.phase = 2 ∨ s.phase = 4) (c : UInt8) (b : List UInt8) : goesP s (s.byte c) (fun b => conP s (c :: b)) b := by
 obtain ⟨i1, i2, i3, i4, i5⟩ := h he
 obtain ⟨l1, l2⟩ := i2 hp
 have ht : ∀ k, (c :: b).take (k + 1) = c :: b.take k := fun k => rfl
 have hd : ∀ k, (c :: b).drop (k + 1) = b.drop k := fun k => rfl
 obtain ⟨k, hk⟩ : ∃ k, s.left = k + 1 := ⟨s.left - 1, by omega⟩
 unfold Ps.byte
 rw [hk]
 by_cases h1 : 1 < k + 1
 · rw [if_pos h1]
   refine goes_on (fun _ => ⟨i1, fun _ => ⟨by simp; omega, l2⟩, i3, fun h => (by rcases hp with hp | hp <;> rw [hp] at h <;> cases h), fun h => (by rcases hp with hp | hp <;> rw [hp] at h <;> rcases h with h | h <;> cases h)⟩) ?_
   rcases hp with hp | hp
   · refine Eq.trans ?_ (con2 (by exact he) (by exact hp) b).symm
     rw [con2 he hp, hk, ht, hd]
     simp only [List.length_cons, Nat.add_sub_cancel, Nat.add_lt_add_iff_right, List.append_assoc, List.singleton_append]
   · refine Eq.trans ?_ (con4 (by exact he) (by exact hp) b).symm
     rw [con4 he hp, hk]
     unfold bytP
     rw [ht, hd]
     simp only [List.length_cons, Nat.add_sub_cancel, Nat.add_lt_add_iff_right, List.append_assoc, List.singleton_append]
 · rw [if_neg h1]
   have hk0 : k = 0 := by omega
   subst hk0
   rcases hp with hp | hp
   · rw [if_pos hp]
     refine goes_out ?_
     rw [con2 he hp, hk, if_neg (by simp)]
     rfl
   · rw [if_neg (by omega)]
     refine goes_on (fun _ => ⟨i1, fun h => (by rcases h with h | h <;> cases h), by simp, fun h => (by cases h), fun h => (by rcases h with h | h <;> cases h)⟩) ?_
     refine Eq.trans ?_ (con5 (by exact he) (by rfl) b).symm
     rw [con4 he hp, hk]
     unfold bytP
     rw [if_neg (by simp), l2]
     rfl
theorem con_step {s : Ps} (h : liveP s) (c : UInt8) (b : List UInt8) : goesP s (stepP s c) (fun b => conP s (c :: b)) b := by
 unfold stepP
 by_cases he : s.err ≠ 0
 · rw [if_pos he]
   refine ⟨h, ?_⟩
   have hc : ∀ b, conP s b = ([], false, s.err) := fun b => by unfold conP; rw [if_pos he]
   exact (hc (c :: b)).trans (by rw [hc b]; rfl)
 have he := Decidable.not_not.1 he
 rw [if_neg (fun h => h he)]
 by_cases hp : s.phase = 2 ∨ s.phase = 4
 · rw [if_pos hp]
   exact byte_step h he hp c b
 rw [if_neg hp]
 obtain ⟨i1, i2, i3, i4, i5⟩ := h he
 rcases take_line i1 c b with ⟨l, e1, e2, e3⟩ | ⟨e, e1, e2, e3⟩ | ⟨t, e1, e2⟩
 · rw [e1]
   refine goes_on (fun _ => ⟨e3, fun h => absurd h hp, i3, i4, i5⟩) ?_
   have hx : s.line ++ c :: b = l ++ b := by rw [e2]; simp
   rcases (by omega : s.phase = 0 ∨ s.phase = 1 ∨ s.phase = 3 ∨ s.phase = 5 ∨ s.phase = 6) with p | p | p | p | p
   · refine Eq.trans ?_ (con0' (by exact he) (by exact p) (by rw [e2]; simp)).symm
     rw [con0' he p (by simp), hx]
   · refine Eq.trans ?_ (con1 (by exact he) (by exact p) b).symm
     rw [con1 he p, hx]
   · refine Eq.trans ?_ (con3 (by exact he) (by exact p) b).symm
     rw [con3 he p, hx]
   · refine Eq.trans ?_ (con5 (by exact he) (by exact p) b).symm
     rw [con5 he p, hx]
   · refine Eq.trans ?_ (con6 (by exact he) (by exact p) b).symm
     rw [con6 he p, hx]
 · rw [e1]
   refine goes_bad e2 ?_
   rcases (by omega : s.phase = 0 ∨ s.phase = 1 ∨ s.phase = 3 ∨ s.phase = 5 ∨ s.phase = 6) with p | p | p | p | p
   · rw [con0' he p (by simp)]; unfold mesP; rw [e3]; rfl
   · rw [con1 he p, heaP_eq, e3]; rfl
   · rw [con3 he p, chuP_eq, e3]; rfl
   · rw [con5 he p]; unfold tilP; rw [e3]; rfl
   · rw [con6 he p]; unfold tilP; rw [e3]; rfl
 · rw [e1]
   exact whole_step h he (fun h => hp (.inl h)) (fun h => hp (.inr h)) e2
theorem con_run : ∀ (b : List UInt8) {s : Ps}, liveP s → liveP (runP s b).1 ∧ conP s b = ((runP s b).2, idleP (runP s b).1, (runP s b).1.err)
 | [], s, h => ⟨h, by rw [con_nil h]; rfl⟩
 | c :: b, s, h => by
   obtain ⟨g1, g2⟩ := con_step h c b
   obtain ⟨r1, r2⟩ := con_run b g1
   rw [runP_cons]
   refine ⟨r1, ?_⟩
   simp only at g2 ⊢
   rw [g2, r2]
/-- Byte by byte, or at once: the same messages, the same fault. -/
theorem run_row (b : List UInt8) : rowP b = ((runP new0 b).2, idleP (runP new0 b).1, (runP new0 b).1.err) := by
 rw [← con_new]
 exact (con_run b live_new).2
end Go.Proofs.YtafmgoekgijfgaaGreatDoor
namespace Go.Proofs.YtafmgoekgijfgaaGreatDoor

/-- One message, and no more. -/
def aloneP (b : List UInt8) (x : Rw) : Prop := rowP b = ([x], true, 0)
end Go.Proofs.YtafmgoekgijfgaaGreatDoor
namespace Go.Proofs.YtafmgoekgijfgaaGreatDoor

/-- A header's line. -/
def linH (h : Hd) : List UInt8 := h.n.data.toList ++ 58 :: 32 :: h.v.data.toList
def linsH (l : List Hd) : List UInt8 := l.flatMap fun h => linH h ++ [13, 10]
def dgX (n : Nat) : UInt8 := if n < 10 then UInt8.ofNat (48 + n) else UInt8.ofNat (87 + n)
/-- A number by digits 0-9, a-f (three at most). -/
def hexS (n : Nat) : List UInt8 := if n < 16 then [dgX n] else if n < 256 then [dgX (n / 16), dgX (n % 16)] else [dgX (n / 256), dgX (n / 16 % 16), dgX (n % 16)]
/-- A body's bytes. -/
def bodS (f : Bd) (body : List UInt8) : List UInt8 :=
 if f.chunked = 1 then (if body = [] then [] else hexS body.length ++ 13 :: 10 :: (body ++ [13, 10])) ++ [48, 13, 10, 13, 10] else body
def wrtP (x : Rw) : List UInt8 := x.start ++ 13 :: 10 :: (linsH x.heads ++ 13 :: 10 :: bodS (framP x.heads).2 x.body)
def priB (c : UInt8) : Bool := decide (32 ≤ c.toNat ∧ c.toNat ≤ 126)
/-- Headers, and a body, fit. -/
def fitP (h : List Hd) (body : List UInt8) : Bool := decide ((framP h).1 = 0) && mayH h && decide (body.length ≤ 1024) && (decide ((framP h).2.chunked = 1) || decide (body.length = (framP h).2.len))
def wrtB (x : Rw) : Bool := decide (1 ≤ x.start.length ∧ x.start.length ≤ 578) && x.start.all priB && fitP x.heads x.body
theorem pri_inl : ∀ c : UInt8, (priB c = true → inl c) ∧ (tokB c = true → inl c) ∧ ((wsB c || viB c) = true → inl c) := by
 unfold inl
 refine all_u8 ?_
 decide +kernel
theorem hex_size : ∀ n : Fin 1025, sizeP (hexS n.val) = some n.val ∧ (hexS n.val).all (fun c => decide (c ≠ 10 ∧ c ≠ 13)) = true ∧ (hexS n.val).length ≤ 3 := by decide +kernel
theorem hexS_size {n : Nat} (h : n ≤ 1024) : sizeP (hexS n) = some n ∧ (∀ c ∈ hexS n, inl c) ∧ (hexS n).length ≤ 578 := by
 obtain ⟨h1, h2, h3⟩ := hex_size ⟨n, by omega⟩
 refine ⟨h1, fun c hc => ?_, by simp only at h3; omega⟩
 have := List.all_eq_true.1 h2 c hc
 simp only [decide_eq_true_eq] at this
 exact this
theorem linH_inl {h : Hd} (hg : goodP h = true) : (∀ c ∈ linH h, inl c) ∧ (linH h).length ≤ 578 := by
 unfold goodP at hg
 simp only [Bool.and_eq_true] at hg
 obtain ⟨h1, h2⟩ := hg
 have l1 := nameP_len h1
 have l2 := valP_len h2
 unfold linH
 refine ⟨fun c hc => ?_, by simp only [List.length_append, List.length_cons]; omega⟩
 rcases List.mem_append.1 hc with hc | hc
 · exact (pri_inl c).2.1 (nameP_tok h1 c hc)
 rcases List.mem_cons.1 hc with rfl | hc
 · exact ⟨by decide, by decide⟩
 rcases List.mem_cons.1 hc with rfl | hc
 · exact ⟨by decide, by decide⟩
 · unfold valP at h2
   simp only [Bool.and_eq_true, List.all_eq_true] at h2
   exact (pri_inl c).2.2 (h2.1.2 c hc)
/-- What is read fits. -/
def keptP (s : List UInt8) (h : List Hd) (m : MR) : Prop := ∀ x r, m = .msg x r → x.start = s ∧ x.heads = h ∧ x.body.length ≤ 1024
theorem chuP_kept : ∀ (k : Nat) (b : List UInt8), b.length ≤ k → ∀ (s : List UInt8) (h : List Hd) (body : List UInt8), body.length ≤ 1024 → keptP s h (chuP s h body b) := by
 intro k
 induction k with
 | zero =>
   intro b hb s h body hbo x r e
   have : b = [] := List.eq_nil_of_length_eq_zero (by omega)
   subst this
   rw [chuP_eq, rdlP_nil] at e
   cases e
 | succ k ih =>
   intro b hb s h body hbo x r e
   rw [chuP_eq] at e
   split at e
   · cases e
   · cases e
   rename_i t q hl
   have l1 := rdlP_len hl
   split at e
   · cases e
   rename_i n hz
   split at e
   · cases e
   rename_i hn
   split at e
   · cases e
   split at e
   · cases e
   · cases e
   rename_i u q' hl2
   have l2 := rdlP_len hl2
   rw [List.length_drop] at l2
   split at e
   · cases e
   split at e
   · injection e with e _
     rw [← e]
     exact ⟨rfl, rfl, hbo⟩
   · exact ih q' (by omega) _ _ _ (by rw [List.length_append, List.length_take]; omega) _ _ e
theorem lenP_le {s : List UInt8} {f : Bd} (h : lenP s = (0, f)) : f.len ≤ 1024 := by
 unfold lenP at h
 split at h
 · cases h
 split at h
 · cases h
 · rename_i hn
   injection h with _ h
   rw [← h]
   exact Nat.le_of_not_lt hn
theorem framP_le {l : List Hd} {f : Bd} (h : framP l = (0, f)) : f.len ≤ 1024 := by
 unfold framP frmP at h
 split at h
 · cases h
 split at h
 · split at h
   · injection h with _ h; rw [← h]; decide
   · cases h
 · split at h
   · exact lenP_le h
   · injection h with _ h; rw [← h]; decide
end Go.Proofs.YtafmgoekgijfgaaGreatDoor
namespace Go.Proofs.YtafmgoekgijfgaaGreatDoor

/-- A request. -/
structure Rq where
 method : List UInt8
 target : List UInt8
 path : List UInt8
 query : List UInt8
 host : List UInt8
 heads : List Hd
 body : List UInt8
end Go.Proofs.YtafmgoekgijfgaaGreatDoor
namespace Go.Proofs.YtafmgoekgijfgaaGreatDoor

theorem drop_of_suf {a b : List UInt8} (h : a <:+ b) : a = b.drop (b.length - a.length) := by
 obtain ⟨t, rfl⟩ := h
 rw [List.length_append, Nat.add_sub_cancel, List.drop_left]
theorem suf_drop (k : Nat) (b : List UInt8) : b.drop k <:+ b := List.drop_suffix k b
theorem rdl_suf {n : Nat} {b s r : List UInt8} (h : rdlP n b = .line s r) : r <:+ b := by
 rw [(rdlP_line b n h).1]
 exact ⟨s ++ [13, 10], by simp⟩
/-- Where the next line begins. -/
theorem rdl_at {b s r : List UInt8} {k : Nat} (h : rdlP 0 (b.drop k) = .line s r) : k + s.length + 2 ≤ b.length ∧ r = b.drop (k + s.length + 2) ∧ s = (b.drop k).take s.length ∧ s.length ≤ 578 := by
 obtain ⟨e, _, hl⟩ := rdlP_line _ _ h
 have hlen : (b.drop k).length = s.length + 2 + r.length := by rw [e]; simp; omega
 rw [List.length_drop] at hlen
 refine ⟨by omega, ?_, by rw [e]; simp, by have := hl (by omega); omega⟩
 rw [show k + s.length + 2 = k + (s.length + 2) from by omega, ← List.drop_drop, e, show s ++ 13 :: 10 :: r = (s ++ [13, 10]) ++ r from by simp, List.drop_left' (by simp)]
/-- A line gone through from k on, as far as i. -/
theorem rdl_scan {b : List UInt8} {k i : Nat} (hi : k ≤ i) (hb : i ≤ b.length) (ha : ∀ c ∈ (b.drop k).take (i - k), inl c) (hn : i - k ≤ 578) : rdlP 0 (b.drop k) = (rdlP (i - k) (b.drop i)).pre ((b.drop k).take (i - k)) := by
 have hl : ((b.drop k).take (i - k)).length = i - k := by rw [List.length_take, List.length_drop]; omega
 have h := rdlP_app ((b.drop k).take (i - k)) 0 ((b.drop k).drop (i - k)) ha (by omega)
 rw [List.take_append_drop, List.drop_drop, show k + (i - k) = i from by omega, hl, Nat.zero_add] at h
 exact h
theorem scan_next {b : List UInt8} {k i : Nat} (hi : k ≤ i) (hb : i < b.length) (ha : ∀ c ∈ (b.drop k).take (i - k), inl c) (hc : inl (b[i])) : ∀ c ∈ (b.drop k).take (i + 1 - k), inl c := by
 intro c hm
 rw [show i + 1 - k = (i - k) + 1 from by omega, List.take_add_one] at hm
 rcases List.mem_append.1 hm with hm | hm
 · exact ha c hm
 · have hx : (b.drop k)[i - k]? = some b[i] := by
     rw [List.getElem?_drop, show k + (i - k) = i from by omega, List.getElem?_eq_getElem hb]
   rw [hx] at hm
   simp at hm
   rw [hm]
   exact hc
theorem scan_none (b : List UInt8) (k : Nat) : ∀ c ∈ (b.drop k).take (k - k), inl c := by
 intro c hm
 rw [Nat.sub_self, List.take_zero] at hm
 cases hm
theorem chuP_suf : ∀ (k : Nat) (b : List UInt8), b.length ≤ k → ∀ (s : List UInt8) (h : List Hd) (body : List UInt8) (x : Rw) (r : List UInt8), chuP s h body b = .msg x r → r <:+ b := by
 intro k
 induction k with
 | zero =>
   intro b hb s h body x r e
   have : b = [] := List.eq_nil_of_length_eq_zero (by omega)
   subst this
   rw [chuP_eq, rdlP_nil] at e
   cases e
 | succ k ih =>
   intro b hb s h body x r e
   rw [chuP_eq] at e
   split at e
   · cases e
   · cases e
   rename_i t q hl
   have l1 := rdlP_len hl
   have s1 := rdl_suf hl
   split at e
   · cases e
   rename_i n hz
   split at e
   · cases e
   split at e
   · cases e
   split at e
   · cases e
   · cases e
   rename_i u q' hl2
   have l2 := rdlP_len hl2
   have s2 := ((rdl_suf hl2).trans (suf_drop n q)).trans s1
   rw [List.length_drop] at l2
   split at e
   · cases e
   split at e
   · injection e with _ e
     rw [← e]
     exact s2
   · exact (ih q' (by omega) _ _ _ _ _ e).trans s2
theorem heaP_suf : ∀ (k : Nat) (b : List UInt8), b.length ≤ k → ∀ (s : List UInt8) (h : List Hd) (x : Rw) (r : List UInt8), heaP s h b = .msg x r → r <:+ b := by
 intro k
 induction k with
 | zero =>
   intro b hb s h x r e
   have : b = [] := List.eq_nil_of_length_eq_zero (by omega)
   subst this
   rw [heaP_eq, rdlP_nil] at e
   cases e
 | succ k ih =>
   intro b hb s h x r e
   rw [heaP_eq] at e
   split at e
   · cases e
   · cases e
   rename_i t q hl
   have l1 := rdlP_len hl
   have s1 := rdl_suf hl
   split at e
   · unfold bodP at e
     split at e
     · split at e
       · exact (chuP_suf _ q (Nat.le_refl _) _ _ _ _ _ e).trans s1
       split at e
       · cases e
       · injection e with _ e
         rw [← e]
         exact (suf_drop _ q).trans s1
     · cases e
   split at e
   · split at e
     · cases e
     · exact (ih q (by omega) _ _ _ _ e).trans s1
   · cases e
theorem mesP_suf {b : List UInt8} {x : Rw} {r : List UInt8} (e : mesP b = .msg x r) : r <:+ b := by
 unfold mesP at e
 split at e
 · cases e
 · cases e
 rename_i t q hl
 exact (heaP_suf _ q (Nat.le_refl _) _ _ _ _ e).trans (rdl_suf hl)
/-- Where the next message begins. -/
theorem mes_at {b : List UInt8} {k : Nat} {x : Rw} {r : List UInt8} (e : mesP (b.drop k) = .msg x r) : k < b.length - r.length ∧ b.length - r.length ≤ b.length ∧ r = b.drop (b.length - r.length) := by
 have hl := mesP_len e
 rw [List.length_drop] at hl
 exact ⟨by omega, by omega, drop_of_suf ((mesP_suf e).trans (suf_drop k b))⟩
/-- As many messages as bytes, at most. -/
theorem row_len : ∀ (k : Nat) (b : List UInt8), b.length ≤ k → (rowP b).1.length ≤ b.length := by
 intro k
 induction k with
 | zero =>
   intro b hb
   have : b = [] := List.eq_nil_of_length_eq_zero (by omega)
   subst this
   rw [rowP_nil]
   exact Nat.le_refl _
 | succ k ih =>
   intro b hb
   by_cases h : b = []
   · rw [h, rowP_nil]; exact Nat.le_refl _
   rw [rowP_fin h]
   cases hm : mesP b with
   | more => simp [finP]
   | bad e => simp [finP]
   | msg x r =>
     have hl := mesP_len hm
     have := ih r (by omega)
     simp only [finP, List.length_cons]
     omega
end Go.Proofs.YtafmgoekgijfgaaGreatDoor
namespace Go.Proofs.YtafmgoekgijfgaaGreatDoor

theorem hexV_lt : ∀ c : UInt8, ∀ d, hexV c = some d → d < 16 ∧ (c ≠ 48 → 0 < d) := by
 refine all_u8 ?_
 decide +kernel
theorem sizeN_pow : ∀ (l : List UInt8) (n m : Nat), sizeN n l = some m → n * 16 ^ l.length ≤ m ∧ m < (n + 1) * 16 ^ l.length
 | [], n, m, h => by
   injection h with h
   subst h
   simp
 | c :: l, n, m, h => by
   rw [sizeN] at h
   cases hc : hexV c with
   | none => rw [hc] at h; cases h
   | some d =>
     rw [hc] at h
     have hd := (hexV_lt c d hc).1
     obtain ⟨h1, h2⟩ := sizeN_pow l (n * 16 + d) m h
     rw [List.length_cons, Nat.pow_succ]
     generalize 16 ^ l.length = q at *
     refine ⟨Nat.le_trans ?_ h1, Nat.lt_of_lt_of_le h2 ?_⟩
     · calc n * (q * 16) = (n * 16) * q := by rw [Nat.mul_comm q 16, Nat.mul_assoc]
         _ ≤ (n * 16 + d) * q := Nat.mul_le_mul_right _ (by omega)
     · calc (n * 16 + d + 1) * q ≤ ((n + 1) * 16) * q := Nat.mul_le_mul_right _ (by omega)
         _ = (n + 1) * (q * 16) := by rw [Nat.mul_comm q 16, Nat.mul_assoc]
/-- A number of four such digits at most, as the library reads it. -/
def sixP (s : List UInt8) : Option Nat := if s = [] then none else match sizeN 0 s with
 | some n => if n < 65536 then some n else none
 | none => none
theorem size_nought : sizeP [48] = some 0 := by decide
theorem size_lead {s : List UInt8} (h : s.head? = some 48) (h1 : s ≠ [48]) : sizeP s = none := by
 unfold sizeP
 rw [if_pos]
 match s, h, h1 with
 | [c], h, h1 => simp at h; subst h; exact absurd rfl h1
 | c :: d :: r, h, _ => exact .inr (.inr ⟨by simp, h⟩)
theorem size_six {s : List UInt8} (h : s.head? ≠ some 48) : sizeP s = sixP s := by
 unfold sizeP sixP
 by_cases h0 : s = []
 · rw [if_pos (.inl h0), if_pos h0]
 rw [if_neg h0]
 by_cases h4 : 4 < s.length
 · rw [if_pos (.inr (.inl h4))]
   cases hn : sizeN 0 s with
   | none => rfl
   | some n =>
     simp only
     rw [if_neg]
     cases s with
     | nil => exact absurd rfl h0
     | cons c r =>
       rw [sizeN] at hn
       cases hc : hexV c with
       | none => rw [hc] at hn; cases hn
       | some d =>
         rw [hc] at hn
         have hd := (hexV_lt c d hc).2 (fun e => h (by rw [e]; rfl))
         obtain ⟨h1, _⟩ := sizeN_pow r _ _ hn
         have h2 : 16 ^ 4 ≤ 16 ^ r.length := Nat.pow_le_pow_right (by decide) (by simp at h4; omega)
         have h3 : 1 * 16 ^ r.length ≤ (0 * 16 + d) * 16 ^ r.length := Nat.mul_le_mul_right _ (by omega)
         omega
 · rw [if_neg (by rintro (h' | h' | h'); exact h0 h'; exact h4 h'; exact h h'.2)]
   cases hn : sizeN 0 s with
   | none => rfl
   | some n =>
     simp only
     obtain ⟨_, h1⟩ := sizeN_pow s _ _ hn
     have h2 : 16 ^ s.length ≤ 16 ^ 4 := Nat.pow_le_pow_right (by decide) (by omega)
     rw [if_pos (by omega)]
theorem six_pos {s : List UInt8} {n : Nat} (h : s.head? ≠ some 48) (hs : sixP s = some n) : 0 < n ∧ n < 65536 := by
 unfold sixP at hs
 split at hs
 · cases hs
 rename_i h0
 split at hs
 · rename_i m hm
   split at hs
   · rename_i hl
     injection hs with hs
     subst hs
     refine ⟨?_, hl⟩
     cases s with
     | nil => exact absurd rfl h0
     | cons c r =>
       rw [sizeN] at hm
       cases hc : hexV c with
       | none => rw [hc] at hm; cases hm
       | some d =>
         rw [hc] at hm
         have hd := (hexV_lt c d hc).2 (fun e => h (by rw [e]; rfl))
         obtain ⟨h1, _⟩ := sizeN_pow r _ _ hm
         have h3 : 1 * 16 ^ r.length ≤ (0 * 16 + d) * 16 ^ r.length := Nat.mul_le_mul_right _ (by omega)
         have : 0 < 16 ^ r.length := Nat.pow_pos (by decide)
         omega
   · cases hs
 · cases hs
end Go.Proofs.YtafmgoekgijfgaaGreatDoor
namespace Go.Proofs.YtafmgoekgijfgaaGreatDoor

/-- A message as it is read. -/
def goodR (x : Rw) : Prop := mayH x.heads = true ∧ x.body.length ≤ 1024 ∧ x.start.length ≤ 578
/-- A reading as it comes to be: what it has. -/
structure goodS (s : Ps) : Prop where
 heads : mayH s.heads = true
 body : s.body.length + s.left ≤ 1024
 start : s.start.length ≤ 578
 line : s.line.length ≤ 579
 left : s.phase ≠ 2 → s.phase ≠ 4 → s.left = 0
 err : s.err ≤ 6
theorem good_bad (s : Ps) {e : Nat} (he : e ≤ 6) : goodS (s.bad e) := ⟨rfl, Nat.zero_le _, Nat.zero_le _, Nat.zero_le _, fun _ _ => rfl, he⟩
theorem good_new : goodS new0 := ⟨rfl, by decide, by decide, by decide, fun _ _ => rfl, by decide⟩
theorem part_len {l : List UInt8} (h : partL l) : l.length ≤ 579 := by
 obtain ⟨a, _, h2, rfl | rfl⟩ := h
 · omega
 · simp; omega
theorem mayH_len {l : List Hd} (h : mayH l = true) : l.length ≤ 24 := by
 unfold mayH at h
 simp only [Bool.and_eq_true, decide_eq_true_eq] at h
 exact h.2
theorem mayH_mem {l : List Hd} (h : mayH l = true) : ∀ x ∈ l, goodP x = true := by
 unfold mayH at h
 simp only [Bool.and_eq_true, List.all_eq_true] at h
 exact h.1
theorem mayH_one {l : List Hd} {n v : List UInt8} (h : mayH l = true) (hr : ∃ s, readP s = (0, n, v)) (hk : l.length ≠ 24) : mayH (l ++ [⟨bo n, bo v⟩]) = true := by
 obtain ⟨s, hr⟩ := hr
 obtain ⟨g1, g2⟩ := readP_ok hr
 have := mayH_len h
 unfold mayH at h ⊢
 simp only [Bool.and_eq_true, decide_eq_true_eq] at h ⊢
 refine ⟨?_, by simp; omega⟩
 rw [List.all_append, h.1]
 simp [goodP, bo_list, g1, g2]
theorem readP_e {s n v : List UInt8} {e : Nat} (h : readP s = (e, n, v)) : e ≤ 6 := by
 unfold readP at h
 split at h
 · injection h with h _; omega
 split at h
 · injection h with h _; omega
 split at h
 · injection h with h _; omega
 · injection h with h _; omega
theorem lenP_e {s : List UInt8} : (lenP s).1 ≤ 6 := by
 unfold lenP
 split
 · decide
 split
 · decide
 · exact Nat.zero_le _
theorem framP_e (l : List Hd) : (framP l).1 ≤ 6 := by
 unfold framP frmP
 split
 · decide
 split
 · split
   · exact Nat.zero_le _
   · decide
 split
 · exact lenP_e
 · exact Nat.zero_le _
def goesG (x : Ps × List Rw) : Prop := goodS x.1 ∧ ∀ r ∈ x.2, goodR r
theorem goesG_on {s : Ps} (h : goodS s) : goesG (s, []) := ⟨h, fun r hr => by cases hr⟩
theorem goesG_out {m : Rw} (h : goodR m) : goesG (new0, [m]) := ⟨good_new, fun r hr => by rw [List.mem_singleton.1 hr]; exact h⟩
theorem take_len {l : List UInt8} (h : partL l) {c : UInt8} {l' : List UInt8} (e : takL l c = .more l') : l'.length ≤ 579 := by
 rcases take_line h c [] with ⟨x, e1, _, e3⟩ | ⟨x, e1, _⟩ | ⟨x, e1, _⟩
 · rw [e1] at e; injection e with e; rw [← e]; exact part_len e3
 · rw [e1] at e; cases e
 · rw [e1] at e; cases e
theorem take_bad {l : List UInt8} {c : UInt8} {e : Nat} (h : takL l c = .bad e) : e = 2 ∨ e = 6 := by
 unfold takL at h
 split at h
 · split at h
   · cases h
   · injection h with h; exact .inl h.symm
 split at h
 · injection h with h; exact .inl h.symm
 split at h
 · cases h
 split at h
 · injection h with h; exact .inr h.symm
 · cases h
theorem take_whole {l : List UInt8} (h : partL l) {c : UInt8} {t : List UInt8} (e : takL l c = .line t) : t.length ≤ 578 ∧ c = 10 ∧ l = t ++ [13] := by
 unfold takL at e
 split at e
 · rename_i hl
   split at e
   · rename_i hc
     injection e with e
     obtain ⟨a, h1, h2, rfl | rfl⟩ := h
     · exact absurd hl (last_inl h1)
     · rw [List.dropLast_concat] at e
       subst e
       exact ⟨h2, hc, rfl⟩
   · cases e
 split at e
 · cases e
 split at e
 · cases e
 split at e <;> cases e
theorem good_hdone {s : Ps} (h : goodS s) (hb : s.body = []) (h1 : s.phase = 1) : goesG s.hdone := by
 have hl : s.left = 0 := h.left (by omega) (by omega)
 have he := framP_e s.heads
 unfold Ps.hdone
 cases hf : framP s.heads with
 | mk e f =>
   rw [hf] at he
   cases e with
   | succ e => exact goesG_on (good_bad s he)
   | zero =>
     simp only
     split
     · exact goesG_on ⟨h.heads, h.body, h.start, by simp, fun _ _ => hl, h.err⟩
     split
     · exact goesG_out ⟨h.heads, by simp, h.start⟩
     · have := framP_le hf
       exact goesG_on ⟨h.heads, by simp only [hb]; simpa using this, h.start, by simp, fun h => absurd rfl h, h.err⟩
theorem good_whole {s : Ps} (hl : liveP s) (he : s.err = 0) (h : goodS s) (h2 : s.phase ≠ 2) (h4 : s.phase ≠ 4) {t : List UInt8} (ht : t.length ≤ 578) : goesG (s.whole t) := by
 obtain ⟨i1, i2, i3, i4, i5⟩ := hl he
 have hz : s.left = 0 := h.left h2 h4
 have hb := h.body
 unfold Ps.whole
 split
 · exact goesG_on ⟨h.heads, h.body, ht, by simp, fun _ _ => hz, h.err⟩
 split
 · rename_i h1
   split
   · exact good_hdone h (i5 (.inl h1)) h1
   split
   · rename_i n v hr
     split
     · exact goesG_on (good_bad s (by decide))
     · rename_i hk
       exact goesG_on ⟨mayH_one h.heads ⟨t, hr⟩ hk, h.body, h.start, by simp, fun _ _ => hz, h.err⟩
   · rename_i e _ _ _ hr
     exact goesG_on (good_bad s (readP_e hr))
 split
 · split
   · exact goesG_on (good_bad s (by decide))
   split
   · exact goesG_on (good_bad s (by decide))
   split
   · exact goesG_on ⟨h.heads, h.body, h.start, by simp, fun _ _ => hz, h.err⟩
   · rename_i n _ hn hn0
     refine goesG_on ⟨h.heads, ?_, h.start, by simp, fun _ h => absurd rfl h, h.err⟩
     simp only
     have : ¬ 1024 < s.body.length + n := fun h => hn ⟨by omega, h⟩
     omega
 split
 · exact goesG_on (good_bad s (by decide))
 split
 · exact goesG_on ⟨h.heads, h.body, h.start, by simp, fun _ _ => hz, h.err⟩
 · exact goesG_out ⟨h.heads, by simp only; omega, h.start⟩
theorem good_byte {s : Ps} (hl : liveP s) (he : s.err = 0) (h : goodS s) (hp : s.phase = 2 ∨ s.phase = 4) (c : UInt8) : goesG (s.byte c) := by
 have h1 := (hl he).2.1 hp
 have hb := h.body
 unfold Ps.byte
 split
 · refine goesG_on ⟨h.heads, by simp; omega, h.start, h.line, fun a b => ?_, h.err⟩
   rcases hp with hp | hp
   · exact absurd hp a
   · exact absurd hp b
 split
 · exact goesG_out ⟨h.heads, by simp; omega, h.start⟩
 · exact goesG_on ⟨h.heads, by simp; omega, h.start, h.line, fun _ _ => rfl, h.err⟩
theorem good_step {s : Ps} (hl : liveP s) (h : goodS s) (c : UInt8) : goesG (stepP s c) := by
 unfold stepP
 split
 · exact goesG_on h
 rename_i he
 have he := Decidable.not_not.1 he
 split
 · rename_i hp
   exact good_byte hl he h hp c
 rename_i hp
 have i1 := (hl he).1
 split
 · rename_i l hk
   exact goesG_on ⟨h.heads, h.body, h.start, take_len i1 hk, h.left, h.err⟩
 · rename_i e hk
   exact goesG_on (good_bad s (by rcases take_bad hk with rfl | rfl <;> decide))
 · rename_i t hk
   exact good_whole hl he h (fun h => hp (.inl h)) (fun h => hp (.inr h)) (take_whole i1 hk).1
theorem good_run : ∀ (b : List UInt8) {s : Ps}, liveP s → goodS s → goesG (runP s b)
 | [], _, _, h => goesG_on h
 | c :: b, s, hl, h => by
   obtain ⟨g1, g2⟩ := good_step hl h c
   obtain ⟨r1, r2⟩ := good_run b (con_step hl c []).1 g1
   rw [runP_cons]
   refine ⟨r1, fun x hx => ?_⟩
   rcases List.mem_append.1 hx with hx | hx
   · exact g2 x hx
   · exact r2 x hx
end Go.Proofs.YtafmgoekgijfgaaGreatDoor
namespace Go.Proofs.YtafmgoekgijfgaaGreatDoor

end Go.Proofs.YtafmgoekgijfgaaGreatDoor
