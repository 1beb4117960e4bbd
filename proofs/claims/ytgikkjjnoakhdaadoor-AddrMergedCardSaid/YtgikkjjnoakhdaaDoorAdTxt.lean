/- Plain words for texts of addresses: no program is named here. -/
import Derived.Test.YtgikkjjnoakhdaaDoorAdPl
import Derived.Lib.ItoaNum
import Derived.Lib.Split
namespace Go.Proofs.YtgikkjjnoakhdaaDoor
open Go.Lib

def digs (most : Nat) : Nat → List UInt8 → Option Nat
  | n, [] => some n
  | n, c :: l => if c.toNat < 48 ∨ 57 < c.toNat then none else if most < 10 * n + (c.toNat - 48) then none else digs most (10 * n + (c.toNat - 48)) l
/-- The number, of at most so much, whose text l is. -/
def numS (most : Nat) (l : List UInt8) : Option Nat := if l = [] then none else if l.head? = some 48 ∧ l ≠ [48] then none else digs most 0 l
/-- The document's way. -/
def digsR (most : Nat) : Nat → List UInt8 → Option Nat
  | n, [] => some n
  | n, c :: l => if (c.toNat < 48 ∨ 57 < c.toNat) ∨ most < n then none else digsR most (10 * n + (c.toNat - 48)) l
def numR (most : Nat) (l : List UInt8) : Option Nat := match digsR most 0 l with | none => none | some n => if most < n ∨ decDigits n ≠ l then none else some n

theorem ofNat_back (c : UInt8) (h1 : 48 ≤ c.toNat) : UInt8.ofNat (48 + (c.toNat - 48)) = c := by
  rw [Nat.add_sub_cancel' h1]
  exact UInt8.ofNat_toNat
theorem ofNat_dig (d : Nat) (h : d < 10) : (UInt8.ofNat (48 + d)).toNat = 48 + d := by
  rw [UInt8.toNat_ofNat']
  omega
theorem decDigits_next (n d : Nat) (hn : 0 < n) (hd : d < 10) : decDigits (10 * n + d) = decDigits n ++ [UInt8.ofNat (48 + d)] := by
  rw [decDigits, dif_neg (by omega), show (10 * n + d) / 10 = n by omega, show (10 * n + d) % 10 = d by omega]
theorem digs_text (most : Nat) : ∀ (l : List UInt8) (n m : Nat), 0 < n → digs most n l = some m → decDigits m = decDigits n ++ l
  | [], n, m, _, h => by
    injection h with h
    rw [h, List.append_nil]
  | c :: l, n, m, hn, h => by
    rw [digs] at h
    split at h
    · cases h
    · rename_i hc
      split at h
      · cases h
      · have ih := digs_text most l _ m (by omega) h
        rw [ih, decDigits_next n _ hn (by omega), ofNat_back c (by omega), List.append_assoc]
        rfl
theorem digs_le (most : Nat) : ∀ (l : List UInt8) (n m : Nat), n ≤ most → digs most n l = some m → m ≤ most
  | [], n, m, hn, h => by
    injection h with h
    omega
  | c :: l, n, m, hn, h => by
    rw [digs] at h
    split at h
    · cases h
    · split at h
      · cases h
      · exact digs_le most l _ m (by omega) h
theorem digs_back (most : Nat) (n : Nat) : ∀ r, n ≤ most → digs most 0 (decDigits n ++ r) = digs most n r := by
  induction n using Nat.strongRecOn with
  | _ n ih =>
    intro r hn
    by_cases h : n < 10
    · rw [decDigits_one h, List.singleton_append, digs, ofNat_dig n h, if_neg (by omega), if_neg (by omega)]
      congr 1
      omega
    · rw [decDigits, dif_neg h, List.append_assoc, ih (n / 10) (by omega) _ (by omega), List.singleton_append, digs, ofNat_dig (n % 10) (by omega), if_neg (by omega), if_neg (by omega)]
      congr 1
      omega
theorem decDigits_ne (n : Nat) : decDigits n ≠ [] := by
  intro h
  have := decDigits_length n
  have := nDigits_pos n
  rw [h] at *
  simp at *
  omega
theorem decDigits_head (n : Nat) : (decDigits n).head? = some 48 → n = 0 := by
  induction n using Nat.strongRecOn with
  | _ n ih =>
    intro h
    by_cases h1 : n < 10
    · rw [decDigits_one h1] at h
      injection h with h
      have := congrArg UInt8.toNat h
      rw [ofNat_dig n h1] at this
      have e : (48 : UInt8).toNat = 48 := rfl
      omega
    · rw [decDigits, dif_neg h1] at h
      obtain ⟨x, xs, hx⟩ := List.exists_cons_of_ne_nil (decDigits_ne (n / 10))
      have := ih (n / 10) (by omega) (by rw [hx] at h ⊢; exact h)
      omega
theorem numS_iff (most : Nat) (l : List UInt8) (n : Nat) : numS most l = some n ↔ n ≤ most ∧ l = decDigits n := by
  constructor
  · intro h
    unfold numS at h
    split at h
    · cases h
    · rename_i hl
      split at h
      · cases h
      · rename_i h0
        refine ⟨digs_le most l 0 n (Nat.zero_le _) h, ?_⟩
        cases l with
        | nil => exact absurd rfl hl
        | cons c l =>
          rw [digs] at h
          split at h
          · cases h
          · rename_i hc
            split at h
            · cases h
            · by_cases h48 : c = 48
              · subst h48
                have : l = [] := by
                  apply Classical.byContradiction
                  intro hne
                  exact h0 ⟨rfl, by simpa using hne⟩
                subst this
                injection h with h
                rw [← h]
                show [48] = decDigits 0
                rw [decDigits_one (by omega)]
                rfl
              · have h49 : c.toNat ≠ 48 := fun e => h48 (UInt8.toNat_inj.1 e)
                rw [digs_text most l _ n (by omega) h, Nat.mul_zero, Nat.zero_add, decDigits_one (by omega), ofNat_back c (by omega)]
                rfl
  · rintro ⟨h, rfl⟩
    unfold numS
    rw [if_neg (decDigits_ne n)]
    have h1 : ¬ ((decDigits n).head? = some 48 ∧ decDigits n ≠ [48]) := by
      rintro ⟨h1, h2⟩
      obtain rfl := decDigits_head n h1
      exact h2 (by rw [decDigits_one (by omega)]; rfl)
    rw [if_neg h1]
    have h2 := digs_back most n [] h
    rw [List.append_nil] at h2
    rw [h2, digs]
theorem digsR_of (most : Nat) : ∀ (l : List UInt8) (n m : Nat), n ≤ most → digs most n l = some m → digsR most n l = some m
  | [], n, m, _, h => h
  | c :: l, n, m, hn, h => by
    rw [digs] at h
    split at h
    · cases h
    · rename_i hc
      split at h
      · cases h
      · rw [digsR, if_neg (by omega)]
        exact digsR_of most l _ m (by omega) h
theorem numR_eq (most : Nat) (l : List UInt8) : numR most l = numS most l := by
  cases h : numS most l with
  | some n =>
    have h1 := (numS_iff most l n).1 h
    have h2 := digs_back most n [] h1.1
    rw [List.append_nil, ← h1.2] at h2
    have h3 := digsR_of most l 0 n (Nat.zero_le _) (by rw [h2]; rfl)
    unfold numR
    rw [h3]
    simp only
    rw [if_neg]
    rintro (h4 | h4)
    · omega
    · exact h4 h1.2.symm
  | none =>
    unfold numR
    cases h2 : digsR most 0 l with
    | none => rfl
    | some n =>
      simp only
      split
      · rfl
      · rename_i h3
        have h4 : n ≤ most ∧ l = decDigits n := ⟨by omega, (Classical.byContradiction fun e => h3 (.inr fun e2 => e e2.symm))⟩
        rw [(numS_iff most l n).2 h4] at h
        cases h

/-- A text at each of a byte. -/
def cutL (c : UInt8) : List UInt8 → List (List UInt8)
  | [] => [[]]
  | x :: l => if x = c then [] :: cutL c l else match cutL c l with | [] => [[x]] | p :: r => (x :: p) :: r
theorem cutL_ne (c : UInt8) : ∀ l, cutL c l ≠ []
  | [] => by simp [cutL]
  | x :: l => by
    rw [cutL]
    split
    · simp
    · split <;> simp
theorem cutL_one (c : UInt8) : ∀ l, c ∉ l → cutL c l = [l]
  | [], _ => rfl
  | x :: l, h => by
    rw [cutL, if_neg (fun e => h (by simp [e])), cutL_one c l (fun e => h (by simp [e]))]
theorem cutL_hit (c : UInt8) (r : List UInt8) : ∀ p, c ∉ p → cutL c (p ++ c :: r) = p :: cutL c r
  | [], _ => by rw [List.nil_append, cutL, if_pos rfl]
  | x :: p, h => by
    rw [List.cons_append, cutL, if_neg (fun e => h (by simp [e])), cutL_hit c r p (fun e => h (by simp [e]))]
theorem split_at (c : UInt8) : ∀ l, c ∉ l ∨ ∃ p r, l = p ++ c :: r ∧ c ∉ p
  | [] => .inl (by simp)
  | x :: l => by
    by_cases hx : x = c
    · exact .inr ⟨[], l, by simp [hx], by simp⟩
    · rcases split_at c l with h | ⟨p, r, h1, h2⟩
      · exact .inl (by simp [h]; exact fun e => hx e.symm)
      · exact .inr ⟨x :: p, r, by simp [h1], by simp [h2]; exact fun e => hx e.symm⟩
theorem cutL_length (c : UInt8) : ∀ l, (cutL c l).length ≤ l.length + 1
  | [] => by simp [cutL]
  | x :: l => by
    have ih := cutL_length c l
    rw [cutL]
    split
    · simpa using ih
    · split
      · simp
      · rename_i h
        rw [h] at ih
        simp at ih ⊢
        omega

theorem index_miss (c : UInt8) : ∀ l, c ∉ l → index l [c] = -1
  | [], _ => rfl
  | x :: l, h => by
    have hx : ¬ (c = x) := fun e => h (by simp [e])
    unfold index
    rw [index_miss c l (fun e => h (by simp [e]))]
    simp [List.isPrefixOf, hx]
theorem index_hit (c : UInt8) (r : List UInt8) : ∀ p, c ∉ p → index (p ++ c :: r) [c] = p.length
  | [], _ => by simp [index, List.isPrefixOf]
  | x :: p, h => by
    have hx : ¬ (c = x) := fun e => h (by simp [e])
    have ih := index_hit c r p (fun e => h (by simp [e]))
    rw [List.cons_append]
    unfold index
    rw [ih]
    have e : ((p.length : Int) == -1) = false := by rw [beq_eq_false_iff_ne]; omega
    simp [List.isPrefixOf, hx, e]
theorem cut_miss (c : UInt8) (l : List UInt8) (h : c ∉ l) : cut l [c] = (l, [], false) := by
  unfold cut
  rw [index_miss c l h]
  rfl
theorem cut_hit (c : UInt8) (p r : List UInt8) (h : c ∉ p) : cut (p ++ c :: r) [c] = (p, r, true) := by
  unfold cut
  rw [index_hit c r p h, if_pos (by omega)]
  simp
theorem split_len (sep : ByteArray) (c : UInt8) (hs : sep.data.toList = [c]) : ∀ (k : Nat) (s : ByteArray), (splitB sep 0 k s).length = min (k + 1) (cutL c s.data.toList).length ∧ ((cutL c s.data.toList).length ≤ k + 1 → (splitB sep 0 k s).map (fun b => b.data.toList) = cutL c s.data.toList)
  | k, s => by
    have hne := cutL_ne c s.data.toList
    have hpos : 0 < (cutL c s.data.toList).length := List.length_pos_iff.2 hne
    rcases split_at c s.data.toList with h | ⟨p, r, h1, h2⟩
    · have hi : indexB s sep = -1 := by unfold indexB; rw [hs]; exact index_miss c _ h
      rw [splitB_miss sep 0 k s hi, cutL_one c _ h]
      exact ⟨by simp, fun _ => rfl⟩
    · have hi : indexB s sep = (p.length : Nat) := by unfold indexB; rw [hs, h1]; exact index_hit c r p h2
      have hc : cutL c s.data.toList = p :: cutL c r := by rw [h1]; exact cutL_hit c r p h2
      have hsz : sep.size = 1 := by
        have h := congrArg List.length hs
        rw [Array.length_toList] at h
        exact h
      have hn2 : 0 < (cutL c r).length := List.length_pos_iff.2 (cutL_ne c r)
      rw [hc]
      cases k with
      | zero => exact ⟨by rw [splitB_zero, List.length_cons, List.length_cons, List.length_nil]; omega, fun h => by rw [List.length_cons] at h; omega⟩
      | succ k =>
        rw [splitB_hit sep 0 k s p.length hi]
        have e1 : (s.extract 0 (p.length + 0)).data.toList = p := by
          rw [ByteArray.data_extract, Array.toList_extract, h1]
          simp
        have e2 : (s.extract (p.length + sep.size) s.size).data.toList = r := by
          rw [ByteArray.data_extract, Array.toList_extract, hsz, h1]
          have hz : s.size = p.length + (1 + r.length) := by
            have h := congrArg List.length h1
            rw [Array.length_toList] at h
            have e : s.size = s.data.size := rfl
            rw [e, h, List.length_append, List.length_cons]
            omega
          rw [hz]
          simp [List.extract_eq_take_drop]
          exact List.take_of_length_le (by omega)
        obtain ⟨i1, i2⟩ := split_len sep c hs k (s.extract (p.length + sep.size) s.size)
        rw [e2] at i1 i2
        refine ⟨by rw [List.length_cons, i1, List.length_cons]; omega, fun h => ?_⟩
        rw [List.map_cons, i2 (by simpa using h)]
        simp [h1]

/-- The address whose text l is. -/
def parseS (l : List UInt8) : Option Nat :=
  match (cutL 46 l).map (numS 255) with
  | [some a, some b, some c, some d] => some (((a * 256 + b) * 256 + c) * 256 + d)
  | _ => none
def byteS (a k : Nat) : Nat := a / 256 ^ (3 - k) % 256
def printS (a : Nat) : List UInt8 := decDigits (byteS a 0) ++ 46 :: (decDigits (byteS a 1) ++ 46 :: (decDigits (byteS a 2) ++ 46 :: decDigits (byteS a 3)))
def parseNetS (l : List UInt8) : Option Net :=
  match cutL 47 l with
  | [h, t] => match parseS h, numS 32 t with
    | some a, some b => if mayB ⟨a, b⟩ = true then some ⟨a, b⟩ else none
    | _, _ => none
  | _ => none
def printNetS (c : Net) : List UInt8 := if mayB c = true then printS c.a ++ 47 :: decDigits c.b.toNat else []

theorem decDigits_only (n : Nat) : ∀ c ∈ decDigits n, 48 ≤ c.toNat ∧ c.toNat ≤ 57 := by
  induction n using Nat.strongRecOn with
  | _ n ih =>
    intro c hc
    by_cases h : n < 10
    · rw [decDigits_one h, List.mem_singleton] at hc
      rw [hc, ofNat_dig n h]
      omega
    · rw [decDigits, dif_neg h, List.mem_append, List.mem_singleton] at hc
      rcases hc with hc | hc
      · exact ih (n / 10) (by omega) c hc
      · rw [hc, ofNat_dig (n % 10) (by omega)]
        omega
theorem decDigits_not (n : Nat) (c : UInt8) (h : c.toNat < 48) : c ∉ decDigits n := fun hc => by have := decDigits_only n c hc; omega
theorem cutL_print (a : Nat) : cutL 46 (printS a) = [decDigits (byteS a 0), decDigits (byteS a 1), decDigits (byteS a 2), decDigits (byteS a 3)] := by
  have h := fun n => decDigits_not n 46 (by decide)
  unfold printS
  rw [cutL_hit _ _ _ (h _), cutL_hit _ _ _ (h _), cutL_hit _ _ _ (h _), cutL_one _ _ (h _)]
theorem byteS_lt (a k : Nat) : byteS a k < 256 := Nat.mod_lt _ (by omega)
theorem bytes_back (a : Nat) (ha : a < 4294967296) : ((byteS a 0 * 256 + byteS a 1) * 256 + byteS a 2) * 256 + byteS a 3 = a := by
  unfold byteS
  simp only [show 3 - 0 = 3 from rfl, show 3 - 1 = 2 from rfl, show 3 - 2 = 1 from rfl, show 3 - 3 = 0 from rfl, show 256 ^ 3 = 16777216 from rfl, show 256 ^ 2 = 65536 from rfl, show 256 ^ 1 = 256 from rfl, show 256 ^ 0 = 1 from rfl]
  omega
theorem bytes_of (a b c d : Nat) (ha : a < 256) (hb : b < 256) (hc : c < 256) (hd : d < 256) : byteS (((a * 256 + b) * 256 + c) * 256 + d) 0 = a ∧ byteS (((a * 256 + b) * 256 + c) * 256 + d) 1 = b ∧ byteS (((a * 256 + b) * 256 + c) * 256 + d) 2 = c ∧ byteS (((a * 256 + b) * 256 + c) * 256 + d) 3 = d := by
  unfold byteS
  simp only [show 3 - 0 = 3 from rfl, show 3 - 1 = 2 from rfl, show 3 - 2 = 1 from rfl, show 3 - 3 = 0 from rfl, show 256 ^ 3 = 16777216 from rfl, show 256 ^ 2 = 65536 from rfl, show 256 ^ 1 = 256 from rfl, show 256 ^ 0 = 1 from rfl]
  omega
theorem parse_print (a : Nat) (ha : a < 4294967296) : parseS (printS a) = some a := by
  have h := fun k => (numS_iff 255 (decDigits (byteS a k)) (byteS a k)).2 ⟨by have := byteS_lt a k; omega, rfl⟩
  unfold parseS
  rw [cutL_print]
  simp only [List.map_cons, List.map_nil, h]
  rw [bytes_back a ha]
theorem joinL (c : UInt8) : ∀ (l : List UInt8) (p : List UInt8) (r : List (List UInt8)), cutL c l = p :: r → l = p ++ (r.flatMap fun q => c :: q)
  | [], p, r, h => by
    simp [cutL] at h
    simp [← h.1, h.2]
  | x :: l, p, r, h => by
    rw [cutL] at h
    split at h
    · rename_i hx
      injection h with h1 h2
      cases hr : cutL c l with
      | nil => exact absurd hr (cutL_ne c l)
      | cons p' r' =>
        have := joinL c l p' r' hr
        rw [← h2, hr, ← h1, hx]
        simp only [List.nil_append, List.flatMap_cons, List.cons_append]
        rw [← this]
    · cases hr : cutL c l with
      | nil => exact absurd hr (cutL_ne c l)
      | cons p' r' =>
        rw [hr] at h
        injection h with h1 h2
        have := joinL c l p' r' hr
        rw [← h1, ← h2, List.cons_append, ← this]
theorem print_parse (l : List UInt8) (a : Nat) (h : parseS l = some a) : printS a = l ∧ a < 4294967296 := by
  unfold parseS at h
  split at h
  · rename_i x y z t he
    injection h with h
    cases hc : cutL 46 l with
    | nil => exact absurd hc (cutL_ne _ _)
    | cons p r =>
      have hj := joinL 46 l p r hc
      rw [hc] at he
      match r, he, hj with
      | [q, u, v], he, hj =>
        simp only [List.map_cons, List.map_nil, List.cons.injEq, and_true] at he
        obtain ⟨e1, e2, e3, e4⟩ := he
        have f1 := (numS_iff _ _ _).1 e1
        have f2 := (numS_iff _ _ _).1 e2
        have f3 := (numS_iff _ _ _).1 e3
        have f4 := (numS_iff _ _ _).1 e4
        obtain ⟨b1, b2, b3, b4⟩ := bytes_of x y z t (by omega) (by omega) (by omega) (by omega)
        rw [h] at b1 b2 b3 b4
        refine ⟨?_, by omega⟩
        unfold printS
        rw [b1, b2, b3, b4, hj, f1.2, f2.2, f3.2, f4.2]
        simp
      | [], he, _ => simp at he
      | [_], he, _ => simp at he
      | [_, _], he, _ => simp at he
      | _ :: _ :: _ :: _ :: _, he, _ => simp at he
  · cases h
theorem cutL_printNet (a b : Nat) : cutL 47 (printS a ++ 47 :: decDigits b) = [printS a, decDigits b] := by
  have h := fun n => decDigits_not n 47 (by decide)
  have h46 : ¬ (47 : UInt8) = 46 := by decide
  rw [cutL_hit _ _ _ (by unfold printS; simp [h, h46]), cutL_one _ _ (h _)]
theorem parse_printNet (c : Net) (hm : mayB c = true) (ha : c.a < 4294967296) : parseNetS (printNetS c) = some c := by
  have hok := (mayB_iff c).1 hm
  have h0 := hok.lo
  have h1 := hok.hi
  have hb : ((c.b.toNat : Nat) : Int) = c.b := by omega
  have hn := (numS_iff 32 (decDigits c.b.toNat) c.b.toNat).2 ⟨by omega, rfl⟩
  unfold parseNetS printNetS
  rw [if_pos hm, cutL_printNet]
  simp only [parse_print c.a ha, hn, hb]
  rw [if_pos hm]
theorem print_parseNet (l : List UInt8) (c : Net) (h : parseNetS l = some c) : printNetS c = l ∧ mayB c = true ∧ c.a < 4294967296 := by
  unfold parseNetS at h
  split at h
  · rename_i p t hc
    split at h
    · rename_i a b h1 h2
      split at h
      · rename_i hm
        injection h with h
        subst h
        have hp := print_parse p a h1
        have hb := (numS_iff _ _ _).1 h2
        refine ⟨?_, hm, hp.2⟩
        have hj := joinL 47 l p [t] hc
        unfold printNetS
        rw [if_pos hm, hj, hp.1, hb.2]
        simp
      · cases h
    · cases h
  · cases h
theorem parseNet_nil : parseNetS [] = none := rfl
end Go.Proofs.YtgikkjjnoakhdaaDoor
