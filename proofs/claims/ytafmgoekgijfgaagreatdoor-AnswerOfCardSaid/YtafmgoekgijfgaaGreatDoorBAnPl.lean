/- Plain words of layer 11: reasons, first lines, answers, there and back. No program is named here. -/
import Derived.Test.YtafmgoekgijfgaaGreatDoorBRqM1
namespace Go.Proofs.YtafmgoekgijfgaaGreatDoor

/-- A number's last digit. -/
def dgS (n : Nat) : UInt8 := UInt8.ofNat (48 + n % 10)
def decF : Nat → Nat → List UInt8
 | 0, _ => []
 | f + 1, n => if n < 10 then [dgS n] else decF f (n / 10) ++ [dgS n]
/-- A number's digits (of less than 10000). -/
def decS (n : Nat) : List UInt8 := decF 4 n
theorem decF_more : ∀ (f n : Nat), n < 10 ^ f → 0 < f → decF (f + 1) n = decF f n
 | 0, _, _, h => absurd h (Nat.lt_irrefl 0)
 | f + 1, n, h, _ => by
   rw [decF]
   conv => rhs; rw [decF]
   by_cases hn : n < 10
   · rw [if_pos hn, if_pos hn]
   · rw [if_neg hn, if_neg hn]
     have hf : 0 < f := by
       rcases Nat.eq_zero_or_pos f with h0 | h0
       · subst h0; omega
       · exact h0
     rw [decF_more f (n / 10) (by rw [Nat.pow_succ] at h; omega) hf]
theorem decS_small {n : Nat} (h : n < 10) : decS n = [dgS n] := by unfold decS; rw [decF, if_pos h]
theorem decS_step {n : Nat} (h : ¬ n < 10) (h4 : n < 10000) : decS n = decS (n / 10) ++ [dgS n] := by
 unfold decS
 rw [decF, if_neg h, decF_more 3 (n / 10) (by omega) (by decide)]
theorem decS_len {n : Nat} (h : n < 10000) : 1 ≤ (decS n).length ∧ (decS n).length ≤ 4 := by
 have h3 : ∀ f m, (decF f m).length ≤ f := by
   intro f
   induction f with
   | zero => intro m; exact Nat.le_refl _
   | succ f ih =>
     intro m
     rw [decF]
     split
     · simp
     · have := ih (m / 10)
       simp only [List.length_append, List.length_cons, List.length_nil]
       omega
 refine ⟨?_, h3 4 n⟩
 by_cases hn : n < 10
 · rw [decS_small hn]; simp
 · rw [decS_step hn h]; simp
theorem decS_three {n : Nat} (h : 100 ≤ n) (h2 : n < 1000) : decS n = [dgS (n / 100), dgS (n / 10), dgS n] := by
 rw [decS_step (by omega) (by omega), decS_step (by omega) (by omega), decS_small (by omega), Nat.div_div_eq_div_mul]
 rfl
def reaP (c : Int) : List UInt8 :=
 if c = 200 then [79, 75] else
 if c = 204 then [78, 111, 32, 67, 111, 110, 116, 101, 110, 116] else
 if c = 400 then [66, 97, 100, 32, 82, 101, 113, 117, 101, 115, 116] else
 if c = 403 then [70, 111, 114, 98, 105, 100, 100, 101, 110] else
 if c = 404 then [78, 111, 116, 32, 70, 111, 117, 110, 100] else
 if c = 502 then [66, 97, 100, 32, 71, 97, 116, 101, 119, 97, 121] else
 if c = 503 then [83, 101, 114, 118, 105, 99, 101, 32, 85, 110, 97, 118, 97, 105, 108, 97, 98, 108, 101] else
 [79, 116, 104, 101, 114]
/-- HTTP/1.1, and a blank. -/
def verL : List UInt8 := [72, 84, 84, 80, 47, 49, 46, 49, 32]
def anLine (c : Nat) : List UInt8 := verL ++ (decS c ++ 32 :: reaP c)
/-- An answer. -/
structure An where
 code : Int
 heads : List Hd
 body : List UInt8
def codB (c : Int) : Bool := decide (200 ≤ c ∧ c ≤ 599)
def mayAB (a : An) : Bool := codB a.code && fitP a.heads a.body
def rawA (a : An) : Rw := ⟨anLine a.code.toNat, a.heads, a.body⟩
/-- The code that a first line tells. -/
def codP (s : List UInt8) : Option Nat :=
 if s.take 9 = verL ∧ 13 ≤ s.length ∧ s[12]? = some 32 ∧ ((s.drop 9).take 3).all digB = true ∧ (s.drop 13).all priB = true ∧ codB (numN 0 ((s.drop 9).take 3)) = true then some (numN 0 ((s.drop 9).take 3)) else none
/-- The answer that a message is. -/
def ofAP (x : Rw) : Option An := match codP x.start with
 | some n => if fitP x.heads x.body = true then some ⟨n, x.heads, x.body⟩ else none
 | none => none
theorem codP_some {s : List UInt8} {n : Nat} (h : codP s = some n) : (s.take 9 = verL ∧ 13 ≤ s.length ∧ s[12]? = some 32 ∧ ((s.drop 9).take 3).all digB = true ∧ (s.drop 13).all priB = true) ∧ codB n = true ∧ n = numN 0 ((s.drop 9).take 3) := by
 unfold codP at h
 split at h
 · rename_i hx
   injection h with h
   subst h
   exact ⟨⟨hx.1, hx.2.1, hx.2.2.1, hx.2.2.2.1, hx.2.2.2.2.1⟩, hx.2.2.2.2.2, rfl⟩
 · cases h
theorem line_facts : ∀ k : Fin 400, codP (anLine (200 + k.val)) = some (200 + k.val) ∧ (anLine (200 + k.val)).all priB = true ∧ (anLine (200 + k.val)).length ≤ 578 ∧ 1 ≤ (anLine (200 + k.val)).length := by decide +kernel
theorem line_cod {c : Nat} (h : codB c = true) : codP (anLine c) = some c ∧ (anLine c).all priB = true ∧ (anLine c).length ≤ 578 ∧ 1 ≤ (anLine c).length := by
 unfold codB at h
 have h := of_decide_eq_true h
 have := line_facts ⟨c - 200, by omega⟩
 simpa [show 200 + (c - 200) = c from by omega] using this
theorem code_nat {c : Int} (h : codB c = true) : ((c.toNat : Nat) : Int) = c := by
 unfold codB at h
 have := of_decide_eq_true h
 omega
theorem ofA_some {x : Rw} {a : An} (h : ofAP x = some a) : mayAB a = true ∧ codP x.start = some a.code.toNat ∧ a.heads = x.heads ∧ a.body = x.body := by
 unfold ofAP at h
 split at h
 · rename_i n hn
   split at h
   · rename_i hf
     injection h with h
     subst h
     refine ⟨?_, hn, rfl, rfl⟩
     unfold mayAB
     simp only [hf, (codP_some hn).2.1, Bool.and_self]
   · cases h
 · cases h
/-- The one answer that bytes are. -/
def oneAP (b : List UInt8) : Nat × Option An :=
 if (rowP b).2.2 ≠ 0 then ((rowP b).2.2, none)
 else match (rowP b).2.1, (rowP b).1 with
   | true, [x] => match ofAP x with
     | some r => (0, some r)
     | none => (2, none)
   | _, _ => (2, none)
theorem oneA_some {b : List UInt8} {r : An} (h : oneAP b = (0, some r)) : ∃ x, aloneP b x ∧ ofAP x = some r := by
 unfold oneAP at h
 split at h
 · injection h with _ h; cases h
 rename_i he
 split at h
 · rename_i x h1 h2
   split at h
   · rename_i r' hr
     injection h with _ h
     injection h with h
     refine ⟨x, ?_, by rw [hr, h]⟩
     unfold aloneP
     rcases hz : rowP b with ⟨l, i, e⟩
     rw [hz] at h1 h2 he
     simp only at h1 h2 he
     rw [h1, h2, Decidable.not_not.1 he]
   · cases h
 · cases h
theorem oneA_may {b : List UInt8} {a : An} (h : oneAP b = (0, some a)) : mayAB a = true := by
 obtain ⟨x, _, h2⟩ := oneA_some h
 exact (ofA_some h2).1
theorem oneA_shape (b : List UInt8) : (∃ r, oneAP b = (0, some r)) ∨ (∃ n, n ≠ 0 ∧ oneAP b = (n, none)) := by
 unfold oneAP
 split
 · rename_i h
   exact .inr ⟨_, h, rfl⟩
 · split
   · split
     · exact .inl ⟨_, rfl⟩
     · exact .inr ⟨2, by decide, rfl⟩
   · exact .inr ⟨2, by decide, rfl⟩
/-- A simple one. -/
def simA (c : Int) (b : List UInt8) : An := ⟨c, [⟨clA, bo (decS b.length)⟩], b⟩
theorem sim_facts : ∀ n : Fin 1025, framP [⟨clA, bo (decS n.val)⟩] = (0, ⟨0, 1, n.val⟩) ∧ mayH [⟨clA, bo (decS n.val)⟩] = true := by decide +kernel
theorem sim_fit (c : Int) (b : List UInt8) : mayAB (simA c b) = (codB c && decide (b.length ≤ 1024)) := by
 unfold mayAB simA
 congr 1
 by_cases h : b.length ≤ 1024
 · obtain ⟨h1, h2⟩ := sim_facts ⟨b.length, by omega⟩
   unfold fitP
   simp only at h1 h2
   rw [h1, h2, decide_eq_true h]
   simp
 · unfold fitP
   rw [decide_eq_false h]
   simp

/-- What stands behind the version. -/
def resA (s : List UInt8) : List UInt8 := if verL <+: s then s.drop 9 else s
def numA (s : List UInt8) : List UInt8 := (resA s).takeWhile (· != 32)
def whyA (s : List UInt8) : List UInt8 := ((resA s).dropWhile (· != 32)).drop 1
theorem num_three (a b c : UInt8) : numN 0 [a, b, c] = ((a.toNat - 48) * 10 + (b.toNat - 48)) * 10 + (c.toNat - 48) := by
 simp only [numN_cons, numN_nil, addN_eq]
 omega
theorem dg_of {c : UInt8} (h : digB c = true) {n : Nat} (hn : n % 10 = c.toNat - 48) : dgS n = c := by
 unfold digB at h
 have h := of_decide_eq_true h
 unfold dgS
 rw [hn, show 48 + (c.toNat - 48) = c.toNat from by omega]
 simp
theorem dec_num {a b c : UInt8} (ha : digB a = true) (hb : digB b = true) (hc : digB c = true) (h : 100 ≤ numN 0 [a, b, c]) : decS (numN 0 [a, b, c]) = [a, b, c] := by
 have h1 : 48 ≤ a.toNat ∧ a.toNat ≤ 57 := of_decide_eq_true ha
 have h2 : 48 ≤ b.toNat ∧ b.toNat ≤ 57 := of_decide_eq_true hb
 have h3 : 48 ≤ c.toNat ∧ c.toNat ≤ 57 := of_decide_eq_true hc
 have e := num_three a b c
 rw [decS_three h (by omega), dg_of ha (by omega), dg_of hb (by omega), dg_of hc (by omega)]
theorem dec_dig {n : Nat} (h : 100 ≤ n) (h2 : n < 1000) : (decS n).length = 3 ∧ (decS n).all digB = true ∧ numN 0 (decS n) = n := by
 have hd : ∀ m, (dgS m).toNat = 48 + m % 10 := by
   intro m
   unfold dgS
   rw [UInt8.toNat_ofNat']
   omega
 have hb : ∀ m, digB (dgS m) = true := by
   intro m
   unfold digB
   rw [hd]
   exact decide_eq_true (by omega)
 rw [decS_three h h2, num_three, hd, hd, hd]
 refine ⟨rfl, by simp [hb], by omega⟩
theorem no_blank {l : List UInt8} (h : l.all digB = true) : ∀ c ∈ l, (c != 32) = true := by
 intro c hc
 have := List.all_eq_true.1 h c hc
 have h1 : 48 ≤ c.toNat ∧ c.toNat ≤ 57 := of_decide_eq_true this
 rw [bne_iff_ne]
 intro e
 subst e
 exact absurd h1.1 (by decide)
theorem list_three {l : List UInt8} (h : l.length = 3) : ∃ a b c, l = [a, b, c] := by
 match l, h with
 | [a, b, c], _ => exact ⟨a, b, c, rfl⟩
/-- As the program reads it. -/
theorem cod_parts {s : List UInt8} {n : Nat} (h : codP s = some n) : verL <+: s ∧ (32 : UInt8) ∈ resA s ∧ numA s = decS n ∧ (whyA s).all priB = true := by
 obtain ⟨⟨h1, h2, h3, h4, h5⟩, h6, h7⟩ := codP_some h
 have hp : verL <+: s := ⟨s.drop 9, by rw [← h1, List.take_append_drop]⟩
 have hr : resA s = s.drop 9 := by unfold resA; rw [if_pos hp]
 have h12 : s.drop 12 = 32 :: s.drop 13 := by
   rw [List.drop_eq_getElem_cons (by omega)]
   have : s[12]? = some s[12] := List.getElem?_eq_getElem (by omega)
   rw [this] at h3
   injection h3 with h3
   rw [h3]
 have hs : s.drop 9 = (s.drop 9).take 3 ++ 32 :: s.drop 13 := by
   conv => lhs; rw [← List.take_append_drop 3 (s.drop 9), List.drop_drop]
   rw [h12]
 obtain ⟨a, b, c, e⟩ := list_three (l := (s.drop 9).take 3) (by rw [List.length_take, List.length_drop]; omega)
 have hb := no_blank h4
 have hn : 200 ≤ n := by
   unfold codB at h6
   have := of_decide_eq_true h6
   omega
 rw [e] at h4 h7 hs hb
 simp only [List.all_cons, List.all_nil, Bool.and_true, Bool.and_eq_true] at h4
 refine ⟨hp, by rw [hr, hs]; simp, ?_, ?_⟩
 · unfold numA
   rw [hr, hs, List.takeWhile_append_of_pos hb, List.takeWhile_cons_of_neg (by decide), List.append_nil, h7]
   exact (dec_num h4.1 h4.2.1 h4.2.2 (by omega)).symm
 · unfold whyA
   rw [hr, hs, List.dropWhile_append_of_pos hb, List.dropWhile_cons_of_neg (by decide)]
   exact h5
theorem cut_blank {l : List UInt8} (h : (32 : UInt8) ∈ l) : l = l.takeWhile (· != 32) ++ 32 :: (l.dropWhile (· != 32)).drop 1 := by
 induction l with
 | nil => cases h
 | cons c r ih =>
   by_cases hc : c = 32
   · subst hc
     simp
   · have hr : (32 : UInt8) ∈ r := by
       rcases List.mem_cons.1 h with h | h
       · exact absurd h.symm hc
       · exact h
     have hb : (c != 32) = true := by rw [bne_iff_ne]; exact hc
     rw [List.takeWhile_cons_of_pos (p := (· != 32)) hb, List.dropWhile_cons_of_pos (p := (· != 32)) hb, List.cons_append, ← ih hr]
theorem parts_cod {s : List UInt8} {n : Nat} (hc : codB n = true) (h1 : verL <+: s) (h2 : (32 : UInt8) ∈ resA s) (h3 : numA s = decS n) (h4 : (whyA s).all priB = true) : codP s = some n := by
 have hn : 200 ≤ n ∧ n ≤ 599 := by
   unfold codB at hc
   have := of_decide_eq_true hc
   omega
 obtain ⟨d1, d2, d3⟩ := dec_dig (n := n) (by omega) (by omega)
 have hr : resA s = s.drop 9 := by unfold resA; rw [if_pos h1]
 obtain ⟨r, hs⟩ := h1
 have hd9 : s.drop 9 = r := by rw [← hs]; exact List.drop_left' rfl
 have e := cut_blank h2
 change resA s = numA s ++ 32 :: whyA s at e
 rw [h3, hr, hd9] at e
 generalize decS n = d at *
 generalize whyA s = y at *
 subst e
 subst hs
 have t9 : (verL ++ (d ++ 32 :: y)).take 9 = verL := List.take_left' rfl
 have t3 : ((verL ++ (d ++ 32 :: y)).drop 9).take 3 = d := by rw [List.drop_left' (show verL.length = 9 from rfl)]; exact List.take_left' d1
 have t13 : (verL ++ (d ++ 32 :: y)).drop 13 = y := by
   rw [show verL ++ (d ++ 32 :: y) = (verL ++ d ++ [32]) ++ y from by simp]
   exact List.drop_left' (by simp only [List.length_append, List.length_cons, List.length_nil, d1]; rfl)
 have t12 : (verL ++ (d ++ 32 :: y))[12]? = some 32 := by
   rw [← List.append_assoc, List.getElem?_append_right (by simp only [List.length_append, d1]; decide)]
   simp only [List.length_append, d1]
   rfl
 unfold codP
 rw [t9, t3, t13, t12, d3, if_pos]
 refine ⟨rfl, ?_, rfl, d2, h4, hc⟩
 simp only [List.length_append, List.length_cons, d1]
 have : verL.length = 9 := rfl
 omega
end Go.Proofs.YtafmgoekgijfgaaGreatDoor
