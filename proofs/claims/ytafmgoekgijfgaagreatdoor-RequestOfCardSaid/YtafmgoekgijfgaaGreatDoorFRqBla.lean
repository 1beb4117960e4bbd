/- Plain words of layer 10: where the blanks of a first line stand. No program is named here. -/
import Derived.Test.YtafmgoekgijfgaaGreatDoorFRqM1
namespace Go.Proofs.YtafmgoekgijfgaaGreatDoor

/-- Where the blanks stand, from k on. -/
def blaI : Nat → List UInt8 → List Nat
 | _, [] => []
 | k, c :: r => if c = 32 then k :: blaI (k + 1) r else blaI (k + 1) r
theorem blaI_app : ∀ (a : List UInt8) (k : Nat) (b : List UInt8), blaI k (a ++ b) = blaI k a ++ blaI (k + a.length) b
 | [], k, b => by simp [blaI]
 | c :: a, k, b => by
   rw [List.cons_append, blaI, blaI, blaI_app a (k + 1) b, List.length_cons, show k + 1 + a.length = k + (a.length + 1) from by omega]
   split <;> simp
theorem blaI_step {s : List UInt8} {i : Nat} (h : i < s.length) : blaI 0 (s.take (i + 1)) = blaI 0 (s.take i) ++ (if s[i] = 32 then [i] else []) := by
 rw [List.take_add_one, List.getElem?_eq_getElem h, blaI_app, Nat.zero_add, List.length_take, Nat.min_eq_left (Nat.le_of_lt h)]
 simp [blaI]
theorem blaI_len : ∀ (s : List UInt8) (k : Nat), (blaI k s).length ≤ s.length
 | [], _ => Nat.le_refl _
 | c :: s, k => by
   have := blaI_len s (k + 1)
   rw [blaI]
   split
   · simp only [List.length_cons]; omega
   · simp only [List.length_cons]; omega
theorem blaI_cons : ∀ {s : List UInt8} {k i : Nat} {r : List Nat}, blaI k s = i :: r → ∃ a b, s = a ++ 32 :: b ∧ (32 : UInt8) ∉ a ∧ i = k + a.length ∧ blaI (i + 1) b = r
 | [], _, _, _, h => by cases h
 | c :: s, k, i, r, h => by
   rw [blaI] at h
   split at h
   · rename_i hc
     injection h with h1 h2
     subst h1
     exact ⟨[], s, by rw [hc]; rfl, by simp, rfl, h2⟩
   · rename_i hc
     obtain ⟨a, b, e, ha, hi, hr⟩ := blaI_cons h
     refine ⟨c :: a, b, by rw [e]; rfl, ?_, by rw [hi, List.length_cons]; omega, hr⟩
     intro hm
     rcases List.mem_cons.1 hm with hm | hm
     · exact hc hm.symm
     · exact ha hm
theorem blaI_nil : ∀ {s : List UInt8} {k : Nat}, blaI k s = [] → (32 : UInt8) ∉ s
 | [], _, _ => by simp
 | c :: s, k, h => by
   rw [blaI] at h
   split at h
   · cases h
   · rename_i hc
     intro hm
     rcases List.mem_cons.1 hm with hm | hm
     · exact hc hm.symm
     · exact blaI_nil h hm
/-- Two blanks: three parts. -/
theorem blaS_at {s : List UInt8} {i j : Nat} (h : blaI 0 s = [i, j]) : i < j ∧ j < s.length ∧ blaS s = [s.take i, (s.drop (i + 1)).take (j - (i + 1)), s.drop (j + 1)] := by
 obtain ⟨a, b, e1, ha, hi, h2⟩ := blaI_cons h
 obtain ⟨c, d, e2, hc, hj, h3⟩ := blaI_cons h2
 have hd := blaI_nil h3
 rw [Nat.zero_add] at hi
 subst hi
 subst e2
 have hs : s = a ++ 32 :: (c ++ 32 :: d) := e1
 have hl : s.length = a.length + 1 + c.length + 1 + d.length := by rw [hs]; simp only [List.length_append, List.length_cons]; omega
 refine ⟨by omega, by omega, ?_⟩
 have t1 : s.take a.length = a := by rw [hs]; exact List.take_left' rfl
 have t2 : s.drop (a.length + 1) = c ++ 32 :: d := by
   rw [hs, show a ++ 32 :: (c ++ 32 :: d) = (a ++ [32]) ++ (c ++ 32 :: d) from by simp]
   exact List.drop_left' (by simp)
 have t3 : s.drop (j + 1) = d := by
   rw [show j + 1 = a.length + 1 + (c.length + 1) from by omega, ← List.drop_drop, t2, show c ++ 32 :: d = (c ++ [32]) ++ d from by simp]
   exact List.drop_left' (by simp)
 rw [t1, t2, t3, show j - (a.length + 1) = c.length from by omega, List.take_left' rfl]
 exact blaS_three.2 ⟨hs, ha, hc, hd⟩
theorem blaS_two {s m t v : List UInt8} (h : blaS s = [m, t, v]) : (blaI 0 s).length = 2 := by
 obtain ⟨e, h1, h2, h3⟩ := blaS_three.1 h
 have hn : ∀ (a : List UInt8) (k : Nat), (32 : UInt8) ∉ a → blaI k a = [] := by
   intro a
   induction a with
   | nil => intro k _; rfl
   | cons c a ih => intro k hm; rw [blaI, if_neg (not_head hm)]; exact ih _ fun m => hm (List.mem_cons_of_mem _ m)
 rw [e, blaI_app, hn m 0 h1, blaI, if_pos rfl, blaI_app, hn t _ h2, blaI, if_pos rfl, hn v _ h3]
 rfl
theorem of_not_two {x : Rw} (h : (blaI 0 x.start).length ≠ 2) : ofRP x = none := by
 unfold ofRP
 split
 · rename_i m t v e
   exact absurd (blaS_two e) h
 · rfl
/-- What a message is, its first line's parts known. -/
def ofAt (x : Rw) (m t v : List UInt8) : Option Rq :=
 if v = http11 ∧ metP m = true then
   match allP hostA x.heads with
   | [h] => if (hosP (h.data.toList.map smB)).1 = true then (roaP m t).map fun p => ⟨m, t, p.1, p.2, h.data.toList.map smB, x.heads, x.body⟩ else none
   | _ => none
 else none
theorem of_two {x : Rw} {i j : Nat} (h : blaI 0 x.start = [i, j]) : ofRP x = ofAt x (x.start.take i) ((x.start.drop (i + 1)).take (j - (i + 1))) (x.start.drop (j + 1)) := by
 unfold ofRP ofAt
 rw [(blaS_at h).2.2]
 rfl
theorem at_line {x : Rw} {m t v : List UInt8} (h : v ≠ http11) : ofAt x m t v = none := by unfold ofAt; rw [if_neg (fun a => h a.1)]
theorem at_met {x : Rw} {m t v : List UInt8} (h : metP m = false) : ofAt x m t v = none := by unfold ofAt; rw [if_neg (fun a => by rw [h] at a; cases a.2)]
theorem at_hosts {x : Rw} {m t v : List UInt8} (h : (allP hostA x.heads).length ≠ 1) : ofAt x m t v = none := by
 unfold ofAt
 split
 · split
   · rename_i y e
     rw [e] at h
     exact absurd rfl h
   · rfl
 · rfl
theorem at_host {x : Rw} {m t v : List UInt8} {h : ByteArray} (he : allP hostA x.heads = [h]) (hh : (hosP (h.data.toList.map smB)).1 = false) : ofAt x m t v = none := by
 unfold ofAt
 rw [he]
 simp only [hh, Bool.false_eq_true, if_false]
 split <;> rfl
theorem at_road {x : Rw} {m t v : List UInt8} {h : ByteArray} (he : allP hostA x.heads = [h]) (hr : roaP m t = none) : ofAt x m t v = none := by
 unfold ofAt
 rw [he, hr]
 simp only [Option.map_none, ite_self]
theorem at_some {x : Rw} {m t v : List UInt8} {h : ByteArray} {p : List UInt8 × List UInt8} (hv : v = http11) (hm : metP m = true) (he : allP hostA x.heads = [h]) (hh : (hosP (h.data.toList.map smB)).1 = true) (hr : roaP m t = some p) :
   ofAt x m t v = some ⟨m, t, p.1, p.2, h.data.toList.map smB, x.heads, x.body⟩ := by
 unfold ofAt
 rw [if_pos ⟨hv, hm⟩, he]
 simp only [hh, if_true, hr, Option.map_some]
end Go.Proofs.YtafmgoekgijfgaaGreatDoor
